/-
  Layer 8: New.
-/
import Derived.Test.YtealpdofcgbnlaaPPut
import Derived.Great.BuildSlice
import Derived.Laws.MakeOwn
namespace Go.Proofs.Ytealpdofcgbnlaa
open Go.RowKit
set_option linter.unusedVariables false

set_option maxHeartbeats 1000000 in
theorem poolNew_no (n : Int) (w : World) (hn : n < 1 ∨ 256 < n) :
    Calls Try.prog 8 #[.int .i64 n] w fun e w' => e = .returned (.tuple #[.pointer none, .int .i64 7]) ∧ w' = w := by
  go_enter Try.func8, Try.ntmps8
  rcases hn with hn | hn
  · go_wp2
    go_ret2
    exact ⟨rfl, rfl⟩
  · have h0 : ¬ n < 1 := by omega
    go_wp2
    go_ret2
    exact ⟨rfl, rfl⟩

theorem infoBuf : (Try.prog.info? 62).map (fun i => i.zero) = some (some (.agg (P8.cellsB none).toArray)) := by kernel_rfl
theorem zeroBuf : ∀ w, (zeroValue 62).run Try.prog w = .ok (.agg (P8.cellsB none).toArray) w := by
  intro w
  have h := infoBuf
  cases hq : Try.prog.info? 62 with
  | none => simp [hq] at h
  | some i =>
    simp only [hq, Option.map_some, Option.some.injEq] at h
    simp [zeroValue, typeInfo, hq, h]
theorem infoPtr : (Try.prog.info? 59).map (fun i => (i.zero, i.size, i.bytes)) = some (some (.pointer none), 1, 8) := by kernel_rfl

namespace P8
def newPtrs (b n i : Nat) : List Value := ptrs b i ++ List.replicate (n - i) (.pointer none)
theorem newPtrs_zero (b n : Nat) : newPtrs b n 0 = List.replicate n (.pointer none) := by simp [newPtrs, ptrs]
theorem newPtrs_full (b n : Nat) : newPtrs b n n = ptrs b n := by simp [newPtrs]
theorem newPtrs_length {b n i : Nat} (h : i ≤ n) : (newPtrs b n i).length = n := by simp [newPtrs, ptrs]; omega
theorem newPtrs_at {b n i : Nat} (h : i < n) : (newPtrs b n i)[i]? = some (.pointer none) := by
  unfold newPtrs
  rw [List.getElem?_append_right (by rw [ptrs_length]; exact Nat.le_refl _), ptrs_length, Nat.sub_self, List.getElem?_replicate, if_pos (by omega)]
theorem newPtrs_set {b n i : Nat} (h : i < n) : (newPtrs b n i).set i (.pointer (some ⟨b + 2 + i, 0, none⟩)) = newPtrs b n (i + 1) := by
  unfold newPtrs
  rw [List.set_append_right _ _ (by rw [ptrs_length]; exact Nat.le_refl _), ptrs_length, Nat.sub_self]
  obtain ⟨m, hm⟩ : ∃ m, n - i = m + 1 := ⟨n - i - 1, by omega⟩
  rw [hm, List.replicate_succ, List.set_cons_zero, show n - (i + 1) = m from by omega]
  simp [ptrs, List.range_succ]
end P8

theorem makePtrs (n : Nat) (hn : n ≤ 256) (w : World) : (Instr.makeSlice 56 (.int .i64 (n : Int)) (.int .i64 (n : Int))).run Try.prog w = .ok (.slice (some ⟨w.heap.size, 0, none⟩) n n) (w.alloc (.cells (P8.newPtrs w.heap.size n 0).toArray 59 (0, 0))) := by
  obtain ⟨i0, hi, hz0, hz1, hz2⟩ := info_parts infoPtr
  have h := run_makeSlice (P := Try.prog) w 56 59 i0 (.pointer none) Try.underlying56 hi hz0 .i64 .i64 n n (by omega) (Int.le_refl _) (by rw [hz1]; simp; omega) (by rw [hz2]; omega) (by omega)
  rw [hz1, Int.toNat_natCast, Nat.mul_one] at h
  have e : madeCells (Value.pointer none).cells n = (P8.newPtrs w.heap.size n 0).toArray := by
    apply Array.toList_inj.1
    have h1 := toList_madeCells_one (Value.pointer none) n
    show (madeCells #[Value.pointer none] n).toList = _
    rw [h1, P8.newPtrs_zero]
  rw [e] at h
  exact h

set_option maxHeartbeats 1000000 in
theorem poolNew_yes (n : Nat) (w : World) (h1 : 1 ≤ n) (h2 : n ≤ 256) :
    Calls Try.prog 8 #[.int .i64 (n : Int)] w fun e w' => e = .returned (.tuple #[.pointer (some ⟨w.heap.size + 1, 0, none⟩), .int .i64 0]) ∧ P8.PoolAt w' w.heap.size n (List.replicate n none) 0 ∧ Below w.heap.size w w' := by
  have a1 : ¬ (n : Int) < 1 := by omega
  have a2 : ¬ (256 : Int) < n := by omega
  have hm := makePtrs n h2 w
  have r0 : Row (w.alloc (.cells (P8.newPtrs w.heap.size n 0).toArray 59 (0, 0))) w.heap.size 59 (P8.newPtrs w.heap.size n 0) := Row.new' rfl rfl
  have b0 : Below w.heap.size w (w.alloc (.cells (P8.newPtrs w.heap.size n 0).toArray 59 (0, 0))) := (Below.refl _ _).alloc (Nat.le_refl _) _
  have z0 : (w.alloc (.cells (P8.newPtrs w.heap.size n 0).toArray 59 (0, 0))).heap.size = w.heap.size + 1 := by simp
  generalize w.alloc (.cells (P8.newPtrs w.heap.size n 0).toArray 59 (0, 0)) = w0 at *
  go_enter Try.func8, Try.ntmps8
  go_wp2
  go_loopw [5, 17] (fun _ iv wr => ∃ i : Nat, i ≤ n ∧ iv = .int .i64 i ∧ Row wr w.heap.size 59 (P8.newPtrs w.heap.size n i) ∧ Row wr (w.heap.size + 1) 58 [.slice (some ⟨w.heap.size, 0, none⟩) n n, .int .u64 0] ∧ (∀ j, j < i → Row wr (w.heap.size + 2 + j) 62 (P8.cellsB none)) ∧ Hid (wr.heap.size = w.heap.size + 2 + i) ∧ Below w.heap.size w wr) (fun _ iv _ => n - (intOf iv).toNat)
  case atStart => exact ⟨0, Nat.zero_le _, rfl, r0.alloc _, Row.new' rfl z0.symm, fun j hj => absurd hj (Nat.not_lt_zero _), by show _ = _; simp [z0], b0.alloc (by omega) _⟩
  case round =>
    clear r0 b0 z0 hm
    obtain ⟨i, hi, rfl, r0, r1, rb, Z, hb⟩ := hrel
    by_cases hlt : i < n
    · have hs : (i : Int) < n := by omega
      have c1 : wr.cell? ⟨w.heap.size + 1, 0, none⟩ = some (.slice (some ⟨w.heap.size, 0, none⟩) n n) := (r1.cell 0).trans rfl
      have zv := zeroBuf wr
      obtain ⟨A, hA⟩ : ∃ A, A = (P8.cellsB none).toArray := ⟨_, rfl⟩
      rw [← hA] at zv
      have HA := Lib.hid hA
      clear hA
      have ra := r0.alloc (.cells A 62 (0, 0))
      have c2 := (ra.cell i).trans (P8.newPtrs_at hlt)
      have f2 := ra.frozen i
      have lt0 := r0.lt
      go_wp2
      go_roundw
      case rel =>
        have e0 : wr.heap.size = w.heap.size + 2 + i := Z.out
        have ra' := r0.set i (.pointer (some ⟨wr.heap.size, 0, none⟩))
        have ez : (wr.setCell ⟨w.heap.size, i, none⟩ (.pointer (some ⟨wr.heap.size, 0, none⟩))).heap.size = w.heap.size + 2 + i := by simpa [World.setCell] using e0
        have es : (P8.newPtrs w.heap.size n i).set i (.pointer (some ⟨wr.heap.size, 0, none⟩)) = P8.newPtrs w.heap.size n (i + 1) := by rw [e0, P8.newPtrs_set hlt]
        rw [es] at ra'
        refine ⟨i + 1, by omega, by go_num, ra'.alloc _, (r1.other (by omega) _).alloc _, fun j hj => ?_, ?_, (hb.setCell (Nat.le_refl _) _).alloc (by rw [ez]; omega) _⟩
        · by_cases e : j = i
          · subst e; exact Row.new' HA.out ez.symm
          · exact ((rb j (by omega)).other (by omega) _).alloc _
        · show _ = _
          simp only [World.alloc, Array.size_push]
          rw [ez]; omega
      case measure => simp [intOf]; omega
    · obtain rfl : i = n := by omega
      rw [P8.newPtrs_full] at r0
      have HP : Hid (P8.PoolAt wr w.heap.size i (List.replicate i none) 0) := by
        refine ⟨by simp, h1, h2, fun j hj => ?_, r0, r1, fun j hj => ?_⟩
        · simp [List.getD_eq_getElem?_getD, hj]
        · have := rb j hj
          simpa [List.getD_eq_getElem?_getD, hj] using this
      go_wp2
      go_ret2
      exact ⟨rfl, HP.out, hb⟩

end Go.Proofs.Ytealpdofcgbnlaa
