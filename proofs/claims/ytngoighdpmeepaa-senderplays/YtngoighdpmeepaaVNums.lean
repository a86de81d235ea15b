/-
  Layer 15: Numbers.
-/
import Derived.Test.YtngoighdpmeepaaVNew
namespace Go.Proofs.Ytngoighdpmeepaa
open Go.RowKit
set_option linter.unusedVariables false
set_option linter.unusedSimpArgs false
set_option maxRecDepth 20000

namespace S15
/-- The numbers of the first i states, noughts behind. -/
def numsTo (L : List St) (i : Nat) : List Value := (L.take i).map (fun p => .int .u64 (p.num : Int)) ++ List.replicate (L.length - i) (.int .u64 0)
def nums (L : List St) : List Value := L.map (fun p => .int .u64 (p.num : Int))
theorem numsTo_zero (L : List St) : numsTo L 0 = List.replicate L.length (.int .u64 0) := by simp [numsTo]
theorem numsTo_all (L : List St) : numsTo L L.length = nums L := by simp [numsTo, nums]
theorem numsTo_set {L : List St} {i : Nat} {p : St} (h : L[i]? = some p) : (numsTo L i).set i (.int .u64 (p.num : Int)) = numsTo L (i + 1) := by
  obtain ⟨hi, rfl⟩ := List.getElem?_eq_some_iff.1 h
  unfold numsTo
  rw [List.set_append_right _ _ (by simp; omega), List.length_map, List.length_take, Nat.min_eq_left (by omega), Nat.sub_self, show L.length - i = (L.length - (i + 1)) + 1 by omega, List.replicate_succ, List.set_cons_zero, List.take_succ_eq_append_getElem hi, List.map_append]
  simp
theorem numsTo_at {L : List St} {i : Nat} (h : i < L.length) : (numsTo L i)[i]? = some (.int .u64 0) := by
  unfold numsTo
  rw [List.getElem?_append_right (by simp; omega), List.length_map, List.length_take, Nat.min_eq_left (by omega), Nat.sub_self, List.getElem?_replicate, if_pos (by omega)]
theorem nums_at {L : List St} {i : Nat} {p : St} (h : L[i]? = some p) : (nums L)[i]? = some (.int .u64 (p.num : Int)) := by simp [nums, h]
end S15
theorem infoU64Z : (Try.prog.info? 22).map (fun i => (i.zero, i.size, i.bytes)) = some (some (.int .u64 0), 1, 8) := by kernel_rfl

set_option maxHeartbeats 2000000 in
/-- Numbers. -/
theorem nums_any (now : ByteArray) (g n cap last : Nat) (L : List S15.St) (w : World) (hn : L.length = n + 1) (h8 : n < 8) (ha : S15.StAt w g 0 L) :
    Calls Try.prog 21 #[.agg #[.func (.func 34) #[] #[], .func (.func 35) #[] #[], .string now, .slice (some ⟨g, 0, none⟩) (n + 1) cap, .int .u64 (last : Int)]] w fun e w' => ∃ g', e = .returned (.slice (some ⟨g', 0, none⟩) (n + 1) (n + 1)) ∧ w'.ownsRow w.heap.size 22 1 (.slice (some ⟨g', 0, none⟩) (n + 1) (n + 1)) (n + 1) (S15.nums L) ∧ Below w.heap.size w w' := by
  obtain ⟨i0, hi, hz0, hz1, hz2⟩ := info_parts infoU64Z
  have la : g < w.heap.size := ha.lt
  have r1 : Row (w.alloc (.cells #[.func (.func 34) #[] #[], .func (.func 35) #[] #[], .string now, .slice (some ⟨g, 0, none⟩) (n + 1) cap, .int .u64 (last : Int)] 42 (0, 0))) w.heap.size 42 [.func (.func 34) #[] #[], .func (.func 35) #[] #[], .string now, .slice (some ⟨g, 0, none⟩) (n + 1) cap, .int .u64 (last : Int)] := Row.new' rfl rfl
  have bb : Below w.heap.size w (w.alloc (.cells #[.func (.func 34) #[] #[], .func (.func 35) #[] #[], .string now, .slice (some ⟨g, 0, none⟩) (n + 1) cap, .int .u64 (last : Int)] 42 (0, 0))) := (Below.refl _ _).alloc (Nat.le_refl _) _
  have ha1 := ha.alloc (.cells #[.func (.func 34) #[] #[], .func (.func 35) #[] #[], .string now, .slice (some ⟨g, 0, none⟩) (n + 1) cap, .int .u64 (last : Int)] 42 (0, 0))
  have hsz : (w.alloc (.cells #[.func (.func 34) #[] #[], .func (.func 35) #[] #[], .string now, .slice (some ⟨g, 0, none⟩) (n + 1) cap, .int .u64 (last : Int)] 42 (0, 0))).heap.size = w.heap.size + 1 := by simp
  clear ha
  go_enter Try.func21, Try.ntmps21
  go_wp2_with (at_make; refine wpList_make_full _ rfl _ _ 56 rfl w.heap.size 22 i0 (.int .u64 0) 1 Try.underlying56 hi hz0 hz1 _ _ _ _ (n + 1) rfl rfl (by simp) (by simp) (by rw [hz2]; omega) (by unfold maxLen; omega) (by simp) ?_)
  generalize w.alloc (.cells #[.func (.func 34) #[] #[], .func (.func 35) #[] #[], .string now, .slice (some ⟨g, 0, none⟩) (n + 1) cap, .int .u64 (last : Int)] 42 (0, 0)) = w1 at *
  intro w2 hown hgrow
  rw [toList_madeCells_one, ← hn, ← S15.numsTo_zero, hn] at hown
  have b12 : Below w1.heap.size w1 w2 := (Below.refl _ _).grown hgrow (Nat.le_refl _) (by simp)
  have r2 := r1.below b12 r1.lt
  have ha2 := ha1.keep b12
  replace bb := bb.trans (b12.mono bb.size)
  have c3 := r2.cell 3
  simp only [List.getElem?_cons_zero, List.getElem?_cons_succ] at c3
  clear hgrow b12 r1 ha1 hsz hi hz0 hz1 hz2
  go_wp2
  go_loopw [13] (fun iv wr => ∃ i : Nat, i ≤ n + 1 ∧ iv = .int .i64 (i : Int) ∧ wr.ownsRow w.heap.size 22 1 (.slice (some ⟨w.heap.size + 1, 0, none⟩) (n + 1) (n + 1)) (n + 1) (S15.numsTo L i) ∧ S15.StAt wr g 0 L ∧ Below w.heap.size w wr) (fun iv _ => n + 1 - (intOf iv).toNat)
  case atStart => exact ⟨0, Nat.zero_le _, rfl, hown, ha2, bb⟩
  case round =>
    clear hown ha2 bb r2 c3
    obtain ⟨i, hi, rfl, ho, ha, bb⟩ := hrel
    by_cases hlt : i < n + 1
    · have hs : (i : Int) < ((n + 1 : Nat) : Int) := by omega
      obtain ⟨p, hp⟩ : ∃ p, L[i]? = some p := ⟨L[i], List.getElem?_eq_getElem (by omega)⟩
      have hr : wr.rangeAt g (i * 3) [.int .u64 (p.num : Int), .int .u64 (p.tick : Int), .string p.tx] := by have := ha.load hp; rwa [Nat.zero_add] at this
      have lg := (ho.lt (w.heap.size + 1) rfl).2
      have ho1 := ho.alloc (.cells #[.int .u64 (p.num : Int), .int .u64 (p.tick : Int), .string p.tx] 75 (0, 0))
      have hc := (ho1.cellAt i (by omega)).trans (S15.numsTo_at (L := L) (by omega))
      have hf := ho1.frozenAt i
      have hst := ((ho.stored i (.int .u64 (p.num : Int))).1).alloc (.cells #[.int .u64 (p.num : Int), .int .u64 (p.tick : Int), .string p.tx] 75 (0, 0))
      rw [S15.numsTo_set hp] at hst
      have ha2 := (ha.other (k := w.heap.size + 1) (i := i) (by omega) (.int .u64 (p.num : Int))).alloc (.cells #[.int .u64 (p.num : Int), .int .u64 (p.tick : Int), .string p.tx] 75 (0, 0))
      have bb1 := bb.setCell (p := ⟨w.heap.size + 1, i, none⟩) (by show _ ≤ w.heap.size + 1; omega) (.int .u64 (p.num : Int))
      have bb2 := bb1.alloc bb1.size (.cells #[.int .u64 (p.num : Int), .int .u64 (p.tick : Int), .string p.tx] 75 (0, 0))
      clear ho ha bb ho1 hp bb1
      go_wp2_with (refine wpList_load_mid rfl 75 (.tmp 16) rfl g (i * 3) rfl _ _ hr Try.underlying75 rfl infoSt ?_)
      go_roundw
      case rel => exact ⟨i + 1, by omega, by go_num, hst, ha2, bb2⟩
      case measure => simp [intOf]; omega
    · obtain rfl : i = n + 1 := by omega
      rw [← hn, S15.numsTo_all, hn] at ho
      go_wp2
      go_ret
      exact ⟨_, rfl, ho, bb⟩

end Go.Proofs.Ytngoighdpmeepaa
