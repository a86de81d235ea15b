/-
  Layer 8: what PoolFills goes through, in plain words.
-/
import Derived.Test.YtealpdofcgbnlaaPAwake
import Derived.Test.YtealpdofcgbnlaaCut0
import Derived.OpenShut
namespace Go.Proofs.Ytealpdofcgbnlaa
open Go.RowKit
set_option linter.unusedVariables false

namespace P8
/-- The first i of n are held, with an x each. -/
def filled (i n : Nat) : List (Option (List UInt8)) := List.replicate i (some [120]) ++ List.replicate (n - i) none
theorem filled_length {i n : Nat} (h : i ≤ n) : (filled i n).length = n := by simp [filled]; omega
theorem filled_lo {i n j : Nat} (h : j < i) : (filled i n).getD j none = some [120] := by
  simp only [filled, List.getD_eq_getElem?_getD]
  rw [List.getElem?_append_left (by simpa using h), List.getElem?_replicate, if_pos h]; rfl
theorem filled_hi {i n j : Nat} (h : i ≤ j) : (filled i n).getD j none = none := by
  simp only [filled, List.getD_eq_getElem?_getD]
  rw [List.getElem?_append_right (by simpa using h), List.getElem?_replicate]
  split <;> rfl
theorem filled_zero (n : Nat) : filled 0 n = List.replicate n none := by simp [filled]
theorem filled_first {i n : Nat} (h : i < n) : first (filled i n) = (i : Int) :=
  first_is (by rw [filled_length (by omega)]; exact h) (filled_hi (Nat.le_refl _)) (fun j hj => by rw [filled_lo hj]; rfl)
theorem filled_full (n : Nat) : first (filled n n) = -1 :=
  first_none (fun j hj => by rw [filled_length (Nat.le_refl _)] at hj; rw [filled_lo hj]; rfl)
theorem filled_set {i n : Nat} (h : i < n) : (filled i n).set i (some [120]) = filled (i + 1) n := by
  unfold filled
  rw [List.set_append_right _ _ (by simp), List.length_replicate, Nat.sub_self]
  obtain ⟨m, hm⟩ : ∃ m, n - i = m + 1 := ⟨n - i - 1, by omega⟩
  rw [hm, List.replicate_succ, List.set_cons_zero, show n - (i + 1) = m from by omega, List.replicate_succ' (n := i)]
  simp
theorem held_filled {i n : Nat} (h : i ≤ n) : (heldTo (filled i n) n).length = i := by
  have key : ∀ m, m ≤ n → (heldTo (filled i n) m).length = min m i := by
    intro m
    induction m with
    | zero => intro _; simp [heldTo]
    | succ m ih =>
      intro hm
      by_cases hl : m < i
      · rw [heldTo_yes (by rw [filled_lo hl]; rfl), List.length_append, ih (by omega)]; simp; omega
      · rw [heldTo_no (by rw [filled_hi (by omega)]; rfl), ih (by omega)]; omega
  rw [key n (Nat.le_refl _)]; omega
/-- Which are free again. -/
def fs (F : List Bool) : List (Option (List UInt8)) := F.map fun x => if x then none else some [120]
theorem fs_length (F : List Bool) : (fs F).length = F.length := by simp [fs]
theorem fs_at {F : List Bool} {i : Nat} (h : i < F.length) : (fs F).getD i none = if F.getD i false then none else some [120] := by
  simp [fs, List.getD_eq_getElem?_getD, h]
theorem fs_set (F : List Bool) (i : Nat) : (fs F).set i none = fs (F.set i true) := by simp [fs, List.map_set]
theorem fs_start (n : Nat) : filled n n = fs (List.replicate n false) := by simp [filled, fs]
theorem fs_same {F : List Bool} {i : Nat} (h : F.getD i false = true) : F.set i true = F := by
  have hi : i < F.length := by
    by_cases hl : i < F.length
    · exact hl
    · rw [List.getD_eq_getElem?_getD, List.getElem?_eq_none (by omega)] at h; cases h
  rw [List.getD_eq_getElem?_getD, List.getElem?_eq_getElem hi] at h
  simp at h
  apply List.ext_getElem
  · simp
  · intro j h1 h2
    rw [List.getElem_set]
    split
    · rename_i e; subst e; exact h.symm
    · rfl
/-- The least that is free is L, or there is none, and L is how many there are. -/
structure Least (F : List Bool) (L : Nat) : Prop where
  le : L ≤ F.length
  lo : ∀ j, j < L → F.getD j false = false
  at_ : L < F.length → F.getD L false = true
theorem Least.start (n : Nat) : Least (List.replicate n false) n := by
  refine ⟨by simp, fun j hj => ?_, fun h => absurd h (by simp)⟩
  rw [List.getD_eq_getElem?_getD, List.getElem?_replicate]; split <;> rfl
theorem Least.more {F : List Bool} {L i : Nat} (h : Least F L) (hi : i < F.length) : Least (F.set i true) (min L i) := by
  refine ⟨by rw [List.length_set]; have := h.le; omega, fun j hj => ?_, fun hl => ?_⟩
  · rw [getD_set _ _ _ _ _ hi, if_neg (by omega)]; exact h.lo j (by omega)
  · rw [getD_set _ _ _ _ _ hi]
    split
    · rfl
    · rename_i e
      have e1 : min L i = L := by omega
      rw [e1] at hl ⊢
      exact h.at_ (by rw [List.length_set] at hl; exact hl)
theorem Least.first_no {F : List Bool} (h : Least F F.length) : first (fs F) = -1 :=
  first_none (fun j hj => by rw [fs_length] at hj; rw [fs_at hj, h.lo j hj]; rfl)
theorem Least.first_yes {F : List Bool} {L : Nat} (h : Least F L) (hl : L < F.length) : first (fs F) = (L : Int) :=
  first_is (by rw [fs_length]; exact hl) (by rw [fs_at hl, h.at_ hl]; rfl) (fun j hj => by rw [fs_at (by omega), h.lo j hj]; rfl)
def bools (F : List Bool) : List Value := F.map Value.bool
theorem bools_at {F : List Bool} {i : Nat} (h : i < F.length) : (bools F)[i]? = some (.bool (F.getD i false)) := by simp [bools, List.getD_eq_getElem?_getD, h]
theorem bools_set (F : List Bool) (i : Nat) (x : Bool) : (bools F).set i (.bool x) = bools (F.set i x) := by simp [bools, List.map_set]
end P8

theorem infoBool : (Try.prog.info? 4).map (fun i => (i.zero, i.size, i.bytes)) = some (some (.bool false), 1, 1) := by kernel_rfl
theorem makeBools (n : Nat) (hn : n ≤ 256) (w : World) : (Instr.makeSlice 54 (.int .i64 (n : Int)) (.int .i64 (n : Int))).run Try.prog w = .ok (.slice (some ⟨w.heap.size, 0, none⟩) n n) (w.alloc (.cells (P8.bools (List.replicate n false)).toArray 4 (0, 0))) := by
  obtain ⟨i0, hi, hz0, hz1, hz2⟩ := info_parts infoBool
  have h := run_makeSlice (P := Try.prog) w 54 4 i0 (.bool false) Try.underlying54 hi hz0 .i64 .i64 n n (by omega) (Int.le_refl _) (by rw [hz1]; simp; omega) (by rw [hz2]; omega) (by omega)
  rw [hz1, Int.toNat_natCast, Nat.mul_one] at h
  have e : madeCells (Value.bool false).cells n = (P8.bools (List.replicate n false)).toArray := by
    apply Array.toList_inj.1
    have h1 := toList_madeCells_one (Value.bool false) n
    show (madeCells #[Value.bool false] n).toList = _
    rw [h1]; simp [P8.bools]
  rw [e] at h
  exact h

/-- Bytes that came in. -/
theorem IsRow.bytes {w : World} {a : Option Addr} {len cap : Nat} {zs : List Int} (h : IsRow .u8 w a len cap zs) (hl : 0 < len) :
    ∃ b off, a = some ⟨b, off, none⟩ ∧ b < w.heap.size ∧ ∀ i, i < len → ∃ k : Nat, k < 256 ∧ w.cell? ⟨b, off + i, none⟩ = some (.int .u8 (k : Int)) := by
  rcases h with ⟨rfl, rfl, rfl, rfl⟩ | ⟨x, rfl, hle, hm, hz, hcell, hwz⟩
  · omega
  · obtain ⟨b, off, spot⟩ := x
    have hc := hcell 0 (by omega)
    have hspot : spot = none := by simpa [Addr.add] using World.cell?_spot hc
    subst hspot
    refine ⟨b, off, rfl, by simpa [Addr.add] using block_lt hc, fun i hi => ?_⟩
    have h1 := hcell i (by omega)
    have ea : (⟨b, off, none⟩ : Addr).add i = ⟨b, off + i, none⟩ := by unfold Addr.add; split <;> simp_all
    rw [ea] at h1
    have h2 := hwz (zs.getD i 0) (by rw [List.getD_eq_getElem?_getD, List.getElem?_eq_getElem (by omega), Option.getD_some]; exact List.getElem_mem _)
    have h3 := Go.bounds_u8 h2
    refine ⟨(zs.getD i 0).toNat, by omega, ?_⟩
    rw [h1, Int.toNat_of_nonneg h3.1]

end Go.Proofs.Ytealpdofcgbnlaa
