/-
  Layer 5: an array out of, and into, the middle of a row.
-/
import Derived.Test.YtngoighdpmeepaaARows
import Derived.Deep.MidRow
import Derived.Deep.RegionHeld3
import Derived.Deep.RegionLaw
import Derived.Laws.CopyOwn
namespace Go.Proofs.Ytngoighdpmeepaa
open Go.RowKit
set_option linter.unusedVariables false

theorem Row.rangeOf {w : World} {g t : Nat} {l : List Value} (h : Row w g t l) (o n : Nat) : w.rangeAt g o ((l.drop o).take n) := by
  intro j v hj
  rw [h.cell]
  rw [List.getElem?_take] at hj
  split at hj
  · rwa [List.getElem?_drop] at hj
  · cases hj
theorem Row.there {w : World} {g t : Nat} {l : List Value} (h : Row w g t l) {o n : Nat} (hn : o + n ≤ l.length) : w.there g o n := fun j hj =>
  ⟨by rw [h.cell, List.getElem?_eq_getElem (by omega)]; rfl, h.frozen _⟩
theorem splice_step {α : Type} (l : List α) (o : Nat) (v : α) (r : List α) (h : o + (v :: r).length ≤ l.length) : splice (l.set o v) (o + 1) r = splice l o (v :: r) := by
  simp only [List.length_cons] at h
  unfold splice
  rw [List.take_set, List.drop_set, if_pos (by omega), List.length_cons]
  have h1 : (List.take (o + 1) l).set o v = List.take o l ++ [v] := by
    rw [List.take_succ_eq_append_getElem (by omega), List.set_append_right _ _ (by simp; omega)]
    have : o - (List.take o l).length = 0 := by simp; omega
    rw [this]; rfl
  rw [h1, List.append_assoc, show o + 1 + r.length = o + (r.length + 1) from by omega]
  rfl
theorem Row.setCells {g t : Nat} : ∀ (cs : List Value) (o : Nat) (w : World) (l : List Value), Row w g t l → o + cs.length ≤ l.length → Row (w.setCells g o cs) g t (splice l o cs)
  | [], o, w, l, h, hl => by simpa [splice, World.setCells] using h
  | v :: r, o, w, l, h, hl => by
    have := Row.setCells r (o + 1) _ _ (h.set o v) (by simp only [List.length_cons] at hl; simp; omega)
    rw [splice_step l o v r hl] at this
    exact this
theorem Row.setCells_other {g k t : Nat} (hk : g ≠ k) : ∀ (cs : List Value) (o : Nat) (w : World) (l : List Value), Row w g t l → Row (w.setCells k o cs) g t l
  | [], _, _, _, h => h
  | v :: r, o, w, l, h => Row.setCells_other hk r (o + 1) _ l (h.other hk v)
theorem below_setCells {B g : Nat} {a : World} (hg : B ≤ g) : ∀ (cs : List Value) (o : Nat) (w : World), Below B a w → Below B a (w.setCells g o cs)
  | [], _, _, h => h
  | v :: r, o, w, h => below_setCells hg r (o + 1) _ (h.setCell (by simpa using hg) v)

theorem c8_part (L : List UInt8) (o n : Nat) : ((W.cellsOf L).drop o).take n = W.cellsOf ((L.drop o).take n) := by simp [W.cellsOf, List.map_drop, List.map_take]
theorem c8_splice (L cs : List UInt8) (o : Nat) : splice (W.cellsOf L) o (W.cellsOf cs) = W.cellsOf (splice L o cs) := by simp [W.cellsOf, splice, List.map_drop, List.map_take]

/-- A part of a row, read as an array. -/
theorem load_part {w : World} {g t : Nat} {L x : List UInt8} (h : Row w g t (W.cellsOf L)) (o n : Nat) (hx : (L.drop o).take n = x) (ty : TypeId) (d : TypeDesc) (hu : Try.prog.underlying ty = some d) (hd : d.isRow = true) (hi : (Try.prog.info? ty).map (·.size) = some (W.cellsOf x).length) :
    (Instr.loadAt ty (.pointer (some ⟨g, o, none⟩))).run Try.prog w = .ok (.agg (W.cellsOf x).toArray) w := by
  refine run_loadAt_mid w g o ty _ d ?_ hu hd hi
  have := h.rangeOf o n
  rwa [c8_part, hx] at this
theorem store_part {w : World} {g t : Nat} {L x : List UInt8} (h : Row w g t (W.cellsOf L)) (o : Nat) (hn : o + x.length ≤ L.length) (ty : TypeId) (hi : (Try.prog.info? ty).map (·.size) = some (W.cellsOf x).toArray.size) :
    (Instr.storeAt ty (.pointer (some ⟨g, o, none⟩)) (.agg (W.cellsOf x).toArray)).run Try.prog w = .ok () (w.setCells g o (W.cellsOf x)) :=
  run_storeAt_mid w g o ty _ (by rw [List.size_toArray, c8_len]; exact h.there (by rw [c8_len]; exact hn)) hi (c8_all _)

end Go.Proofs.Ytngoighdpmeepaa
