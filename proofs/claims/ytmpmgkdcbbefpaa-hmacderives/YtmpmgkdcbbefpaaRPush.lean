/-
  Laws of no program: a row of bytes that a call made, byte by byte appended to, also one that a text was converted to.
-/
import Derived.Test.YtmpmgkdcbbefpaaSCopy
import Derived.ArgAppend
import Derived.Laws.IdiomStrings
namespace Go.Proofs.Ytmpmgkdcbbefpaa
open Go.RowKit
set_option linter.unusedVariables false

/-- A slice of the call's own, told by its cells: its bytes, and what it has room for. -/
def IsBytes (w : World) (B : Nat) (v : Value) (l : List UInt8) : Prop :=
  ∃ g cap, v = .slice (some ⟨g, 0, none⟩) l.length cap ∧ B ≤ g ∧ g < w.heap.size ∧ l.length ≤ cap ∧ cap ≤ maxLen ∧ (∀ j u, (W.cellsOf l)[j]? = some u → w.cell? ⟨g, j, none⟩ = some u) ∧
    ∀ j, l.length ≤ j → j < cap → (w.cell? ⟨g, j, none⟩).isSome = true ∧ w.frozen? ⟨g, j, none⟩ = false

theorem IsBytes.heap {w w' : World} {B : Nat} {v : Value} {l : List UInt8} (h : IsBytes w B v l) (hs : w.heap.size ≤ w'.heap.size) (hh : ∀ k, k < w.heap.size → w'.heap[k]? = w.heap[k]?) : IsBytes w' B v l := by
  obtain ⟨g, cap, h1, h2, h3, h4, h5, h6, h7⟩ := h
  have c : ∀ j, w'.cell? ⟨g, j, none⟩ = w.cell? ⟨g, j, none⟩ := fun j => by unfold World.cell?; simp only [hh g h3]
  have f : ∀ j, w'.frozen? ⟨g, j, none⟩ = w.frozen? ⟨g, j, none⟩ := fun j => by unfold World.frozen?; simp only [hh g h3]
  exact ⟨g, cap, h1, h2, by omega, h4, h5, fun j u hj => by rw [c]; exact h6 j u hj, fun j a b => by rw [c, f]; exact h7 j a b⟩
theorem IsBytes.alloc {w : World} {B : Nat} {v : Value} {l : List UInt8} (h : IsBytes w B v l) (o : Obj) : IsBytes (w.alloc o) B v l :=
  h.heap (by simp) (fun k hk => by show (w.heap.push o)[k]? = _; rw [Array.getElem?_push, if_neg (Nat.ne_of_lt hk)])

theorem cellsOf_snoc (l : List UInt8) (c : UInt8) : W.cellsOf (l ++ [c]) = W.cellsOf l ++ [.int .u8 (c.toNat : Int)] := by simp [W.cellsOf]

theorem hgrow_below {B : Nat} {w w' : World} (h : w.grownBy w' none) (hB : B ≤ w.heap.size) : Below B w w' :=
  (Below.refl B w).grown h hB (by simp)

/-- One byte more. -/
theorem wpList_push {P : Program} (w : World) {ops : Array Oper} {rest : List Oper} {o : Oper} {a : Act} {Q : Exit → Act → World → Prop}
    (hg : o.guard = none) (s x : Operand) (t : TypeId) (hop : o.op = Op.call { callee := Callee.builtin Builtin.append, args := #[s, x], argTypes := #[t, t] })
    (e : TypeId) (i : TypeInfo) (h1 : P.underlying t = some (.slice e)) (h2 : P.info? e = some i) (h3 : i.zero = some (.int .u8 0)) (h4 : i.size = 1) (h5 : i.bytes = 1)
    (B : Nat) (v : Value) (l : List UInt8) (hs : a.eval s = v) (hv : IsBytes w B v l) (hBw : B ≤ w.heap.size)
    (ad : Addr) (c : UInt8) (hx : a.eval x = .slice (some ad) 1 1) (hc : w.cell? ad = some (.int .u8 (c.toNat : Int))) (hl : l.length ≤ 100000000)
    (hK : ∀ v' w', IsBytes w' B v' (l ++ [c]) → Below B w w' → wpList P ops Q rest (a.put o.dst v') w') : wpList P ops Q (o :: rest) a w := by
  obtain ⟨g, cap, rfl, hB, hlt, hle, hm, hcell, hsp⟩ := hv
  have hnews : ∀ (j : Nat) u, ([Value.int .u8 (c.toNat : Int)] : List Value)[j]? = some u → w.cell? (ad.add j) = some u := by
    intro j u hj
    match j, hj with
    | 0, hj => simp at hj; subst hj; rw [show ad.add 0 = ad from by unfold Addr.add; split <;> simp_all]; exact hc
  refine wpList_append_arg w hg s x t hop e i (.int .u8 0) 1 1 h1 h2 h3 h4 h5 rfl (by decide) g 0 l.length cap (W.cellsOf l) hs (by rw [cellsOf_len]; omega) (fun j u hj => by rw [Nat.zero_add]; exact hcell j u hj)
    ad 1 1 [.int .u8 (c.toNat : Int)] hx rfl hnews (by intro u hu; simp at hu; subst hu; rfl) (fun hr j hj => ?_) (by unfold maxLen; omega) (by omega) (fun hr => ?_) (fun hgr v' w' ho hgrow => ?_)
  · obtain rfl : j = 0 := by simpa using hj
    rw [show 0 + l.length * 1 + 0 = l.length from by omega]
    exact hsp l.length (Nat.le_refl _) (by omega)
  · rw [show 0 + l.length * 1 = l.length from by omega]
    show wpList P ops Q rest (a.put o.dst (.slice (some ⟨g, 0, none⟩) (l.length + 1) cap)) (w.setCell ⟨g, l.length, none⟩ (.int .u8 (c.toNat : Int)))
    have hsome := hsp l.length (Nat.le_refl _) (by omega)
    obtain ⟨u0, hu0⟩ := Option.isSome_iff_exists.1 hsome.1
    refine hK _ _ ⟨g, cap, by simp, hB, by simpa [World.setCell] using hlt, by simpa using hr, hm, fun j u hj => ?_, fun j hj1 hj2 => ?_⟩ ((Below.refl _ _).setCell hB _)
    · rw [cellsOf_snoc] at hj
      by_cases hjl : j < l.length
      · rw [World.cell?_setCell_other _ _ _ _ (fun h => by cases h; omega)]
        rw [List.getElem?_append_left (by rw [cellsOf_len]; exact hjl)] at hj
        exact hcell j u hj
      · rw [List.getElem?_append_right (by rw [cellsOf_len]; omega), cellsOf_len] at hj
        have hj0 : j - l.length = 0 := by
          by_cases h0 : j - l.length = 0
          · exact h0
          · rw [List.getElem?_eq_none (by simp; omega)] at hj; cases hj
        obtain rfl : j = l.length := by omega
        rw [hj0] at hj
        simp at hj
        subst hj
        exact World.cell?_setCell_same _ _ _ hu0
    · simp at hj1
      rw [World.cell?_setCell_other _ _ _ _ (fun h => by cases h; omega), World.frozen?_setCell]
      exact hsp j (by omega) hj2
  · refine hK v' w' ?_ (hgrow_below hgrow hBw)
    rw [← cellsOf_snoc] at ho
    rcases ho.2 with ⟨_, h0⟩ | ⟨g', cap', cur, rfl, hb', hh, hn', hm', hs', ht'⟩
    · omega
    · have hlt' : g' < w'.heap.size := (ho.lt g' rfl).2
      refine ⟨g', cap', by simp, by omega, hlt', by simpa using hn', hm', fun j u hj => ?_, fun j hj1 hj2 => ?_⟩
      · have hjl : j < (l ++ [c]).length := by
          by_cases h0 : j < (l ++ [c]).length
          · exact h0
          · rw [List.getElem?_eq_none (by rw [cellsOf_len]; omega)] at hj; cases hj
        rw [ho.cellAt j (by simp at hjl; omega)]
        exact hj
      · refine ⟨?_, ?_⟩
        · rw [cell_of_row w' g' j cur e (0, 0) hh, Array.getElem?_eq_getElem (by omega)]; rfl
        · exact frozen_of_row w' g' j cur e hh

end Go.Proofs.Ytmpmgkdcbbefpaa
