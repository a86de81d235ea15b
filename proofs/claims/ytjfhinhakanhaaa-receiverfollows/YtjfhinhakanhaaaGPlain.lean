/-
  Plain mathematics for layer 16: states as cells; which stand ahead of a number. No condition.
-/
import Derived.Test.YtjfhinhakanhaaaAMem
import Derived.Test.YtjfhinhakanhaaaTLaws
import Derived.Laws.OwnMore
namespace Go.Proofs.Ytjfhinhakanhaaa
open Go.RowKit
set_option linter.unusedVariables false
namespace R16
/-- A state: its number, its text. -/
structure Cm where
  num : Nat
  tx : ByteArray
/-- Its cells. -/
def Cm.c (p : Cm) : List Value := [.int .u64 (p.num : Int), .string p.tx]
theorem Cm.c_len (p : Cm) : p.c.length = 2 := rfl
theorem Cm.c_one (p : Cm) : ∀ u ∈ p.c, u.oneCell' = true := by intro u hu; simp [Cm.c] at hu; rcases hu with rfl | rfl <;> rfl
def cellsL : List Cm → List Value
  | [] => []
  | p :: l => p.c ++ cellsL l
theorem cellsL_len : ∀ l, (cellsL l).length = l.length * 2
  | [] => rfl
  | p :: l => by simp [cellsL, Cm.c_len, cellsL_len l]; omega
theorem cellsL_append : ∀ a b, cellsL (a ++ b) = cellsL a ++ cellsL b
  | [], b => rfl
  | p :: a, b => by simp [cellsL, cellsL_append a b]
theorem cellsL_drop : ∀ (l : List Cm) (i : Nat), (cellsL l).drop (i * 2) = cellsL (l.drop i)
  | l, 0 => by simp
  | [], i + 1 => by simp [cellsL]
  | p :: l, i + 1 => by
    rw [cellsL, List.drop_append, List.drop_of_length_le (by rw [Cm.c_len]; omega), Cm.c_len, show (i + 1) * 2 - 2 = i * 2 by omega, cellsL_drop l i]
    rfl
theorem cellsL_take : ∀ (l : List Cm) (i : Nat), (cellsL l).take (i * 2) = cellsL (l.take i)
  | l, 0 => by simp [cellsL]
  | [], i + 1 => by simp [cellsL]
  | p :: l, i + 1 => by
    rw [cellsL, List.take_append, List.take_of_length_le (by rw [Cm.c_len]; omega), Cm.c_len, show (i + 1) * 2 - 2 = i * 2 by omega, cellsL_take l i]
    rfl
theorem cellsL_one (l : List Cm) : ∀ u ∈ cellsL l, u.oneCell' = true := by
  induction l with
  | nil => intro u hu; simp [cellsL] at hu
  | cons p l ih => intro u hu; rw [cellsL, List.mem_append] at hu; rcases hu with h | h; exact p.c_one u h; exact ih u h

/-- The states of a slice: in the block g, from the cell off on. -/
def CmAt (w : World) (g off : Nat) (L : List Cm) : Prop := ∃ (t : TypeId) (pre sp : List Value), pre.length = off ∧ Row w g t (pre ++ cellsL L ++ sp)
theorem CmAt.lt {w : World} {g off : Nat} {L : List Cm} (h : CmAt w g off L) : g < w.heap.size := by obtain ⟨t, pre, sp, _, r⟩ := h; exact r.lt
theorem CmAt.below {w w' : World} {g off B : Nat} {L : List Cm} (h : CmAt w g off L) (hb : Below B w w') (hg : g < B) : CmAt w' g off L := by
  obtain ⟨t, pre, sp, h1, r⟩ := h; exact ⟨t, pre, sp, h1, r.below hb hg⟩
theorem CmAt.keep {w w' : World} {g off : Nat} {L : List Cm} (h : CmAt w g off L) (hb : Below w.heap.size w w') : CmAt w' g off L := h.below hb h.lt
theorem CmAt.drew {w : World} {g off : Nat} {L : List Cm} (h : CmAt w g off L) : CmAt w.drew g off L := h
theorem CmAt.alloc {w : World} {g off : Nat} {L : List Cm} (h : CmAt w g off L) (o : Obj) : CmAt (w.alloc o) g off L := by
  obtain ⟨t, pre, sp, h1, r⟩ := h; exact ⟨t, pre, sp, h1, r.alloc o⟩
theorem CmAt.setRow {w : World} {g off k : Nat} {L : List Cm} (h : CmAt w g off L) (hk : g ≠ k) (c : Array Value) : CmAt (w.setRow k c) g off L := by
  obtain ⟨t, pre, sp, h1, r⟩ := h; exact ⟨t, pre, sp, h1, r.setRow_other hk c⟩
theorem CmAt.other {w : World} {g off k i : Nat} {L : List Cm} (h : CmAt w g off L) (hk : g ≠ k) (v : Value) : CmAt (w.setCell ⟨k, i, none⟩ v) g off L := by
  obtain ⟨t, pre, sp, h1, r⟩ := h; exact ⟨t, pre, sp, h1, r.other hk v⟩
theorem CmAt.load {w : World} {g off : Nat} {L : List Cm} (h : CmAt w g off L) {i : Nat} {p : Cm} (hp : L[i]? = some p) : w.rangeAt g (off + i * 2) p.c := by
  obtain ⟨t, pre, sp, h1, r⟩ := h
  have h2 := r.rangeOf (off + i * 2) 2
  obtain ⟨hi, rfl⟩ := List.getElem?_eq_some_iff.1 hp
  have hl := cellsL_len L
  have e : ((pre ++ cellsL L ++ sp).drop (off + i * 2)).take 2 = L[i].c := by
    rw [List.append_assoc, ← h1, List.drop_append, List.drop_of_length_le (by omega), List.nil_append, show pre.length + i * 2 - pre.length = i * 2 by omega, List.drop_append_of_le_length (by omega), cellsL_drop, List.drop_eq_getElem_cons hi, cellsL, List.append_assoc, List.take_append_of_le_length (by rw [Cm.c_len]; exact Nat.le_refl _), List.take_of_length_le (by rw [Cm.c_len]; exact Nat.le_refl _)]
  rwa [e] at h2
theorem CmAt.cellAt {w : World} {g off : Nat} {L : List Cm} (h : CmAt w g off L) {j : Nat} {v : Value} (hv : (cellsL L)[j]? = some v) : w.cell? ⟨g, off + j, none⟩ = some v := by
  obtain ⟨t, pre, sp, h1, r⟩ := h
  have h2 := r.cell (off + j)
  rw [h2]
  obtain ⟨hi, _⟩ := List.getElem?_eq_some_iff.1 hv
  rw [List.append_assoc, ← h1, List.getElem?_append_right (by omega), show pre.length + j - pre.length = j by omega, List.getElem?_append_left hi]
  exact hv
theorem cellsL_get {L : List Cm} {i k : Nat} {p : Cm} (hp : L[i]? = some p) (hk : k < 2) : (cellsL L)[i * 2 + k]? = p.c[k]? := by
  obtain ⟨hi, rfl⟩ := List.getElem?_eq_some_iff.1 hp
  have hl := cellsL_len L
  rw [← List.getElem?_drop, cellsL_drop, List.drop_eq_getElem_cons hi, cellsL, List.getElem?_append_left (by rw [Cm.c_len]; exact hk)]
theorem CmAt.num {w : World} {g off : Nat} {L : List Cm} (h : CmAt w g off L) {i : Nat} {p : Cm} (hp : L[i]? = some p) : w.cell? ⟨g, off + i * 2, none⟩ = some (.int .u64 (p.num : Int)) := by
  have := cellsL_get hp (show 0 < 2 by decide)
  exact h.cellAt this
theorem CmAt.tx {w : World} {g off : Nat} {L : List Cm} (h : CmAt w g off L) {i : Nat} {p : Cm} (hp : L[i]? = some p) : w.cell? ⟨g, off + i * 2 + 1, none⟩ = some (.string p.tx) := by
  have := cellsL_get hp (show 1 < 2 by decide)
  exact h.cellAt this
theorem CmAt.from {w : World} {g off : Nat} {L : List Cm} (h : CmAt w g off L) {i : Nat} (hi : i ≤ L.length) : CmAt w g (off + i * 2) (L.drop i) := by
  obtain ⟨t, pre, sp, h1, r⟩ := h
  refine ⟨t, pre ++ cellsL (L.take i), sp, ?_, ?_⟩
  · rw [List.length_append, cellsL_len, List.length_take, h1, Nat.min_eq_left hi]
  · rw [List.append_assoc pre, ← cellsL_append, List.take_append_drop]; exact r
theorem CmAt.of_owns {w : World} {B g n cap : Nat} {e : TypeId} {l : List Cm} (h : w.ownsRow B e 2 (.slice (some ⟨g, 0, none⟩) n cap) n (cellsL l)) : CmAt w g 0 l := by
  obtain ⟨_, hv | ⟨g', cap', cur, hv, _, hg, _, _, _, ht⟩⟩ := h
  · exact absurd hv.1 (by simp)
  · have e1 : g = g' := by simpa using congrArg (fun v => match v with | Value.slice (some a) _ _ => a.block | _ => 0) hv
    subst e1
    refine ⟨e, [], cur.toList.drop (n * 2), rfl, ?_⟩
    unfold Row
    rw [List.nil_append, ← ht, List.take_append_drop]
    exact hg

theorem own_slice {w : World} {B e n : Nat} {v : Value} {xs : List Value} (h : w.ownsRow B e 2 v (n + 1) xs) : ∃ g cap, v = .slice (some ⟨g, 0, none⟩) (n + 1) cap ∧ B ≤ g ∧ g < w.heap.size ∧ n + 1 ≤ cap ∧ cap ≤ maxLen := by
  obtain ⟨_, hv | ⟨g', cap', cur, hv, h1, hg, h2, h3, _, ht⟩⟩ := h
  · exact absurd hv.2 (by omega)
  · exact ⟨g', cap', hv, h1, (Array.getElem?_eq_some_iff.1 hg).1, h2, h3⟩
theorem addrAdd (g off j : Nat) : (⟨g, off, none⟩ : Addr).add j = ⟨g, off + j, none⟩ := by unfold Addr.add; split <;> simp_all

/-- By rising numbers. -/
def Up (L : List Cm) : Prop := ∀ (i j : Nat) (p q : Cm), i < j → L[i]? = some p → L[j]? = some q → p.num < q.num
/-- Where a number's state stands, or would stand: i. -/
structure Pl (L : List Cm) (n i : Nat) : Prop where
  le : i ≤ L.length
  lo : ∀ (j : Nat) (p : Cm), j < i → L[j]? = some p → p.num < n
  hi : ∀ (j : Nat) (p : Cm), i ≤ j → L[j]? = some p → n ≤ p.num
/-- Is it there? -/
def at? (L : List Cm) (n i : Nat) : Bool := match L[i]? with | some p => decide (p.num = n) | none => false
/-- How many stay away: the first one that stays. -/
def Kp (L : List Cm) (thr a : Nat) : Prop := a + 1 ≤ L.length ∧ (∀ (j : Nat) (p : Cm), j < a → L[j]? = some p → p.num < thr ∨ 8 < L.length - j) ∧ (a + 1 = L.length ∨ (∀ p : Cm, L[a]? = some p → thr ≤ p.num) ∧ L.length - a ≤ 8)
end R16
theorem infoCm : (Try.prog.info? 60).map (·.size) = some 2 := by kernel_rfl
theorem infoCmZ : (Try.prog.info? 60).map (fun i => (i.zero, i.size, i.bytes)) = some (some (.agg #[.int .u64 0, .string ⟨#[]⟩]), 2, 24) := by kernel_rfl
theorem infoRv : (Try.prog.info? 30).map (·.size) = some 2 := by kernel_rfl
theorem infoRl : (Try.prog.info? 27).map (·.size) = some 1 := by kernel_rfl
end Go.Proofs.Ytjfhinhakanhaaa
