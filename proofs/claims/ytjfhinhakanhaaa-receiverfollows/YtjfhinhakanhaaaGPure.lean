/-
  Plain mathematics for the document's Take of layer 16: the rows that it builds step by step. No condition.
-/
import Derived.Test.YtjfhinhakanhaaaGAny
namespace Go.Proofs.Ytjfhinhakanhaaa
open Go.RowKit
set_option linter.unusedVariables false
namespace R16
theorem take_snoc {α : Type} {L : List α} {k : Nat} {q : α} (h : L[k]? = some q) : L.take k ++ [q] = L.take (k + 1) := by
  rw [List.take_add_one, h]; rfl
theorem ins_take_i (L : List Cm) (i : Nat) (p : Cm) (hi : i ≤ L.length) : (ins L i p).take i = L.take i := by
  unfold ins
  rw [List.take_append_of_le_length (by rw [List.length_take]; omega), List.take_take, Nat.min_self]
theorem ins_take_end (L : List Cm) (i : Nat) (p : Cm) (hi : i ≤ L.length) : L.take i ++ [p] = (ins L i p).take (i + 1) := by
  rw [← ins_take_i L i p hi]; exact take_snoc (ins_eq hi)
theorem ins_at_gt {L : List Cm} {i k : Nat} {p q : Cm} (hi : i ≤ L.length) (hk : i ≤ k) (h : L[k]? = some q) : (ins L i p)[k + 1]? = some q := by
  unfold ins
  rw [List.getElem?_append_right (by rw [List.length_take]; omega), List.length_take, Nat.min_eq_left hi, show k + 1 - i = (k - i) + 1 by omega, List.getElem?_cons_succ, List.getElem?_drop, show i + (k - i) = k by omega]
  exact h
theorem ins_take_at {L : List Cm} {i : Nat} {p q : Cm} (hi : i ≤ L.length) (h : L[i]? = some q) : L.take i ++ [p] ++ [q] = (ins L i p).take (i + 2) := by
  rw [ins_take_end L i p hi]; exact take_snoc (ins_at_gt hi (Nat.le_refl _) h)
theorem ins_take_gt {L : List Cm} {i k : Nat} {p q : Cm} (hi : i ≤ L.length) (hk : i < k) (h : L[k]? = some q) : (ins L i p).take (k + 1) ++ [q] = (ins L i p).take (k + 1 + 1) :=
  take_snoc (ins_at_gt hi (by omega) h)
/-- Where the document's filter begins to keep. -/
theorem keep_from {M : List Cm} (hu : Up M) (thr m : Nat) (hm : M.length = m + 1) : ∃ a, a ≤ m ∧ (∀ (j : Nat) (q : Cm), j < a → M[j]? = some q → q.num < thr ∧ j ≠ m) ∧ (∀ (j : Nat) (q : Cm), a ≤ j → M[j]? = some q → thr ≤ q.num ∨ j = m) := by
  obtain ⟨i, hP⟩ := Pl.ex hu thr
  rcases Nat.lt_or_ge i (m + 1) with c | c
  · exact ⟨i, by omega, fun j q hj hq => ⟨hP.lo j q hj hq, by omega⟩, fun j q hj hq => .inl (hP.hi j q hj hq)⟩
  · exact ⟨m, Nat.le_refl _, fun j q hj hq => ⟨hP.lo j q (by omega) hq, by omega⟩, fun j q hj hq => .inr (by have := (List.getElem?_eq_some_iff.1 hq).1; omega)⟩
theorem keep_skip {M : List Cm} {k a : Nat} (h : k < a) : (M.take (k + 1)).drop a = (M.take k).drop a := by
  rw [List.drop_of_length_le (by rw [List.length_take]; omega), List.drop_of_length_le (by rw [List.length_take]; omega)]
theorem keep_take {M : List Cm} {k a : Nat} {q : Cm} (h : a ≤ k) (hq : M[k]? = some q) : (M.take k).drop a ++ [q] = (M.take (k + 1)).drop a := by
  have hl := (List.getElem?_eq_some_iff.1 hq).1
  rw [← take_snoc hq, List.drop_append_of_le_length (by rw [List.length_take]; omega)]
/-- What stays: at most eight. -/
theorem keep_kp {M : List Cm} {thr m a b : Nat} (hm : M.length = m + 1) (ha : a ≤ m) (h1 : ∀ (j : Nat) (q : Cm), j < a → M[j]? = some q → q.num < thr ∧ j ≠ m) (h2 : ∀ (j : Nat) (q : Cm), a ≤ j → M[j]? = some q → thr ≤ q.num ∨ j = m) (hb : b = 0 ∨ m + 1 - a - b = 8) (h8 : m + 1 - a - b ≤ 8) (hlt : a + b ≤ m) : Kp M thr (a + b) := by
  refine ⟨by omega, fun j q hj hq => ?_, ?_⟩
  · rcases Nat.lt_or_ge j a with c | c
    · exact .inl (h1 j q c hq).1
    · exact .inr (by omega)
  · by_cases hc : a + b = m
    · exact .inl (by omega)
    · refine .inr ⟨fun p hp => ?_, by omega⟩
      rcases h2 (a + b) p (by omega) hp with c | c
      · exact c
      · exact absurd c hc
end R16
end Go.Proofs.Ytjfhinhakanhaaa
