/-
  Plain mathematics for layer 5: a key's words, four bytes each, are its round keys in a row. No condition.
-/
import Derived.Test.YtpkehhbjagmodaaALaws
namespace Go.Proofs.Ytpkehhbjagmodaa.E
open Go.Proofs.Ytpkehhbjagmodaa.W
set_option linter.unusedVariables false

theorem rks_more (k : List UInt8) (n : Nat) : ∀ d, ∃ t, rks k (n + d) = rks k n ++ t
  | 0 => ⟨[], by simp⟩
  | d + 1 => by
    obtain ⟨t, h⟩ := rks_more k n d
    exact ⟨t ++ rk k (n + d), by show rks k (n + d) ++ rk k (n + d) = _; rw [h, List.append_assoc]⟩
theorem rks_at {k : List UInt8} (hk : k.length = 16) {r j : Nat} (hr : r < 11) (hj : j < 16) : (rks k 11).getD (16 * r + j) 0 = (rk k r).getD j 0 := by
  obtain ⟨t, h⟩ := rks_more k (r + 1) (11 - (r + 1))
  rw [show r + 1 + (11 - (r + 1)) = 11 from by omega] at h
  rw [h, List.getD_eq_getElem?_getD, List.getElem?_append_left (by rw [rks_length hk]; omega)]
  show ((rks k r ++ rk k r)[16 * r + j]?).getD 0 = _
  rw [List.getElem?_append_right (by rw [rks_length hk]; omega), rks_length hk, show 16 * r + j - 16 * r = j from by omega, List.getD_eq_getElem?_getD]
theorem take_four (l : List UInt8) (n : Nat) (h : 4 * n + 4 ≤ l.length) : l.take (4 * (n + 1)) = l.take (4 * n) ++ [l.getD (4 * n) 0, l.getD (4 * n + 1) 0, l.getD (4 * n + 2) 0, l.getD (4 * n + 3) 0] := by
  have e : ∀ m, m < l.length → l.take (m + 1) = l.take m ++ [l.getD m 0] := fun m hm => by
    rw [List.take_succ_eq_append_getElem hm, List.getD_eq_getElem?_getD, List.getElem?_eq_getElem hm]; rfl
  rw [show 4 * (n + 1) = 4 * n + 3 + 1 from by omega, e _ (by omega), e _ (by omega), e _ (by omega), e _ (by omega)]
  simp
/-- The word that is laid over the fourth one ahead of a word. -/
def wt (K : List UInt8) (i q : Nat) : UInt8 :=
  if i % 4 = 0 then (if q = 0 then sub (K.getD (4 * (i - 1) + 1) 0) ^^^ dblN 1 (i / 4 - 1) else sub (K.getD (4 * (i - 1) + (q + 1) % 4) 0)) else K.getD (4 * (i - 1) + q) 0
theorem word_at {k : List UInt8} (hk : k.length = 16) (i q : Nat) (h4 : 4 ≤ i) (hi : i < 44) (hq : q < 4) :
    (rks k 11).getD (4 * i + q) 0 = (rks k 11).getD (4 * (i - 4) + q) 0 ^^^ wt (rks k 11) i q := by
  obtain ⟨r, c, rfl, hr, hc⟩ : ∃ r c, i = 4 * (r + 1) + c ∧ r < 10 ∧ c < 4 := ⟨i / 4 - 1, i % 4, by omega, by omega, by omega⟩
  have e1 : 4 * (4 * (r + 1) + c) + q = 16 * (r + 1) + (4 * c + q) := by omega
  have e2 : 4 * (4 * (r + 1) + c - 4) + q = 16 * r + (4 * c + q) := by omega
  have hd : (4 * (r + 1) + c) / 4 - 1 = r := by omega
  have hm : (4 * (r + 1) + c) % 4 = c := by omega
  have hn : rk k (r + 1) = next (rk k r) (dblN 1 r) := rfl
  unfold wt
  rw [e1, e2, hm, hd, rks_at hk (by omega) (by omega), rks_at hk (by omega) (by omega), hn]
  by_cases h0 : c = 0
  · subst h0
    rw [if_pos rfl]
    by_cases hq0 : q = 0
    · subst hq0
      rw [if_pos rfl, show 4 * (4 * (r + 1) + 0 - 1) + 1 = 16 * r + 13 from by omega, rks_at hk (by omega) (by omega), ← next_zero]
      simp only [Nat.mul_zero, Nat.add_zero, UInt8.xor_assoc]
    · rw [if_neg hq0, show 4 * (4 * (r + 1) + 0 - 1) + (q + 1) % 4 = 16 * r + (12 + (q + 1) % 4) from by omega, rks_at hk (by omega) (by omega), ← next_lo _ _ (4 * 0 + q) (by omega) (by omega)]
      simp only [Nat.mul_zero, Nat.zero_add]
  · rw [if_neg h0, show 4 * (4 * (r + 1) + c - 1) + q = 16 * (r + 1) + (4 * c + q - 4) from by omega, rks_at hk (by omega) (by omega), hn, ← next_hi _ _ (4 * c + q) (by omega) (by omega)]

end Go.Proofs.Ytpkehhbjagmodaa.E
