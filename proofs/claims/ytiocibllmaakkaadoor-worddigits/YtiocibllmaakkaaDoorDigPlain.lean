/-
  Plain mathematics for layer 1: digits, and the number of digits. No condition.
-/
import Derived.Lib.ItoaNum
import Derived.WalkKit
namespace Go.Proofs.YtiocibllmaakkaaDoor.W
open Go.Lib

theorem head_app (r l : List UInt8) (h : r ≠ []) : (r ++ l).head? = r.head? := by
  cases r with
  | nil => exact absurd rfl h
  | cons => rfl

def isDig (c : UInt8) : Bool := decide (48 ≤ c.toNat) && decide (c.toNat ≤ 57)
/-- Digits alone, and no nought ahead of others. -/
def isDec (l : List UInt8) : Bool := !l.isEmpty && !(decide (1 < l.length) && (l.head? == some 48)) && l.all isDig
/-- The number of digits. -/
def val (l : List UInt8) : Nat := l.foldl (fun n c => n * 10 + (c.toNat - 48)) 0

theorem val_snoc (l : List UInt8) (c : UInt8) : val (l ++ [c]) = val l * 10 + (c.toNat - 48) := by simp [val]

theorem decDigits_ne (u : Nat) : decDigits u ≠ [] := by
  intro h
  have := decDigits_length u
  rw [h] at this
  have h2 : 0 < nDigits u := by rw [nDigits]; split <;> omega
  simp at this
  omega

theorem byte48 {d : Nat} (h : d < 10) : (UInt8.ofNat (48 + d)).toNat = 48 + d := by simp; omega

theorem val_dec : ∀ u : Nat, val (decDigits u) = u := by
  intro u
  induction u using Nat.strongRecOn with
  | ind u ih =>
    rw [decDigits]
    split
    · next h => simp [val]; omega
    · next h =>
      rw [val_snoc, ih (u / 10) (by omega), byte48 (by omega)]
      omega

theorem all_dec : ∀ u : Nat, (decDigits u).all isDig = true := by
  intro u
  induction u using Nat.strongRecOn with
  | ind u ih =>
    rw [decDigits]
    split
    · next h => simp only [List.all_cons, List.all_nil, isDig, byte48 h]; simp; omega
    · next h =>
      rw [List.all_append, ih (u / 10) (by omega)]
      simp only [List.all_cons, List.all_nil, isDig, byte48 (show u % 10 < 10 by omega)]
      simp; omega

theorem head_dec : ∀ u : Nat, 0 < u → (decDigits u).head? ≠ some 48 := by
  intro u
  induction u using Nat.strongRecOn with
  | ind u ih =>
    intro hu
    rw [decDigits]
    split
    · next h =>
      simp only [List.head?_cons, ne_eq, Option.some.injEq]
      intro e
      have := congrArg UInt8.toNat e
      rw [byte48 h] at this
      have h48 : (48 : UInt8).toNat = 48 := rfl
      omega
    · next h =>
      have hne := decDigits_ne (u / 10)
      rw [head_app _ _ hne]
      exact ih (u / 10) (by omega) (by omega)

theorem isDec_dec (u : Nat) : isDec (decDigits u) = true := by
  unfold isDec
  rw [all_dec]
  have h1 : (decDigits u).isEmpty = false := by cases h : decDigits u with
    | nil => exact absurd h (decDigits_ne u)
    | cons => rfl
  rw [h1]
  by_cases h : u < 10
  · rw [decDigits_one h]; rfl
  · have := head_dec u (by omega)
    simp [this]

theorem snoc_cases (l : List UInt8) : l = [] ∨ ∃ r c, l = r ++ [c] := by
  rcases List.eq_nil_or_concat l with h | ⟨r, c, h⟩
  · exact .inl h
  · exact .inr ⟨r, c, by simpa using h⟩

theorem val_pos : ∀ (n : Nat) (l : List UInt8), l.length ≤ n → l ≠ [] → l.all isDig = true → l.head? ≠ some 48 → 0 < val l := by
  intro n
  induction n with
  | zero => intro l h hne; cases l with
    | nil => exact absurd rfl hne
    | cons => simp at h
  | succ n ih =>
    intro l hl hne hall hh
    rcases snoc_cases l with rfl | ⟨r, c, rfl⟩
    · exact absurd rfl hne
    · rw [val_snoc]
      by_cases hr : r = []
      · subst hr
        simp only [List.nil_append, List.head?_cons, ne_eq, Option.some.injEq] at hh
        simp [isDig] at hall
        have : c.toNat ≠ 48 := fun e => hh (by rw [← UInt8.toNat_inj, e]; rfl)
        omega
      · rw [head_app _ _ hr] at hh
        have := ih r (by simp at hl; omega) hr (by rw [List.all_append] at hall; simp at hall; simpa using hall.1) hh
        omega

/-- Digits that have no nought ahead are the number's. -/
theorem dec_val : ∀ (n : Nat) (l : List UInt8), l.length ≤ n → l ≠ [] → l.all isDig = true → (l.head? ≠ some 48 ∨ l.length = 1) → decDigits (val l) = l := by
  intro n
  induction n with
  | zero => intro l h hne; cases l with
    | nil => exact absurd rfl hne
    | cons => simp at h
  | succ n ih =>
    intro l hl hne hall hh
    rcases snoc_cases l with rfl | ⟨r, c, rfl⟩
    · exact absurd rfl hne
    · have hc : 48 ≤ c.toNat ∧ c.toNat ≤ 57 := by
        rw [List.all_append] at hall; simp [isDig] at hall; omega
      by_cases hr : r = []
      · subst hr
        have hv : val ([] ++ [c]) = c.toNat - 48 := by simp [val]
        rw [hv, decDigits_one (by omega)]
        simp only [List.nil_append, List.cons.injEq, and_true]
        rw [← UInt8.toNat_inj, byte48 (by omega)]; omega
      · have hh' : r.head? ≠ some 48 := by
          rcases hh with h | h
          · rwa [head_app _ _ hr] at h
          · have : 0 < r.length := List.length_pos_iff.2 hr
            simp at h; exact absurd h hr
        have hall' : r.all isDig = true := by rw [List.all_append] at hall; simp at hall; simpa using hall.1
        have hp := val_pos r.length r (Nat.le_refl _) hr hall' hh'
        rw [val_snoc, decDigits, dif_neg (by omega)]
        have e1 : (val r * 10 + (c.toNat - 48)) / 10 = val r := by omega
        have e2 : (val r * 10 + (c.toNat - 48)) % 10 = c.toNat - 48 := by omega
        rw [e1, e2, ih r (by simp at hl; omega) hr hall' (.inl hh')]
        congr 1
        simp only [List.cons.injEq, and_true]
        rw [← UInt8.toNat_inj, byte48 (by omega)]; omega

theorem dec_of_isDec (l : List UInt8) (h : isDec l = true) : decDigits (val l) = l := by
  simp only [isDec, Bool.and_eq_true, Bool.not_eq_true', Bool.and_eq_false_imp, decide_eq_true_eq, beq_eq_false_iff_ne] at h
  obtain ⟨⟨h1, h2⟩, h3⟩ := h
  have hne : l ≠ [] := fun e => by rw [e] at h1; simp at h1
  refine dec_val l.length l (Nat.le_refl _) hne h3 ?_
  by_cases hl : 1 < l.length
  · exact .inl (h2 hl)
  · right
    have : 0 < l.length := List.length_pos_iff.2 hne
    omega

theorem val_mono (l : List UInt8) (k j : Nat) (h : k ≤ j) : val (l.take k) ≤ val (l.take j) := by
  induction j with
  | zero => have : k = 0 := by omega
            rw [this]; exact Nat.le_refl _
  | succ j ih =>
    by_cases hk : k = j + 1
    · rw [hk]; exact Nat.le_refl _
    · have h1 := ih (by omega)
      by_cases hj : j < l.length
      · rw [List.take_succ_eq_append_getElem hj, val_snoc]; omega
      · rw [List.take_of_length_le (show l.length ≤ j + 1 by omega)]
        rw [List.take_of_length_le (show l.length ≤ j by omega)] at h1
        exact h1

end Go.Proofs.YtiocibllmaakkaaDoor.W
