/-
  Plain mathematics for layer 2: a finite number that is not 0, doubled, is another; what stands at the edges. No condition.
-/
import Derived.Test.YtdcpacdfbbdnlaaDoorRLaws
namespace Go.Proofs.YtdcpacdfbbdnlaaDoor.R
open Ieee
set_option linter.unusedVariables false
set_option maxRecDepth 20000
set_option linter.unusedSimpArgs false

theorem word_rung (s : Bool) (r : Nat) (h : r < 9223372036854775808) : rung (double.word s r) = r := by
  have e : double.signWeight = 9223372036854775808 := by decide
  unfold rung Format.word; rw [e]; split <;> omega
theorem word_sgn (s : Bool) (r : Nat) (h : r < 9223372036854775808) : sgn (double.word s r) = s := by
  have e : double.signWeight = 9223372036854775808 := by decide
  unfold sgn Format.word; rw [e]; cases s
  · rw [if_neg (by decide)]; rw [beq_eq_false_iff_ne]; omega
  · rw [if_pos rfl]; rw [beq_iff_eq]; omega

theorem cut_zero (s : Bool) (n : Nat) : Toward.even.cut s n 0 = n := by
  unfold Toward.cut; simp [Nat.mod_one]
theorem cut_even (s : Bool) (m k : Nat) (h : k ≤ (m * 2 ^ k).log2 + 2) : Toward.even.cut s (m * 2 ^ k) k = m := by
  unfold Toward.cut
  have hp : 0 < 2 ^ k := Nat.two_pow_pos k
  simp only [Nat.min_eq_left h, Nat.shiftLeft_eq, Nat.one_mul, Nat.mul_div_cancel _ hp, Nat.mul_mod_left]
  have h1 : ¬ (2 ^ k < 2 * 0) := by omega
  have h2 : (2 ^ k == 2 * 0) = false := by rw [beq_eq_false_iff_ne]; omega
  rw [decide_eq_false h1, h2]; rfl

/-- The word of a number with at most 53 digits whose last place is not too low. -/
theorem nearest_norm (s : Bool) (m : Nat) (p : Int) (k : Nat) (hm : 4503599627370496 ≤ m) (hm2 : m < 9007199254740992) (hp : -1074 ≤ p + k) :
    double.nearest s (m * 2 ^ k) p = double.word s (min ((p + k + 1074).toNat * 4503599627370496 + m) 9218868437227405312) := by
  have e2 : double.binade = 4503599627370496 := by decide
  have e3 : double.infRung = 9218868437227405312 := by decide
  have e4 : double.leastPlace = -1074 := by decide
  have e5 : double.fractionBits = 52 := rfl
  have hpk : 0 < 2 ^ k := Nat.two_pow_pos k
  have hl : m.log2 = 52 := (Nat.log2_eq_iff (by omega)).2 ⟨by simpa using hm, by simpa using hm2⟩
  have hlk : (m * 2 ^ k).log2 = 52 + k := by
    rw [Nat.log2_eq_iff (by have := Nat.mul_pos (show 0 < m by omega) hpk; omega)]
    constructor
    · rw [Nat.pow_add]; exact Nat.mul_le_mul_right _ (by simpa using hm)
    · rw [show 52 + k + 1 = 53 + k from by omega, Nat.pow_add]; exact Nat.mul_lt_mul_of_pos_right (by simpa using hm2) hpk
  unfold Format.nearest
  rw [if_neg (by have := Nat.mul_pos (show 0 < m by omega) hpk; omega)]
  simp only [e2, e3, e4, e5, hlk]
  have el : max (p + ((52 + k : Nat) : Int) - ((52 : Nat) : Int)) (-1074) = p + k := by omega
  rw [el, show (p - (p + (k : Int))).toNat = 0 from by omega, show (p + (k : Int) - p).toNat = k from by omega, Nat.shiftLeft_zero, cut_even s m k (by rw [hlk]; omega)]
  rw [show p + (k : Int) - -1074 = p + k + 1074 from by omega]

theorem nearest_sub (s : Bool) (m : Nat) (hm : m ≤ 9007199254740991) : double.nearest s m (-1074) = double.word s (min m 9218868437227405312) := by
  have e2 : double.binade = 4503599627370496 := by decide
  have e3 : double.infRung = 9218868437227405312 := by decide
  have e4 : double.leastPlace = -1074 := by decide
  have e5 : double.fractionBits = 52 := rfl
  unfold Format.nearest
  by_cases h0 : m = 0
  · subst h0; rw [if_pos rfl]; rfl
  rw [if_neg h0]
  have hl : m.log2 < 53 := by rw [Nat.log2_lt h0]; simpa using (by omega : m < 9007199254740992)
  simp only [e2, e3, e4, e5]
  have el : max (-1074 + (m.log2 : Int) - ((52 : Nat) : Int)) (-1074) = -1074 := by omega
  rw [el]
  simp [cut_zero]

theorem dbl (x : Nat) (h0 : 0 < rung x) (h : rung x < 9218868437227405312) : ∃ r, double.add x x = some r ∧ sgn r = sgn x ∧ rung x < rung r ∧ rung r ≤ 9218868437227405312 := by
  have e1 : double.signWeight = 9223372036854775808 := by decide
  have e2 : double.binade = 4503599627370496 := by decide
  have e3 : double.infRung = 9218868437227405312 := by decide
  have e4 : double.leastPlace = -1074 := by decide
  have sumEq : ∀ (s : Bool) (m : Nat) (i : Int), 0 < m → Datum.sum (.number s m i) (.number s m i) = some (.number s (2 * m) i) := fun s m i hm => by
    simp only [Datum.sum, Int.min_self, Int.sub_self, Int.toNat_zero, signed, Nat.shiftLeft_zero]
    cases s
    · simp only [Bool.false_eq_true, if_false]
      rw [if_neg (by omega), show ((m : Int) + m).natAbs = 2 * m from by omega, decide_eq_false (show ¬ (m : Int) + m < 0 by omega)]
    · simp only [if_true]
      rw [if_neg (by omega), show (-(m : Int) + -m).natAbs = 2 * m from by omega, decide_eq_true (show -(m : Int) + -m < 0 by omega)]
  unfold Format.add
  by_cases h1 : rung x < 4503599627370496
  · have hr : double.read x = .number (sgn x) (rung x) (-1074) := by
      unfold Format.read
      simp only [e1, e2, e3, e4]
      have hr : x % 9223372036854775808 = rung x := rfl
      rw [hr, if_pos h1]; rfl
    rw [hr, sumEq _ _ _ h0]
    refine ⟨_, rfl, ?_⟩
    show sgn (double.nearest _ _ _) = _ ∧ rung x < rung (double.nearest _ _ _) ∧ rung (double.nearest _ _ _) ≤ _
    rw [nearest_sub _ _ (by omega), word_sgn _ _ (by omega), word_rung _ _ (by omega)]
    exact ⟨rfl, by omega, by omega⟩
  · have hr : double.read x = .number (sgn x) (4503599627370496 + rung x % 4503599627370496) (-1074 + ((rung x / 4503599627370496 - 1 : Nat) : Int)) := by
      unfold Format.read
      simp only [e1, e2, e3, e4]
      have hr : x % 9223372036854775808 = rung x := rfl
      rw [hr, if_neg h1, if_pos h]; rfl
    rw [hr, sumEq _ _ _ (by omega)]
    refine ⟨_, rfl, ?_⟩
    show sgn (double.nearest _ _ _) = _ ∧ rung x < rung (double.nearest _ _ _) ∧ rung (double.nearest _ _ _) ≤ _
    have hn := nearest_norm (sgn x) (4503599627370496 + rung x % 4503599627370496) (-1074 + ((rung x / 4503599627370496 - 1 : Nat) : Int)) 1 (by omega) (by omega) (by omega)
    rw [show (4503599627370496 + rung x % 4503599627370496) * 2 ^ 1 = 2 * (4503599627370496 + rung x % 4503599627370496) from by omega] at hn
    rw [hn, word_sgn _ _ (by omega), word_rung _ _ (by omega)]
    refine ⟨rfl, ?_, by omega⟩
    have : (-1074 + ((rung x / 4503599627370496 - 1 : Nat) : Int) + ((1 : Nat) : Int) + 1074).toNat = rung x / 4503599627370496 := by omega
    rw [this]
    omega

end Go.Proofs.YtdcpacdfbbdnlaaDoor.R
