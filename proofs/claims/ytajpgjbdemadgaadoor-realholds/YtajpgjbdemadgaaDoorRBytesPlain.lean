/-
  Plain mathematics for layer 2: the bytes of numbers. No condition.
-/
import Derived.Test.YtajpgjbdemadgaaDoorRLaws
import Derived.Test.YtajpgjbdemadgaaDoorPlain
import Derived.Laws.BitsAllLaws
import Derived.Lib.Bytealg
namespace Go.Proofs.YtajpgjbdemadgaaDoor.R
set_option linter.unusedVariables false
set_option linter.unusedSimpArgs false

/-- What is written of a number; what is read back. -/
def nb (x : Nat) : Nat := if nan x = true then 0 else if 9223372036854775808 ≤ x then 18446744073709551615 - x else x + 9223372036854775808
def tn (n : Nat) : Nat := if 9223372036854775808 ≤ n then n - 9223372036854775808 else 18446744073709551615 - n

theorem nb_lt (x : Nat) (hx : x < 18446744073709551616) : nb x < 18446744073709551616 := by
  unfold nb; repeat' split
  all_goals omega
theorem tn_lt (n : Nat) (hn : n < 18446744073709551616) : tn n < 18446744073709551616 := by unfold tn; split <;> omega
theorem nb_nan {x : Nat} (h : nan x = true) : nb x = 0 := by unfold nb; rw [if_pos h]
theorem nb_rank {x : Nat} (hx : x < 18446744073709551616) (h : nan x = false) : (nb x : Int) = 9223372036854775808 + rank x := by
  have hs := sgn_eq x hx
  unfold nb rank; rw [if_neg (by simp [h]), if_neg (show ¬ nan x = true by simp [h]), hs]
  unfold rung
  by_cases hx2 : 9223372036854775808 ≤ x
  · rw [if_pos hx2, decide_eq_true hx2, if_pos rfl]; omega
  · rw [if_neg hx2, decide_eq_false hx2, if_neg (by decide)]; omega
theorem rank_low {x : Nat} (h : nan x = false) : -9218868437227405313 ≤ rank x := by
  have := nan_false h
  unfold rank; rw [if_neg (by simp [h])]; split <;> omega
theorem nb_pos {x : Nat} (hx : x < 18446744073709551616) (h : nan x = false) : 0 < nb x := by
  have := nb_rank hx h; have := rank_low h; omega
theorem nb_num {x : Nat} (h : nan x = false) : nb x = if 9223372036854775808 ≤ x then 18446744073709551615 - x else x + 9223372036854775808 := by
  unfold nb; rw [if_neg (by simp [h])]
theorem tn_nb {x : Nat} (hx : x < 18446744073709551616) (h : nan x = false) : tn (nb x) = x := by
  rw [nb_num h]; unfold tn
  by_cases hx2 : 9223372036854775808 ≤ x
  · rw [if_pos hx2, if_neg (by omega)]; omega
  · rw [if_neg hx2, if_pos (by omega)]; omega
theorem nb_tn {n : Nat} (hn : n < 18446744073709551616) (h : nan (tn n) = false) : nb (tn n) = n := by
  unfold nb; rw [if_neg (by simp [h])]
  unfold tn
  by_cases h2 : 9223372036854775808 ≤ n
  · rw [if_pos h2, if_neg (by omega)]; omega
  · rw [if_neg h2, if_pos (by omega)]; omega
theorem cmp_nb (x y : Nat) (hx : x < 18446744073709551616) (hy : y < 18446744073709551616) : cmpI (nb x) (nb y) = cmpI (rank x) (rank y) := by
  cases nx : nan x <;> cases ny : nan y
  · rw [nb_rank hx nx, nb_rank hy ny]; unfold cmpI; repeat' split
    all_goals omega
  · have := nb_pos hx nx; have := rank_num nx
    rw [nb_nan ny, rank_nan ny, cmpI_gt (by omega), cmpI_gt (by omega)]
  · have := nb_pos hy ny; have := rank_num ny
    rw [nb_nan nx, rank_nan nx, cmpI_lt (by omega), cmpI_lt (by omega)]
  · rw [nb_nan nx, nb_nan ny, rank_nan nx, rank_nan ny, cmpI_self, cmpI_self]

theorem cmpB : ∀ x y : List UInt8, Lib.compareBytes x y = if Op.bytesLess x y = true then -1 else if Op.bytesLess y x = true then 1 else 0
  | [], [] => by simp [Lib.compareBytes, Op.bytesLess]
  | [], _ :: _ => by simp [Lib.compareBytes, Op.bytesLess]
  | _ :: _, [] => by simp [Lib.compareBytes, Op.bytesLess]
  | a :: x, b :: y => by
    have ih := cmpB x y
    simp only [Lib.compareBytes, Op.bytesLess, Bool.or_eq_true, Bool.and_eq_true, decide_eq_true_eq, beq_iff_eq]
    have tri : a < b ∨ a = b ∨ b < a := by
      rw [UInt8.lt_iff_toNat_lt, UInt8.lt_iff_toNat_lt, ← UInt8.toNat_inj]; omega
    rcases tri with h | h | h
    · simp [h]
    · subst h; simp [ih, UInt8.lt_irrefl]
    · have h1 : ¬ a < b := by rw [UInt8.lt_iff_toNat_lt] at h ⊢; omega
      have h2 : ¬ a = b := by rw [UInt8.lt_iff_toNat_lt] at h; intro e; rw [e] at h; omega
      simp [h, h1, h2]
theorem cmp_putL (a b : Nat) (ha : a < 18446744073709551616) (hb : b < 18446744073709551616) : Lib.compareBytes (W.putL a 8) (W.putL b 8) = cmpI a b := by
  have e : (256 ^ 8 : Nat) = 18446744073709551616 := by decide
  rw [cmpB, W.bytesLess_putL, W.bytesLess_putL, e, Nat.mod_eq_of_lt ha, Nat.mod_eq_of_lt hb]
  unfold cmpI
  simp only [decide_eq_true_eq]
  repeat' split
  all_goals omega

theorem foldl_from (l : List UInt8) (x : Nat) : l.foldl (fun n b => n * 256 + b.toNat) x = x * 256 ^ l.length + W.getN l := by
  induction l generalizing x with
  | nil => simp [W.getN]
  | cons b l ih =>
    have h1 := ih (x * 256 + b.toNat)
    have h2 := ih b.toNat
    simp only [W.getN, List.foldl_cons, List.length_cons, Nat.zero_mul, Nat.zero_add] at *
    rw [h1, h2, Nat.pow_succ, Nat.add_mul, Nat.mul_assoc, Nat.mul_comm 256, Nat.add_assoc]
theorem getN_cons (b : UInt8) (l : List UInt8) : W.getN (b :: l) = b.toNat * 256 ^ l.length + W.getN l := by
  have := foldl_from l b.toNat
  simp only [W.getN, List.foldl_cons, Nat.zero_mul, Nat.zero_add] at *
  exact this
theorem putL_mod (a b : Nat) : ∀ k, a % 256 ^ k = b % 256 ^ k → W.putL a k = W.putL b k
  | 0, _ => rfl
  | k + 1, h => by
    have hM : 0 < 256 ^ k := Nat.pow_pos (by decide)
    rw [Nat.mod_pow_succ, Nat.mod_pow_succ] at h
    have ha := Nat.mod_lt a hM
    have hb := Nat.mod_lt b hM
    have h1 : a / 256 ^ k % 256 = b / 256 ^ k % 256 := by
      have e1 := congrArg (· / 256 ^ k) h
      simp only [Nat.add_mul_div_left _ _ hM, Nat.div_eq_of_lt ha, Nat.div_eq_of_lt hb, Nat.zero_add] at e1
      exact e1
    have h2 : a % 256 ^ k = b % 256 ^ k := by rw [h1] at h; omega
    simp only [W.putL, putL_mod a b k h2]
    congr 1
    rw [← UInt8.toNat_inj]; simpa using h1
theorem put_get : ∀ l : List UInt8, W.putL (W.getN l) l.length = l
  | [] => rfl
  | b :: l => by
    have hl := W.getN_lt l
    have hM : 0 < 256 ^ l.length := Nat.pow_pos (by decide)
    rw [getN_cons, List.length_cons]
    simp only [W.putL]
    congr 1
    · rw [Nat.mul_comm, Nat.mul_add_div hM, Nat.div_eq_of_lt hl, Nat.add_zero]; simp
    · rw [putL_mod _ (W.getN l) l.length (by rw [Nat.mul_comm, Nat.mul_add_mod]), put_get l]
theorem get_put8 (a : Nat) (h : a < 18446744073709551616) : W.getN (W.putL a 8) = a := by
  have key : ∀ k, W.getN (W.putL a k) = a % 256 ^ k := by
    intro k
    induction k with
    | zero => simp [W.putL, W.getN, Nat.mod_one]
    | succ k ih =>
      simp only [W.putL]
      rw [getN_cons, W.putL_length, ih, Nat.mod_pow_succ]
      simp
      rw [Nat.mul_comm, Nat.add_comm]
  rw [key, Nat.mod_eq_of_lt (by simpa using h)]

theorem top_eq : (9223372036854775808 : Nat) = 2 ^ 63 := by decide
theorem and_low (x : Nat) (h : x < 9223372036854775808) : bits .and .u64 (x : Int) 9223372036854775808 = 0 := by
  have := u64_and_nat x 9223372036854775808 (by omega) (by decide)
  rw [show ((9223372036854775808 : Nat) : Int) = 9223372036854775808 from rfl] at this
  rw [this]
  have e : x &&& 9223372036854775808 = 0 := by
    apply Nat.eq_of_testBit_eq
    intro i
    rw [Nat.testBit_and, top_eq, Nat.testBit_two_pow, Nat.zero_testBit]
    by_cases hi : 63 = i
    · subst hi; rw [Nat.testBit_lt_two_pow (by simpa using h)]; rfl
    · rw [decide_eq_false hi, Bool.and_false]
  rw [e]; rfl
theorem and_high (x : Nat) (h0 : 9223372036854775808 ≤ x) (h : x < 18446744073709551616) : bits .and .u64 (x : Int) 9223372036854775808 = 9223372036854775808 := by
  have := u64_and_nat x 9223372036854775808 (by omega) (by decide)
  rw [show ((9223372036854775808 : Nat) : Int) = 9223372036854775808 from rfl] at this
  rw [this]
  have e : x &&& 9223372036854775808 = 9223372036854775808 := by
    apply Nat.eq_of_testBit_eq
    intro i
    rw [Nat.testBit_and, top_eq, Nat.testBit_two_pow]
    by_cases hi : 63 = i
    · subst hi; rw [Nat.testBit_eq_decide_div_mod_eq, decide_eq_true (by simp; omega)]; rfl
    · rw [decide_eq_false hi, Bool.and_false]
  rw [e]; rfl
theorem or_low (x : Nat) (h : x < 9223372036854775808) : bits .or .u64 (x : Int) 9223372036854775808 = ((x + 9223372036854775808 : Nat) : Int) := by
  have := u64_or_nat x 9223372036854775808 (by omega) (by decide)
  rw [show ((9223372036854775808 : Nat) : Int) = 9223372036854775808 from rfl] at this
  rw [this]
  have e : 2 ^ 63 * 1 + x = 2 ^ 63 * 1 ||| x := Nat.two_pow_add_eq_or_of_lt (by simpa using h) 1
  rw [show (2 ^ 63 * 1 : Nat) = 9223372036854775808 from by decide] at e
  rw [Nat.or_comm, ← e, Nat.add_comm]
theorem xor_all (x : Nat) (h : x < 18446744073709551616) : bits .xor .u64 18446744073709551615 (x : Int) = ((18446744073709551615 - x : Nat) : Int) := by
  have := u64_xor_nat 18446744073709551615 x (by decide) h
  rw [show ((18446744073709551615 : Nat) : Int) = 18446744073709551615 from rfl] at this
  rw [this]
  congr 1
  apply Nat.eq_of_testBit_eq
  intro i
  have e1 : (18446744073709551615 : Nat) = 2 ^ 64 - 1 := by decide
  have e2 : 18446744073709551615 - x = 2 ^ 64 - (x + 1) := by omega
  rw [Nat.testBit_xor, e2, e1, Nat.testBit_two_pow_sub_one, Nat.testBit_two_pow_sub_succ (by simpa using h)]
  by_cases hi : i < 64
  · simp [hi]
  · rw [decide_eq_false hi, Nat.testBit_lt_two_pow (Nat.lt_of_lt_of_le (by simpa using h) (Nat.pow_le_pow_right (by decide) (Nat.le_of_not_lt hi)))]; rfl
theorem andNot_high (n : Nat) (h0 : 9223372036854775808 ≤ n) (h : n < 18446744073709551616) : bits .andNot .u64 (n : Int) 9223372036854775808 = ((n - 9223372036854775808 : Nat) : Int) := by
  have := u64_andNot_nat n 9223372036854775808 (by omega) (by decide)
  rw [show ((9223372036854775808 : Nat) : Int) = 9223372036854775808 from rfl] at this
  rw [this]
  have e := Nat.and_two_pow_sub_one_eq_mod n 63
  rw [show (2 ^ 63 - 1 : Nat) = 9223372036854775807 from by decide, show (2 ^ 63 : Nat) = 9223372036854775808 from by decide] at e
  rw [show (18446744073709551615 - 9223372036854775808 : Nat) = 9223372036854775807 from by decide, e]
  omega

end Go.Proofs.YtajpgjbdemadgaaDoor.R
