/-
  Plain mathematics for layer 9: the bytes of a part, and back. No condition.
-/
import Derived.Test.YtbkeodgiflfakaaPlain
import Derived.Laws.BitsAllLaws
namespace Go.Proofs.Ytbkeodgiflfakaa.X9
open Go.Proofs.Ytbkeodgiflfakaa.W

theorem foldl_acc : ∀ (l : List UInt8) (acc : Nat), l.foldl (fun n b => n * 256 + b.toNat) acc = acc * 256 ^ l.length + l.foldl (fun n b => n * 256 + b.toNat) 0
  | [], acc => by simp
  | b :: l, acc => by
    rw [List.foldl_cons, List.foldl_cons, foldl_acc l (acc * 256 + b.toNat), foldl_acc l (0 * 256 + b.toNat), List.length_cons, Nat.pow_succ]
    rw [Nat.zero_mul, Nat.zero_add, Nat.add_mul, Nat.mul_assoc, Nat.mul_comm 256 (256 ^ l.length)]
    omega
theorem getN_cons (b : UInt8) (l : List UInt8) : getN (b :: l) = b.toNat * 256 ^ l.length + getN l := by
  unfold getN
  rw [List.foldl_cons, foldl_acc]
  simp
theorem putL_mod (n : Nat) : ∀ k m, k ≤ m → putL (n % 256 ^ m) k = putL n k
  | 0, _, _ => rfl
  | k + 1, m, h => by
    simp only [putL]
    rw [putL_mod n k m (by omega)]
    congr 1
    obtain ⟨d, rfl⟩ : ∃ d, m = k + 1 + d := ⟨m - (k + 1), by omega⟩
    apply UInt8.toNat_inj.1
    simp only [UInt8.toNat_ofNat']
    rw [show k + 1 + d = k + (d + 1) by omega, Nat.pow_add, Nat.mod_mul_right_div_self, Nat.pow_succ]
    exact Nat.mod_mul_left_mod _ _ _
theorem get_put : ∀ (k a : Nat), getN (putL a k) = a % 256 ^ k
  | 0, a => by simp [putL, getN, Nat.mod_one]
  | k + 1, a => by
    simp only [putL]
    rw [getN_cons, get_put k a, putL_length, Nat.mod_pow_succ]
    simp
    rw [Nat.mul_comm, Nat.add_comm]
theorem put_get : ∀ (l : List UInt8), putL (getN l) l.length = l
  | [] => rfl
  | b :: l => by
    have hlt := getN_lt l
    rw [List.length_cons]
    simp only [putL]
    rw [getN_cons]
    congr 1
    · rw [Nat.mul_comm, Nat.mul_add_div (Nat.pow_pos (by decide)), Nat.div_eq_of_lt hlt]
      simp
    · rw [← putL_mod _ l.length l.length (Nat.le_refl _), Nat.mul_comm, Nat.mul_add_mod, Nat.mod_eq_of_lt hlt]
      exact put_get l

/-- The number of a part with its mark. -/
def ixN (ix : Nat) (la : Bool) : Nat := if la then ix + 32768 else ix
def headL (st re nm n : Nat) : List UInt8 := putL st 2 ++ (putL re 2 ++ (putL nm 8 ++ putL n 2))
theorem headL_length (st re nm n : Nat) : (headL st re nm n).length = 14 := by simp [headL, putL_length]
/-- The bytes of a part. -/
def partL (st re nm n : Nat) (t : List UInt8) : List UInt8 := headL st re nm n ++ t
theorem partL_length (st re nm n : Nat) (t : List UInt8) : (partL st re nm n t).length = t.length + 14 := by simp [partL, headL_length]; omega

theorem take2 (st re nm n : Nat) (t : List UInt8) : (partL st re nm n t).take 2 = putL st 2 := by
  unfold partL headL; rw [List.append_assoc, List.take_append_of_le_length (by simp [putL_length]), List.take_of_length_le (by simp [putL_length])]
theorem drop2 (st re nm n : Nat) (t : List UInt8) : (partL st re nm n t).drop 2 = putL re 2 ++ (putL nm 8 ++ (putL n 2 ++ t)) := by
  unfold partL headL; simp only [List.append_assoc]; rw [List.drop_append_of_le_length (by simp [putL_length]), List.drop_of_length_le (by simp [putL_length])]; rfl
theorem take4 (st re nm n : Nat) (t : List UInt8) : ((partL st re nm n t).drop 2).take 2 = putL re 2 := by
  rw [drop2, List.take_append_of_le_length (by simp [putL_length]), List.take_of_length_le (by simp [putL_length])]
theorem drop4 (st re nm n : Nat) (t : List UInt8) : ((partL st re nm n t).drop 2).drop 2 = putL nm 8 ++ (putL n 2 ++ t) := by
  rw [drop2, List.drop_append_of_le_length (by simp [putL_length]), List.drop_of_length_le (by simp [putL_length])]; rfl
theorem take12 (st re nm n : Nat) (t : List UInt8) : (((partL st re nm n t).drop 2).drop 2).take 8 = putL nm 8 := by
  rw [drop4, List.take_append_of_le_length (by simp [putL_length]), List.take_of_length_le (by simp [putL_length])]
theorem drop12 (st re nm n : Nat) (t : List UInt8) : (((partL st re nm n t).drop 2).drop 2).drop 8 = putL n 2 ++ t := by
  rw [drop4, List.drop_append_of_le_length (by simp [putL_length]), List.drop_of_length_le (by simp [putL_length])]; rfl
theorem take14 (st re nm n : Nat) (t : List UInt8) : ((((partL st re nm n t).drop 2).drop 2).drop 8).take 2 = putL n 2 := by
  rw [drop12, List.take_append_of_le_length (by simp [putL_length]), List.take_of_length_le (by simp [putL_length])]
theorem drop14 (st re nm n : Nat) (t : List UInt8) : ((((partL st re nm n t).drop 2).drop 2).drop 8).drop 2 = t := by
  rw [drop12, List.drop_append_of_le_length (by simp [putL_length]), List.drop_of_length_le (by simp [putL_length])]; rfl

/-- What stands in a body, by its places. -/
def fSt (s : List UInt8) : Nat := getN (s.take 2)
def fRe (s : List UInt8) : Nat := getN ((s.drop 2).take 2)
def fNm (s : List UInt8) : Nat := getN (((s.drop 2).drop 2).take 8)
def fN (s : List UInt8) : Nat := getN ((((s.drop 2).drop 2).drop 8).take 2)
def fT (s : List UInt8) : List UInt8 := (((s.drop 2).drop 2).drop 8).drop 2
theorem fSt_lt (s : List UInt8) : fSt s < 65536 := by
  have h := getN_lt (s.take 2)
  have : 256 ^ (s.take 2).length ≤ 256 ^ 2 := Nat.pow_le_pow_right (by decide) (List.length_take_le _ _)
  unfold fSt; omega
theorem fRe_lt (s : List UInt8) : fRe s < 65536 := by
  have h := getN_lt ((s.drop 2).take 2)
  have : 256 ^ ((s.drop 2).take 2).length ≤ 256 ^ 2 := Nat.pow_le_pow_right (by decide) (List.length_take_le _ _)
  unfold fRe; omega
theorem fNm_lt (s : List UInt8) : fNm s < 18446744073709551616 := by
  have h := getN_lt (((s.drop 2).drop 2).take 8)
  have : 256 ^ (((s.drop 2).drop 2).take 8).length ≤ 256 ^ 8 := Nat.pow_le_pow_right (by decide) (List.length_take_le _ _)
  unfold fNm; omega
theorem fN_lt (s : List UInt8) : fN s < 65536 := by
  have h := getN_lt ((((s.drop 2).drop 2).drop 8).take 2)
  have : 256 ^ ((((s.drop 2).drop 2).drop 8).take 2).length ≤ 256 ^ 2 := Nat.pow_le_pow_right (by decide) (List.length_take_le _ _)
  unfold fN; omega
theorem fT_length (s : List UInt8) : (fT s).length = s.length - 14 := by simp [fT]
theorem f_part (st re nm n : Nat) (t : List UInt8) (h1 : st < 65536) (h2 : re < 65536) (h3 : nm < 18446744073709551616) (h4 : n < 65536) :
    fSt (partL st re nm n t) = st ∧ fRe (partL st re nm n t) = re ∧ fNm (partL st re nm n t) = nm ∧ fN (partL st re nm n t) = n ∧ fT (partL st re nm n t) = t := by
  unfold fSt fRe fNm fN fT
  rw [take2, take4, take12, take14, drop14, get_put, get_put, get_put, get_put]
  refine ⟨Nat.mod_eq_of_lt (by omega), Nat.mod_eq_of_lt (by omega), Nat.mod_eq_of_lt (by omega), Nat.mod_eq_of_lt (by omega), rfl⟩
theorem part_f (s : List UInt8) (h : 14 ≤ s.length) : partL (fSt s) (fRe s) (fNm s) (fN s) (fT s) = s := by
  unfold partL headL fSt fRe fNm fN fT
  have e1 : putL (getN (s.take 2)) 2 = s.take 2 := by have := put_get (s.take 2); rwa [show (s.take 2).length = 2 by simp; omega] at this
  have e2 : putL (getN ((s.drop 2).take 2)) 2 = (s.drop 2).take 2 := by have := put_get ((s.drop 2).take 2); rwa [show ((s.drop 2).take 2).length = 2 by simp; omega] at this
  have e3 : putL (getN (((s.drop 2).drop 2).take 8)) 8 = ((s.drop 2).drop 2).take 8 := by have := put_get (((s.drop 2).drop 2).take 8); rwa [show (((s.drop 2).drop 2).take 8).length = 8 by simp; omega] at this
  have e4 : putL (getN ((((s.drop 2).drop 2).drop 8).take 2)) 2 = (((s.drop 2).drop 2).drop 8).take 2 := by have := put_get ((((s.drop 2).drop 2).drop 8).take 2); rwa [show ((((s.drop 2).drop 2).drop 8).take 2).length = 2 by simp; omega] at this
  rw [e1, e2, e3, e4]
  simp only [List.append_assoc, List.take_append_drop]

theorem ix_or (ix : Nat) (h : ix < 32768) : bits .or .u64 (ix : Int) 32768 = ((ix + 32768 : Nat) : Int) := by
  have h1 := u64_or_nat ix 32768 (by omega) (by omega)
  rw [show (32768 : Int) = ((32768 : Nat) : Int) from rfl, h1]
  have h2 := Nat.two_pow_add_eq_or_of_lt (i := 15) (b := ix) (by omega) 1
  rw [Nat.or_comm]
  rw [show 2 ^ 15 * 1 = 32768 from rfl] at h2
  rw [← h2]
  omega
theorem ix_not (x : Nat) (h : x < 65536) : bits .andNot .u64 (x : Int) 32768 = ((x % 32768 : Nat) : Int) := by
  have h1 := u64_andNot_nat x 32768 (by omega) (by omega)
  rw [show (32768 : Int) = ((32768 : Nat) : Int) from rfl, h1]
  congr 1
  have e : x = 32768 * (x / 32768) + x % 32768 := by omega
  have hq : x / 32768 < 2 := by omega
  have hr : x % 32768 < 32768 := by omega
  generalize x / 32768 = q at *
  generalize x % 32768 = r at *
  subst e
  apply Nat.eq_of_testBit_eq
  intro i
  rw [Nat.testBit_and]
  have e2 : 18446744073709551615 - 32768 = 2 ^ 64 - 1 - 2 ^ 15 := rfl
  by_cases hi : i < 15
  · have a : (32768 * q + r).testBit i = r.testBit i := by
      rw [show 32768 * q + r = 2 ^ 15 * q + r from rfl, Nat.testBit_two_pow_mul_add q hr, if_pos hi]
    rw [a]
    have b : (18446744073709551615 - 32768).testBit i = true := by
      have : ∀ i : Fin 15, (18446744073709551615 - 32768).testBit i.val = true := by decide
      exact this ⟨i, hi⟩
    rw [b, Bool.and_true]
  · have hr' : r.testBit i = false := Nat.testBit_lt_two_pow (Nat.lt_of_lt_of_le hr (Nat.pow_le_pow_right (n := 2) (by decide) (show 15 ≤ i by omega)))
    rw [hr']
    by_cases hj : i = 15
    · subst hj
      have e3 : (18446744073709551615 - 32768).testBit 15 = false := by decide
      rw [e3, Bool.and_false]
    · have : (32768 * q + r).testBit i = false := Nat.testBit_lt_two_pow (Nat.lt_of_lt_of_le (show 32768 * q + r < 2 ^ 16 by omega) (Nat.pow_le_pow_right (n := 2) (by decide) (by omega)))
      rw [this, Bool.false_and]
theorem ix_and (x : Nat) (h : x < 65536) : bits .and .u64 (x : Int) 32768 = if 32768 ≤ x then 32768 else 0 := by
  have h1 := u64_and_nat x 32768 (by omega) (by omega)
  have e0 : bits .and .u64 (x : Int) 32768 = ((x &&& 32768 : Nat) : Int) := h1
  have : x.testBit 15 = decide (32768 ≤ x) := by
    rw [Nat.testBit_eq_decide_div_mod_eq]
    rw [show (2 : Nat) ^ 15 = 32768 from rfl]
    by_cases g : 32768 ≤ x
    · simp [g]; omega
    · simp [g]; omega
  have e1 : x &&& 32768 = if 32768 ≤ x then 32768 else 0 := by
    rw [show (32768 : Nat) = 2 ^ 15 from rfl]
    apply Nat.eq_of_testBit_eq
    intro i
    rw [Nat.testBit_and, Nat.testBit_two_pow]
    by_cases e : 15 = i
    · subst e
      rw [this]
      by_cases g : 32768 ≤ x
      · rw [if_pos (show 2 ^ 15 ≤ x from g), Nat.testBit_two_pow]; simp [g]
      · rw [if_neg (show ¬ 2 ^ 15 ≤ x from g)]; simp [g]
    · by_cases g : 32768 ≤ x
      · rw [if_pos (show 2 ^ 15 ≤ x from g), Nat.testBit_two_pow]; simp [e]
      · rw [if_neg (show ¬ 2 ^ 15 ≤ x from g)]; simp [e]
  rw [e0, e1]
  by_cases g : 32768 ≤ x
  · rw [if_pos g, if_pos g]; rfl
  · rw [if_neg g, if_neg g]; rfl

end Go.Proofs.Ytbkeodgiflfakaa.X9
