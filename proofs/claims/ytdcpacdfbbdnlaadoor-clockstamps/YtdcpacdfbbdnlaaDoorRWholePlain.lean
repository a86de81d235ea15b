/-
  Plain mathematics for layer 2: what stands ahead of the point, and the word of a whole number. No condition.
-/
import Derived.Test.YtdcpacdfbbdnlaaDoorRArith
import Derived.Laws.FloatArith
namespace Go.Proofs.YtdcpacdfbbdnlaaDoor.R
open Ieee
set_option linter.unusedVariables false
set_option maxRecDepth 20000
set_option linter.unusedSimpArgs false
set_option exponentiation.threshold 2000

/-- One, in units of the least place. -/
def U : Nat := 2 ^ 1074
theorem U_pos : 0 < U := Nat.two_pow_pos _
theorem U_split (k : Nat) (h : k ≤ 1074) : U = 2 ^ k * 2 ^ (1074 - k) := by
  unfold U; rw [← Nat.pow_add, show k + (1074 - k) = 1074 from by omega]
theorem M_form (k m : Nat) (h1 : 4503599627370496 ≤ m) (h2 : m < 9007199254740992) : M (k * 4503599627370496 + m) = m * 2 ^ k := by
  unfold M
  rw [if_neg (by omega), show (k * 4503599627370496 + m) % 4503599627370496 = m - 4503599627370496 from by omega, show (k * 4503599627370496 + m) / 4503599627370496 - 1 = k from by omega, show 4503599627370496 + (m - 4503599627370496) = m from by omega]
theorem M_le (r s : Nat) (h : r ≤ s) : M r ≤ M s := by
  rcases Nat.lt_or_eq_of_le h with h' | h'
  · exact Nat.le_of_lt (M_lt r s h')
  · rw [h']; exact Nat.le_refl _

/-- What stands ahead of the point. -/
def flo (r : Nat) : Nat := M r / U
theorem flo_le (r s : Nat) (h : r ≤ s) : flo r ≤ flo s := Nat.div_le_div_right (M_le r s h)

theorem cut_z (n k : Nat) (h : k ≤ n.log2 + 2) : Toward.zero.cut false n k = n / 2 ^ k := by
  unfold Toward.cut
  simp only [Nat.min_eq_left h, Nat.shiftLeft_eq, Nat.one_mul]
  rfl

/-- uint64(x), of a number from 1 to what lies below 2^64. -/
theorem toInt_flo (x : Nat) (hs : sgn x = false) (h0 : 4607182418800017408 ≤ rung x) (h1 : rung x < 4895412794951729152) : floatToIntVal .f64 x .u64 = some ((flo (rung x) : Nat) : Int) := by
  have hr : double.read x = .number (sgn x) (4503599627370496 + rung x % 4503599627370496) (-1074 + ((rung x / 4503599627370496 - 1 : Nat) : Int)) := by
    have e1 : double.signWeight = 9223372036854775808 := by decide
    have e2 : double.binade = 4503599627370496 := by decide
    have e3 : double.infRung = 9218868437227405312 := by decide
    have e4 : double.leastPlace = -1074 := by decide
    unfold Format.read
    simp only [e1, e2, e3, e4]
    have hr : x % 9223372036854775808 = rung x := rfl
    rw [hr, if_neg (by omega), if_pos (by omega)]; rfl
  obtain ⟨k, hk⟩ : ∃ k, k = rung x / 4503599627370496 - 1 := ⟨_, rfl⟩
  obtain ⟨m, hm⟩ : ∃ m, m = 4503599627370496 + rung x % 4503599627370496 := ⟨_, rfl⟩
  have hk0 : 1022 ≤ k := by omega
  have hk1 : k ≤ 1085 := by omega
  have hm0 : 4503599627370496 ≤ m := by omega
  have hm1 : m < 9007199254740992 := by omega
  have hrx : rung x = k * 4503599627370496 + m := by omega
  have hl : m.log2 = 52 := (Nat.log2_eq_iff (by omega)).2 ⟨by simpa using hm0, by simpa using hm1⟩
  have hM : M (rung x) = m * 2 ^ k := by rw [hrx]; exact M_form k m hm0 hm1
  rw [← hk, ← hm, hs] at hr
  have key : (Datum.number false m (-1074 + (k : Int))).toInt .zero = some ((flo (rung x) : Nat) : Int) ∧ flo (rung x) < 18446744073709551616 := by
    unfold Datum.toInt Datum.integral flo
    rw [hM]
    by_cases hc : k ≤ 1074
    · have e1 : (-1074 + (k : Int)).toNat = 0 := by omega
      have e2 : (-(-1074 + (k : Int))).toNat = 1074 - k := by omega
      simp only [e1, e2, Nat.shiftLeft_zero]
      rw [cut_z m _ (by rw [hl]; omega), U_split k hc, Nat.mul_comm m, Nat.mul_div_mul_left _ _ (Nat.two_pow_pos k)]
      refine ⟨by simp [signed], Nat.lt_of_le_of_lt (Nat.div_le_self _ _) (by omega)⟩
    · have e1 : (-1074 + (k : Int)).toNat = k - 1074 := by omega
      have e2 : (-(-1074 + (k : Int))).toNat = 0 := by omega
      simp only [e1, e2]
      have e3 : 2 ^ k = U * 2 ^ (k - 1074) := by unfold U; rw [← Nat.pow_add, show 1074 + (k - 1074) = k from by omega]
      rw [cut_z _ 0 (by omega), e3, Nat.mul_left_comm, Nat.mul_div_cancel_left _ U_pos, Nat.shiftLeft_eq, Nat.pow_zero, Nat.div_one]
      refine ⟨by simp [signed], ?_⟩
      have h2 : 2 ^ (k - 1074) ≤ 2 ^ 11 := Nat.pow_le_pow_right (by decide) (by omega)
      have := Nat.mul_le_mul (Nat.le_of_lt_succ (Nat.lt_succ_of_lt hm1)) h2
      have h3 := Nat.mul_lt_mul_of_lt_of_le hm1 h2 (Nat.two_pow_pos _)
      have : (2 : Nat) ^ 11 = 2048 := by decide
      omega
  unfold floatToIntVal
  rw [show FloatKind.f64.decode x = double.read x from rfl, hr, key.1]
  have h2 := key.2
  have hmin : IntKind.u64.min = 0 := by decide
  have hmax : IntKind.u64.max = 18446744073709551615 := by decide
  simp only []
  rw [if_pos ⟨by rw [hmin]; omega, by rw [hmax]; omega⟩]

/-- The word of a whole number: the rung below it stands for less. -/
theorem near_low (w : Nat) (h0 : 0 < w) (h1 : w < 18446744073709551616) : ∃ r, double.nearest false w 0 = r ∧ r < 9218868437227405312 ∧ 0 < r ∧ M (r - 1) < w * U ∧ (w < 9007199254740992 → M r = w * U) := by
  have e2 : double.binade = 4503599627370496 := by decide
  have e3 : double.infRung = 9218868437227405312 := by decide
  have e4 : double.leastPlace = -1074 := by decide
  have e5 : double.fractionBits = 52 := rfl
  obtain ⟨L, hL⟩ : ∃ L, L = w.log2 := ⟨_, rfl⟩
  have hb := (Nat.log2_eq_iff (by omega : w ≠ 0)).1 hL.symm
  have hL63 : L ≤ 63 := by
    rcases Nat.lt_or_ge 63 L with h | h
    · exfalso
      have : 2 ^ 64 ≤ 2 ^ L := Nat.pow_le_pow_right (by decide) h
      have e : (2 : Nat) ^ 64 = 18446744073709551616 := by decide
      omega
    · exact h
  unfold Format.nearest
  rw [if_neg (by omega)]
  simp only [e2, e3, e4, e5, ← hL]
  by_cases hc : L ≤ 52
  · have el : max (0 + (L : Int) - ((52 : Nat) : Int)) (-1074) = (L : Int) - 52 := by omega
    rw [el, show (0 - ((L : Int) - 52)).toNat = 52 - L from by omega, show ((L : Int) - 52 - 0).toNat = 0 from by omega, cut_zero, show ((L : Int) - 52 - -1074).toNat = L + 1022 from by omega, Nat.shiftLeft_eq]
    have hm0 : 4503599627370496 ≤ w * 2 ^ (52 - L) := by
      have := Nat.mul_le_mul_right (2 ^ (52 - L)) hb.1
      rw [← Nat.pow_add, show L + (52 - L) = 52 from by omega] at this
      simpa using this
    have hm1 : w * 2 ^ (52 - L) < 9007199254740992 := by
      have := Nat.mul_lt_mul_of_pos_right hb.2 (Nat.two_pow_pos (52 - L))
      rw [← Nat.pow_add, show L + 1 + (52 - L) = 53 from by omega] at this
      simpa using this
    have hM := M_form (L + 1022) _ hm0 hm1
    rw [Nat.mul_assoc, ← Nat.pow_add, show 52 - L + (L + 1022) = 1074 from by omega] at hM
    have hlt : (L + 1022) * 4503599627370496 + w * 2 ^ (52 - L) < 9218868437227405312 := by omega
    rw [Nat.min_eq_left (Nat.le_of_lt hlt)]
    refine ⟨_, rfl, ?_, ?_, ?_, fun _ => ?_⟩
    · show (L + 1022) * 4503599627370496 + w * 2 ^ (52 - L) < _; exact hlt
    · show 0 < (L + 1022) * 4503599627370496 + w * 2 ^ (52 - L); omega
    · show M ((L + 1022) * 4503599627370496 + w * 2 ^ (52 - L) - 1) < _
      have := M_lt ((L + 1022) * 4503599627370496 + w * 2 ^ (52 - L) - 1) ((L + 1022) * 4503599627370496 + w * 2 ^ (52 - L)) (by omega)
      rw [hM] at this
      exact this
    · show M ((L + 1022) * 4503599627370496 + w * 2 ^ (52 - L)) = _
      exact hM
  · obtain ⟨d, hd⟩ : ∃ d, d = L - 52 := ⟨_, rfl⟩
    have hd0 : 0 < d := by omega
    have hd1 : d ≤ 11 := by omega
    have el : max (0 + (L : Int) - ((52 : Nat) : Int)) (-1074) = (d : Int) := by omega
    rw [el, show (0 - (d : Int)).toNat = 0 from by omega, show ((d : Int) - 0).toNat = d from by omega, show ((d : Int) - -1074).toNat = d + 1074 from by omega, Nat.shiftLeft_zero]
    have hp : 0 < 2 ^ d := Nat.two_pow_pos d
    obtain ⟨low, hlow⟩ : ∃ low, low = w / 2 ^ d := ⟨_, rfl⟩
    obtain ⟨rest, hrest⟩ : ∃ rest, rest = w % 2 ^ d := ⟨_, rfl⟩
    have hw : 2 ^ d * low + rest = w := by rw [hlow, hrest]; exact Nat.div_add_mod w (2 ^ d)
    have hl0 : 4503599627370496 ≤ low := by
      rw [hlow, Nat.le_div_iff_mul_le hp]
      have := hb.1
      rw [show L = 52 + d from by omega, Nat.pow_add] at this
      simpa using this
    have hl1 : low < 9007199254740992 := by
      rw [hlow, Nat.div_lt_iff_lt_mul hp]
      have := hb.2
      rw [show L + 1 = 53 + d from by omega, Nat.pow_add] at this
      simpa using this
    have hcut : ∃ more, more ≤ 1 ∧ Toward.even.cut false w d = low + more ∧ (more = 1 → 0 < rest) := by
      unfold Toward.cut
      have hmin : min d (w.log2 + 2) = d := by omega
      simp only [hmin, Nat.shiftLeft_eq, Nat.one_mul, ← hlow, ← hrest]
      refine ⟨_, Bool.toNat_le _, rfl, fun h => ?_⟩
      rcases Nat.eq_zero_or_pos rest with hz | hz
      · exfalso
        rw [hz] at h
        have h1 : ¬ (2 ^ d < 2 * 0) := by omega
        have h2 : (2 ^ d == 2 * 0) = false := by rw [beq_eq_false_iff_ne]; omega
        rw [decide_eq_false h1, h2] at h
        simp at h
      · exact hz
    obtain ⟨more, hm1, hcutE, hmr⟩ := hcut
    rw [hcutE]
    have hlt : (d + 1074) * 4503599627370496 + (low + more) < 9218868437227405312 := by omega
    rw [Nat.min_eq_left (Nat.le_of_lt hlt)]
    have hU : ∀ z, z * 2 ^ (d + 1074) = z * 2 ^ d * U := fun z => by unfold U; rw [Nat.pow_add, Nat.mul_assoc]
    refine ⟨_, rfl, ?_, ?_, ?_, fun hw53 => ?_⟩
    · show (d + 1074) * 4503599627370496 + (low + more) < _; exact hlt
    · show 0 < (d + 1074) * 4503599627370496 + (low + more); omega
    · show M ((d + 1074) * 4503599627370496 + (low + more) - 1) < _
      by_cases hk : low + more = 4503599627370496
      · have h3 := M_lt ((d + 1074) * 4503599627370496 + (low + more) - 1) ((d + 1074) * 4503599627370496 + low) (by omega)
        rw [M_form _ low hl0 hl1, hU] at h3
        refine Nat.lt_of_lt_of_le h3 (Nat.mul_le_mul_right U ?_)
        rw [Nat.mul_comm]; omega
      · have h3 := M_form (d + 1074) (low + more - 1) (by omega) (by omega)
        rw [show (d + 1074) * 4503599627370496 + (low + more) - 1 = (d + 1074) * 4503599627370496 + (low + more - 1) from by omega, h3, hU]
        refine Nat.mul_lt_mul_of_pos_right ?_ U_pos
        rw [Nat.mul_comm]
        rcases Nat.eq_zero_or_pos more with hz | hz
        · subst hz
          have : 2 ^ d * (low + 0 - 1) < 2 ^ d * low := Nat.mul_lt_mul_of_pos_left (by omega) hp
          omega
        · obtain rfl : more = 1 := by omega
          have := hmr rfl
          rw [show low + 1 - 1 = low from by omega]
          omega
    · exfalso
      have h3 : 2 ^ 53 ≤ 2 ^ L := Nat.pow_le_pow_right (by decide) (by omega)
      have e : (2 : Nat) ^ 53 = 9007199254740992 := by decide
      have := hb.1
      omega

end Go.Proofs.YtdcpacdfbbdnlaaDoor.R
