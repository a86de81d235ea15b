/-
  Plain mathematics for layer 2: a power of two taken off a number of its own binade leaves just what is left. No condition.
-/
import Derived.Test.YtajpgjbdemadgaaDoorRWhole
namespace Go.Proofs.YtajpgjbdemadgaaDoor.R
open Ieee
set_option linter.unusedVariables false
set_option linter.unusedSimpArgs false
set_option exponentiation.threshold 2000

/-- The word of a number of at most 53 digits, at a place that is neither too low nor too high. -/
theorem near_exact (m : Nat) (p : Int) (h0 : 0 < m) (h1 : m < 9007199254740992) (hp : -1000 ≤ p) (hp2 : p ≤ 800) : ∃ r, double.nearest false m p = r ∧ r < 9218868437227405312 ∧ M r = m * 2 ^ (p + 1074).toNat := by
  have e2 : double.binade = 4503599627370496 := by decide
  have e3 : double.infRung = 9218868437227405312 := by decide
  have e4 : double.leastPlace = -1074 := by decide
  have e5 : double.fractionBits = 52 := rfl
  obtain ⟨L, hL⟩ : ∃ L, L = m.log2 := ⟨_, rfl⟩
  have hb := (Nat.log2_eq_iff (by omega : m ≠ 0)).1 hL.symm
  have hc : L ≤ 52 := by
    rcases Nat.lt_or_ge 52 L with h | h
    · exfalso
      have : 2 ^ 53 ≤ 2 ^ L := Nat.pow_le_pow_right (by decide) h
      have e : (2 : Nat) ^ 53 = 9007199254740992 := by decide
      omega
    · exact h
  obtain ⟨k, hk⟩ : ∃ k : Nat, (k : Int) = p + L - 52 + 1074 := ⟨(p + L - 52 + 1074).toNat, by omega⟩
  unfold Format.nearest
  rw [if_neg (by omega)]
  simp only [e2, e3, e4, e5, ← hL]
  have el : max (p + (L : Int) - ((52 : Nat) : Int)) (-1074) = p + L - 52 := by omega
  rw [el, show (p - (p + (L : Int) - 52)).toNat = 52 - L from by omega, show (p + (L : Int) - 52 - p).toNat = 0 from by omega, cut_zero, show (p + (L : Int) - 52 - -1074).toNat = k from by omega, Nat.shiftLeft_eq]
  have hm0 : 4503599627370496 ≤ m * 2 ^ (52 - L) := by
    have := Nat.mul_le_mul_right (2 ^ (52 - L)) hb.1
    rw [← Nat.pow_add, show L + (52 - L) = 52 from by omega] at this
    simpa using this
  have hm1 : m * 2 ^ (52 - L) < 9007199254740992 := by
    have := Nat.mul_lt_mul_of_pos_right hb.2 (Nat.two_pow_pos (52 - L))
    rw [← Nat.pow_add, show L + 1 + (52 - L) = 53 from by omega] at this
    simpa using this
  have hM := M_form k _ hm0 hm1
  rw [Nat.mul_assoc, ← Nat.pow_add, show 52 - L + k = (p + 1074).toNat from by omega] at hM
  have hlt : k * 4503599627370496 + m * 2 ^ (52 - L) < 9218868437227405312 := by omega
  rw [Nat.min_eq_left (Nat.le_of_lt hlt)]
  exact ⟨_, rfl, by show k * 4503599627370496 + m * 2 ^ (52 - L) < _; exact hlt, by show M (k * 4503599627370496 + m * 2 ^ (52 - L)) = _; exact hM⟩

/-- The word of 2^i. -/
def unit (i : Nat) : Nat := (1023 + i) * 4503599627370496
theorem unit_eq : ∀ i, i < 64 → floatOfInt .f64 ((2 ^ i : Nat) : Int) = unit i := by decide +kernel
theorem unit_two : ∀ i, i < 64 → double.mul 4611686018427387904 (unit i) = some (unit (i + 1)) := by decide +kernel
theorem unit_M (i : Nat) : M (unit i) = 2 ^ i * U := by
  unfold unit U
  rw [show (1023 + i) * 4503599627370496 = (1022 + i) * 4503599627370496 + 4503599627370496 from by omega, M_form _ _ (by decide) (by decide), show (4503599627370496 : Nat) = 2 ^ 52 from by decide, ← Nat.pow_add, ← Nat.pow_add]
  congr 1; omega

/-- A number from 2^i to what lies below 2^(i+1), less 2^i. -/
theorem sub_unit (x i : Nat) (hi : i < 64) (h0 : unit i ≤ x) (h1 : x < unit (i + 1)) : ∃ r, double.sub x (unit i) = some r ∧ r < 9218868437227405312 ∧ M r + 2 ^ i * U = M x := by
  have e1 : double.signWeight = 9223372036854775808 := by decide
  have e2 : double.binade = 4503599627370496 := by decide
  have e3 : double.infRung = 9218868437227405312 := by decide
  have e4 : double.leastPlace = -1074 := by decide
  unfold unit at h0 h1
  obtain ⟨m, hm⟩ : ∃ m, m = x - (1022 + i) * 4503599627370496 := ⟨_, rfl⟩
  have hx : x = (1022 + i) * 4503599627370496 + m := by omega
  have hm0 : 4503599627370496 ≤ m := by omega
  have hm1 : m < 9007199254740992 := by omega
  have rd : ∀ m', 4503599627370496 ≤ m' → m' < 9007199254740992 → double.read ((1022 + i) * 4503599627370496 + m') = .number false m' ((i : Int) - 52) := fun m' g0 g1 => by
    unfold Format.read
    simp only [e1, e2, e3, e4]
    rw [show ((1022 + i) * 4503599627370496 + m') % 9223372036854775808 = (1022 + i) * 4503599627370496 + m' from by omega, if_neg (by omega), if_pos (by omega)]
    rw [show ((1022 + i) * 4503599627370496 + m') / 9223372036854775808 % 2 = 0 from by omega, show 4503599627370496 + ((1022 + i) * 4503599627370496 + m') % 4503599627370496 = m' from by omega, show ((1022 + i) * 4503599627370496 + m') / 4503599627370496 - 1 = 1022 + i from by omega]
    congr 1
    omega
  have hu : double.read (unit i) = .number false 4503599627370496 ((i : Int) - 52) := by
    have := rd 4503599627370496 (by decide) (by decide)
    unfold unit; rw [show (1023 + i) * 4503599627370496 = (1022 + i) * 4503599627370496 + 4503599627370496 from by omega]; exact this
  have hMx : M x = m * 2 ^ (1022 + i) := by rw [hx]; exact M_form _ m hm0 hm1
  have hp2 : 2 ^ i * U = 4503599627370496 * 2 ^ (1022 + i) := by
    rw [show (4503599627370496 : Nat) = 2 ^ 52 from by decide]; unfold U; rw [← Nat.pow_add, ← Nat.pow_add]; congr 1; omega
  unfold Format.sub
  rw [hx, rd m hm0 hm1, hu]
  simp only [Datum.opposite, Datum.sum, Int.min_self, Int.sub_self, Int.toNat_zero, signed, Nat.shiftLeft_zero, Bool.not_false, if_true, Bool.false_eq_true, if_false]
  rw [show (m : Int) + -((4503599627370496 : Nat) : Int) = ((m - 4503599627370496 : Nat) : Int) from by omega, Int.natAbs_natCast]
  rcases Nat.eq_zero_or_pos (m - 4503599627370496) with hz | hz
  · rw [hz]
    have hw0 : double.write (Datum.number (if ((0 : Nat) : Int) = 0 then false && true else decide (((0 : Nat) : Int) < 0)) 0 ((i : Int) - 52)) = 0 := by simp [Format.write, Format.nearest, Format.word]
    refine ⟨0, by rw [Option.map_some, hw0], by decide, ?_⟩
    rw [← hx, hMx, hp2, M_zero, show m = 4503599627370496 from by omega, Nat.zero_add]
  · rw [if_neg (by omega), decide_eq_false (by omega)]
    obtain ⟨r, hr, hlt, hM⟩ := near_exact (m - 4503599627370496) ((i : Int) - 52) hz (by omega) (by omega) (by omega)
    refine ⟨r, by rw [Option.map_some, ← hr]; rfl, hlt, ?_⟩
    rw [hM, ← hx, hMx, hp2, show ((i : Int) - 52 + 1074).toNat = 1022 + i from by omega, ← Nat.add_mul, show m - 4503599627370496 + 4503599627370496 = m from by omega]

end Go.Proofs.YtajpgjbdemadgaaDoor.R
