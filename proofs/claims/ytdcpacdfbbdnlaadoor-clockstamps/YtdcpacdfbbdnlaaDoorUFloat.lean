/-
  Plain mathematics for layer 14: numbers that are not below 0, their sums and quotients; twice a whole number. No condition.
-/
import Derived.Test.YtdcpacdfbbdnlaaDoorRQuo
import Derived.Test.YtdcpacdfbbdnlaaDoorRWholePlain
import Derived.Laws.Cover2
namespace Go.Proofs.YtdcpacdfbbdnlaaDoor.R
open Ieee
set_option linter.unusedVariables false
set_option maxRecDepth 20000
set_option linter.unusedSimpArgs false

/-- A word of a number that is not below 0, or +Inf. -/
def Pos (x : Nat) : Prop := x ≤ 9218868437227405312
theorem Pos.lt {x : Nat} (h : Pos x) : x < 18446744073709551616 := by unfold Pos at h; omega
theorem Pos.rung {x : Nat} (h : Pos x) : R.rung x = x := by unfold Pos at h; unfold R.rung; omega
theorem Pos.sgn {x : Nat} (h : Pos x) : R.sgn x = false := by unfold Pos at h; unfold R.sgn; rw [beq_eq_false_iff_ne]; omega
theorem Pos.nan {x : Nat} (h : Pos x) : R.nan x = false := by unfold R.nan; rw [h.rung, decide_eq_false_iff_not]; unfold Pos at h; omega
theorem Pos.kind {x : Nat} (h : Pos x) : 4 ≤ R.kind x := by
  have hv : R.v x = (x : Int) := by unfold R.v; rw [h.sgn, h.rung]; rfl
  unfold R.kind
  rw [h.nan, hv, h.sgn]
  simp only [Bool.false_eq_true, if_false]
  repeat' split
  all_goals omega
theorem Pos.same {x : Nat} : (R.cmpI (R.rank x) (R.rank x) == 0) = true := by rw [cmpI_self]; rfl

/-- A datum that is not below 0. -/
def Up : Datum → Prop
  | .number s _ _ => s = false
  | .infinity s => s = false
  | .nan _ _ => False
theorem read_up {x : Nat} (h : Pos x) : Up (double.read x) := by
  rw [read_of, h.sgn, h.rung]
  unfold Pos at h
  repeat' split
  · rfl
  · rfl
  · rfl
  · omega
theorem write_up {d : Datum} (h : Up d) : Pos (double.write d) := by
  have e3 : double.infRung = 9218868437227405312 := by decide
  cases d with
  | nan => exact h.elim
  | infinity s =>
    cases (h : s = false)
    simp only [Format.write, e3, Format.word]
    exact Nat.le_refl _
  | number s m p =>
    cases (h : s = false)
    obtain ⟨r, hr, hw⟩ := nearest_word false m p
    simp only [Format.write, hw, Format.word]
    exact hr
theorem sum_up {d e : Datum} (hd : Up d) (he : Up e) : ∃ f, Datum.sum d e = some f ∧ Up f := by
  cases d with
  | nan => exact hd.elim
  | infinity s =>
    cases (hd : s = false)
    cases e with
    | nan => exact he.elim
    | infinity t => cases (he : t = false); exact ⟨_, rfl, rfl⟩
    | number t n j => exact ⟨_, rfl, rfl⟩
  | number s m i =>
    cases (hd : s = false)
    cases e with
    | nan => exact he.elim
    | infinity t => cases (he : t = false); exact ⟨_, rfl, rfl⟩
    | number t n j =>
      cases (he : t = false)
      refine ⟨_, rfl, ?_⟩
      show (if _ then _ else _) = false
      split
      · rfl
      · have h1 : ∀ a b, 0 ≤ signed false a b := fun a b => by unfold signed; rw [if_neg (by decide)]; exact Int.natCast_nonneg _
        have h2 := h1 m (i - min i j).toNat
        have h3 := h1 n (j - min i j).toNat
        rw [decide_eq_false_iff_not]
        omega
theorem quot_up {d e : Datum} (hd : Up d) (he : Up e) (h : Datum.quotient 54 d e ≠ none) : ∃ f, Datum.quotient 54 d e = some f ∧ Up f := by
  cases d with
  | nan => exact hd.elim
  | infinity s =>
    cases (hd : s = false)
    cases e with
    | nan => exact he.elim
    | infinity t => exact absurd rfl h
    | number t n j => cases (he : t = false); exact ⟨_, rfl, rfl⟩
  | number s m i =>
    cases (hd : s = false)
    cases e with
    | nan => exact he.elim
    | infinity t => cases (he : t = false); exact ⟨_, rfl, rfl⟩
    | number t n j =>
      cases (he : t = false)
      simp only [Datum.quotient] at h ⊢
      by_cases hn : n = 0
      · rw [if_pos hn] at h ⊢
        by_cases hm : m = 0
        · rw [if_pos hm] at h; exact absurd rfl h
        · rw [if_neg hm]; exact ⟨_, rfl, rfl⟩
      · rw [if_neg hn]; exact ⟨_, rfl, rfl⟩
theorem add_pos {x y : Nat} (hx : Pos x) (hy : Pos y) : ∃ r, double.add x y = some r ∧ Pos r := by
  obtain ⟨f, hf, hu⟩ := sum_up (read_up hx) (read_up hy)
  exact ⟨double.write f, by unfold Format.add; rw [hf]; rfl, write_up hu⟩
theorem qv_pos {x y : Nat} (hx : Pos x) (hy : Pos y) : Pos (qv x y) := by
  unfold qv
  rw [div_eq]
  by_cases h : Datum.quotient 54 (double.read x) (double.read y) = none
  · rw [h]; exact Nat.zero_le _
  · obtain ⟨f, hf, hu⟩ := quot_up (read_up hx) (read_up hy) h
    rw [hf]; exact write_up hu

/-- float64(n). -/
theorem whole_pos (n : Nat) : Pos (floatOfInt .f64 (n : Int)) := by
  show Pos (double.nearest (decide ((n : Int) < 0)) ((n : Int).natAbs) 0)
  rw [decide_eq_false (by omega), Int.natAbs_natCast]
  obtain ⟨r, hr, hw⟩ := nearest_word false n 0
  rw [hw]
  exact hr
theorem near_nat (n : Nat) : floatOfInt .f64 (n : Int) = double.nearest false n 0 := by
  show double.nearest (decide ((n : Int) < 0)) ((n : Int).natAbs) 0 = _
  rw [decide_eq_false (by omega), Int.natAbs_natCast]
/-- A quotient by a whole number that is not 0. -/
theorem div_whole {x n : Nat} (hx : Pos x) (h0 : 0 < n) (hn : n < 18446744073709551616) : ∃ r, double.div x (floatOfInt .f64 (n : Int)) = some r ∧ Pos r := by
  obtain ⟨r, hr, h1, h2, _, _⟩ := near_low n h0 hn
  rw [near_nat, hr]
  have hp : Pos r := Nat.le_of_lt h1
  have hm : ∃ m e, double.read r = .number false m e ∧ 0 < m := by
    rw [read_of, hp.sgn, hp.rung]
    by_cases h3 : r < 4503599627370496
    · rw [if_pos h3]; exact ⟨_, _, rfl, h2⟩
    · rw [if_neg h3, if_pos h1]; exact ⟨_, _, rfl, by omega⟩
  obtain ⟨m, e, hre, hm0⟩ := hm
  have hne : Datum.quotient 54 (double.read x) (double.read r) ≠ none := by
    rw [hre]
    have hu := read_up hx
    cases hd : double.read x with
    | nan => rw [hd] at hu; exact hu.elim
    | infinity s => exact fun hh => by cases hh
    | number s k i =>
      intro hh
      simp only [Datum.quotient] at hh
      rw [if_neg (by omega)] at hh
      cases hh
  obtain ⟨f, hf, hu⟩ := quot_up (read_up hx) (read_up hp) hne
  exact ⟨double.write f, by rw [div_eq, hf]; rfl, write_up hu⟩

set_option exponentiation.threshold 2000
/-- The word of 2^i. -/
def unitU (i : Nat) : Nat := (1023 + i) * 4503599627370496
theorem unitU_M (i : Nat) : M (unitU i) = 2 ^ i * U := by
  unfold unitU U
  rw [show (1023 + i) * 4503599627370496 = (1022 + i) * 4503599627370496 + 4503599627370496 from by omega, M_form _ _ (by decide) (by decide), show (4503599627370496 : Nat) = 2 ^ 52 from by decide, ← Nat.pow_add, ← Nat.pow_add]
  congr 1; omega
/-- Twice a whole number. -/
theorem two_whole (w : Nat) (h : w ≤ 500000) : double.mul 4611686018427387904 (floatOfInt .f64 (w : Int)) = some (floatOfInt .f64 ((2 * w : Nat) : Int)) := by
  by_cases h0 : w = 0
  · subst h0; decide +kernel
  · obtain ⟨r, hr, h1, h2, _, hM⟩ := near_low w (by omega) (by omega)
    obtain ⟨q, hq, h4, _, _, hN⟩ := near_low (2 * w) (by omega) (by omega)
    have hM := hM (by omega)
    have hN := hN (by omega)
    rw [near_nat, near_nat, hr, hq]
    have hp : Pos r := Nat.le_of_lt h1
    have hU := U_pos
    have lo : unitU 0 ≤ r := by
      rcases Nat.lt_or_ge r (unitU 0) with hl | hl
      · have := M_lt _ _ hl
        rw [unitU_M, hM] at this
        have := Nat.lt_of_mul_lt_mul_right this
        omega
      · exact hl
    have hi : r < unitU 20 := by
      rcases Nat.lt_or_ge r (unitU 20) with hl | hl
      · exact hl
      · have := M_le _ _ hl
        rw [unitU_M, hM] at this
        have := Nat.le_of_mul_le_mul_right this hU
        omega
    unfold unitU at lo hi
    obtain ⟨k, hk⟩ : ∃ k, k = r / 4503599627370496 - 1 := ⟨_, rfl⟩
    obtain ⟨m, hm⟩ : ∃ m, m = 4503599627370496 + r % 4503599627370496 := ⟨_, rfl⟩
    have hm0 : 4503599627370496 ≤ m := by omega
    have hm1 : m < 9007199254740992 := by omega
    have hrk : r = k * 4503599627370496 + m := by omega
    have hrd : double.read r = .number false m (-1074 + (k : Int)) := by
      rw [read_of, hp.sgn, hp.rung, if_neg (by omega), if_pos h1, ← hk, ← hm]
    have h2d : double.read 4611686018427387904 = .number false 4503599627370496 (-51) := by decide +kernel
    unfold Format.mul
    rw [hrd, h2d]
    show some (double.nearest false (4503599627370496 * m) (-51 + (-1074 + (k : Int)))) = some q
    have hn := nearest_norm false m (-51 + (-1074 + (k : Int))) 52 hm0 hm1 (by omega)
    have e52 : (2 : Nat) ^ 52 = 4503599627370496 := by decide
    rw [e52, Nat.mul_comm m] at hn
    have e1 : (-51 + (-1074 + (k : Int)) + ((52 : Nat) : Int) + 1074).toNat = k + 1 := by omega
    have hle : (k + 1) * 4503599627370496 + m ≤ 9218868437227405312 := by
      clear hn e1 hM hN h2d hrd hU hr hq e52 hk hm lo h h0 h1 h2 h4 hp hm0
      rw [Nat.add_mul]
      omega
    rw [e1, Nat.min_eq_left hle] at hn
    have hw : double.word false ((k + 1) * 4503599627370496 + m) = (k + 1) * 4503599627370496 + m := rfl
    rw [hn, hw]
    refine congrArg some (M_inj _ _ ?_)
    rw [M_form _ _ hm0 hm1, hN, Nat.mul_assoc, ← hM, hrk, M_form _ _ hm0 hm1, Nat.pow_succ]
    rw [Nat.mul_comm 2, Nat.mul_assoc]

end Go.Proofs.YtdcpacdfbbdnlaaDoor.R
