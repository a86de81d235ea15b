/-
  Layer 2: what the document's own Whole comes to.
-/
import Derived.Test.YtajpgjbdemadgaaDoorRSubPlain
namespace Go.Proofs.YtajpgjbdemadgaaDoor
open Go.RowKit
set_option linter.unusedVariables false
set_option linter.unusedSimpArgs false
set_option exponentiation.threshold 2000

theorem pos_word {x : Nat} (h : x < 9218868437227405312) : R.rung x = x ∧ R.sgn x = false ∧ R.nan x = false ∧ R.v x = x := by
  have hr : R.rung x = x := by unfold R.rung; omega
  have hs : R.sgn x = false := by rw [R.sgn_eq x (by omega)]; exact decide_eq_false (by omega)
  refine ⟨hr, hs, ?_, ?_⟩
  · unfold R.nan; rw [hr]; exact decide_eq_false (by omega)
  · unfold R.v; rw [hs, if_neg (by decide), hr]

theorem unit_lt (i : Nat) (h : i ≤ 64) : R.unit i < 9218868437227405312 := by unfold R.unit; omega

theorem geq_of {a b : Nat} (ha : a < 9218868437227405312) (hb : b < 9218868437227405312) : (FloatKind.f64.format.order a b == some Ordering.gt || FloatKind.f64.format.order a b == some Ordering.eq) = decide (b ≤ a) := by
  obtain ⟨_, _, na, va⟩ := pos_word ha
  obtain ⟨_, _, nb, vb⟩ := pos_word hb
  rw [R.ord a b na nb, va, vb]
  rcases Nat.lt_trichotomy a b with h | h | h
  · rw [Int.compare_eq_lt.2 (by omega), decide_eq_false (by omega)]; rfl
  · rw [Int.compare_eq_eq.2 (by omega), decide_eq_true (by omega)]; rfl
  · rw [Int.compare_eq_gt.2 (by omega), decide_eq_true (by omega)]; rfl

set_option maxHeartbeats 1000000 in
theorem refWhole_mid (x most : Nat) (h0 : 4607182418800017408 ≤ x) (h1 : x < R.unit 64) (hmost : most < 18446744073709551616) (w : World) :
    Calls Tryd.prog 26 #[.float .f64 x, .int .u64 (most : Int)] w fun e w' => e = .returned (.int .u64 ((min (R.flo x) most : Nat) : Int)) ∧ w' = w := by
  have hx := unit_lt 64 (by decide)
  have g1 := geq_of (a := x) (b := 4607182418800017408) (by omega) (by decide)
  rw [decide_eq_true h0] at g1
  go_enter Tryd.func26, Tryd.ntmps26
  go_wp2_with fail
  go_loop [0, 5, 6] (fun xv nv iv => ∃ (i y n : Nat), i ≤ 64 ∧ xv = .float .f64 y ∧ nv = .int .u64 (n : Int) ∧ iv = .int .i64 ((i : Int) - 1) ∧ y < R.unit i ∧ Hid (R.M x = n * R.U + R.M y)) (fun _ _ iv => (intOf iv + 1).toNat)
  case atStart => exact ⟨64, x, 0, Nat.le_refl _, rfl, rfl, rfl, h1, by simp [Hid]⟩
  case round =>
    obtain ⟨i, y, n, hi, rfl, rfl, rfl, hy, HM⟩ := hrel
    have hMx : R.M x < 18446744073709551616 * R.U := by
      have := R.M_lt x (R.unit 64) h1
      rw [R.unit_M, show (2 ^ 64 : Nat) = 18446744073709551616 from by decide] at this
      exact this
    rcases Nat.eq_zero_or_pos i with hz | hz
    · subst hz
      have hMy : R.M y < R.U := by
        have := R.M_lt y (R.unit 0) hy
        rw [R.unit_M] at this
        simpa using this
      have hf : R.flo x = n := by
        unfold R.flo
        rw [HM.out, Nat.mul_comm, Nat.mul_add_div R.U_pos, Nat.div_eq_of_lt hMy, Nat.add_zero]
      have HF := Lib.hid hf
      have e1 : ((0 : Nat) : Int) - 1 = -1 := by omega
      rw [e1]
      clear hMx hMy HM hf hy
      by_cases hm : (most : Int) < (n : Int)
      · go_wp2_with fail
        go_ret
        exact ⟨by rw [HF.out, show ((min n most : Nat) : Int) = (most : Int) from by omega]; rfl, rfl⟩
      · go_wp2_with fail
        go_ret
        exact ⟨by rw [HF.out, show ((min n most : Nat) : Int) = (n : Int) from by omega]; rfl, rfl⟩
    · obtain ⟨k, rfl⟩ : ∃ k, i = k + 1 := ⟨i - 1, by omega⟩
      have hk : k < 64 := by omega
      have e1 : ((k + 1 : Nat) : Int) - 1 = (k : Int) := by omega
      rw [e1]
      have hk0 : (0 : Int) ≤ (k : Int) := by omega
      have hP64 : 2 ^ k < 18446744073709551616 := by
        have : 2 ^ k < 2 ^ 64 := Nat.pow_lt_pow_right (by decide) hk
        simpa using this
      have hfl := R.unit_eq k hk
      have hcast : (2 : Int) ^ k = ((2 ^ k : Nat) : Int) := by simp
      have hw : IntKind.u64.wrap ((2 : Int) ^ k) = ((2 ^ k : Nat) : Int) := by
        rw [hcast]
        generalize 2 ^ k = P at hP64 ⊢
        rw [IntKind.wrap_u64]; omega
      have hmul := fun w : World => run_float_arith (P := Tryd.prog) w .mul 22 .f64 4611686018427387904 (R.unit k) (R.unit (k + 1)) (R.unit_two k hk)
      have hu1 := unit_lt k (by omega)
      have hu2 := unit_lt (k + 1) (by omega)
      have g2 := geq_of (a := y) (b := R.unit (k + 1)) (by omega) hu2
      rw [decide_eq_false (by omega)] at g2
      have g3 := geq_of (a := y) (b := R.unit k) (by omega) hu1
      by_cases hc : R.unit k ≤ y
      · rw [decide_eq_true hc] at g3
        obtain ⟨r, hr, hrl, hrM⟩ := R.sub_unit y k hk hc hy
        have hsub := fun w : World => run_float_arith (P := Tryd.prog) w .sub 22 .f64 y (R.unit k) r hr
        have hMn : R.M x = (n + 2 ^ k) * R.U + R.M r := by rw [HM.out, ← hrM, Nat.add_mul]; omega
        have hn : n + 2 ^ k < 18446744073709551616 := by
          rcases Nat.lt_or_ge (n + 2 ^ k) 18446744073709551616 with h | h
          · exact h
          · exfalso
            have := Nat.mul_le_mul_right R.U h
            omega
        have hry : r < R.unit k := by
          rcases Nat.lt_or_ge r (R.unit k) with h | h
          · exact h
          · exfalso
            have h3 := R.M_le _ _ h
            have h4 := R.M_lt _ _ hy
            rw [R.unit_M] at h3 h4
            rw [Nat.pow_succ, Nat.mul_right_comm, Nat.mul_comm _ 2] at h4
            omega
        have HN := Lib.hid hMn
        have HR := Lib.hid hry
        generalize hu : R.unit k = u at *
        have HU := Lib.hid hu
        clear hu
        generalize R.unit (k + 1) = u2 at *
        generalize 2 ^ k = P at *
        clear HM hMx hMn hr hrM hc hcast hry hu1 hu2
        have hn' : (n : Int) + (P : Int) ≤ 18446744073709551615 := by omega
        go_wp2_with fail
        go_round
        case rel => exact ⟨k, r, n + P, by omega, rfl, by go_num, by go_num, by rw [HU.out]; exact HR.out, HN.out⟩
        case measure => simp [intOf]
      · rw [decide_eq_false hc] at g3
        have HY : Hid (y < R.unit k) := by show y < R.unit k; omega
        generalize hu : R.unit k = u at *
        have HU := Lib.hid hu
        clear hu
        generalize R.unit (k + 1) = u2 at *
        generalize 2 ^ k = P at *
        clear hMx hc hcast hu1 hu2
        go_wp2_with fail
        go_round
        case rel => exact ⟨k, y, n, by omega, rfl, rfl, by go_num, by rw [HU.out]; exact HY.out, HM⟩
        case measure => simp [intOf]

theorem refWhole_any (x most : Nat) (hx : x < 18446744073709551616) (hmost : most < 18446744073709551616) (w : World) :
    Calls Tryd.prog 26 #[.float .f64 x, .int .u64 (most : Int)] w fun e w' => e = .returned (.int .u64 ((wholeV x most : Nat) : Int)) ∧ w' = w := by
  have small : (FloatKind.f64.format.order x 4607182418800017408 == some Ordering.gt || FloatKind.f64.format.order x 4607182418800017408 == some Ordering.eq) = false → wholeV x most = 0 →
      Calls Tryd.prog 26 #[.float .f64 x, .int .u64 (most : Int)] w fun e w' => e = .returned (.int .u64 ((wholeV x most : Nat) : Int)) ∧ w' = w := fun g hz => by
    rw [hz]
    clear hz
    go_enter Tryd.func26, Tryd.ntmps26
    go_wp2_with fail
    go_ret
    exact ⟨rfl, rfl⟩
  cases hn : R.nan x with
  | true => exact small (by rw [R.ord_nl x _ hn]; rfl) (by unfold wholeV; rw [if_pos hn])
  | false =>
    by_cases h1 : R.v x < 4607182418800017408
    · exact small (by rw [R.ord x _ hn nan_one, v_one, Int.compare_eq_lt.2 h1]; rfl) (by unfold wholeV; rw [if_neg (by simp [hn]), if_pos h1])
    · have hs : R.sgn x = false := by
        cases hs : R.sgn x with
        | false => rfl
        | true => unfold R.v at h1; rw [hs, if_pos rfl] at h1; omega
      have hv : R.v x = (R.rung x : Int) := by unfold R.v; rw [hs, if_neg (by decide)]
      have hxr : R.rung x = x := by
        rw [R.sgn_eq x hx] at hs
        have := of_decide_eq_false hs
        unfold R.rung; omega
      rw [hxr] at hv
      have hxn := R.nan_false hn
      rw [hxr] at hxn
      have hu : R.unit 64 = 4895412794951729152 := by decide
      by_cases h2 : x < R.unit 64
      · have := refWhole_mid x most (by omega) h2 hmost w
        unfold wholeV
        rw [if_neg (by simp [hn]), if_neg h1, if_neg (by omega), hxr]
        exact this
      · have hW : wholeV x most = most := by unfold wholeV; rw [if_neg (by simp [hn]), if_neg h1, if_pos (by omega)]
        rw [hW]
        have g1 : (FloatKind.f64.format.order x 4607182418800017408 == some Ordering.gt || FloatKind.f64.format.order x 4607182418800017408 == some Ordering.eq) = true := by
          rw [R.ord x _ hn nan_one, v_one, hv]
          rcases Int.lt_or_eq_of_le (show (4607182418800017408 : Int) ≤ x by omega) with h | h
          · rw [Int.compare_eq_gt.2 h]; rfl
          · rw [Int.compare_eq_eq.2 h.symm]; rfl
        have g2 : (FloatKind.f64.format.order x 4895412794951729152 == some Ordering.gt || FloatKind.f64.format.order x 4895412794951729152 == some Ordering.eq) = true := by
          rw [R.ord x _ hn nan_bey, v_bey, hv]
          rcases Int.lt_or_eq_of_le (show (4895412794951729152 : Int) ≤ x by omega) with h | h
          · rw [Int.compare_eq_gt.2 h]; rfl
          · rw [Int.compare_eq_eq.2 h.symm]; rfl
        have hfl : floatOfInt .f64 9223372036854775808 = 4890909195324358656 := by decide +kernel
        have hmul := fun w : World => run_float_arith (P := Tryd.prog) w .mul 22 .f64 4611686018427387904 4890909195324358656 4895412794951729152 (by kernel_rfl)
        clear h1 h2 hv hxr hxn hs hW small
        go_enter Tryd.func26, Tryd.ntmps26
        go_wp2_with fail
        refine wp_loop_rounds 1 ?_
        rw [rounds_succ]
        go_wp2_with fail
        go_ret
        exact ⟨rfl, rfl⟩

end Go.Proofs.YtajpgjbdemadgaaDoor
