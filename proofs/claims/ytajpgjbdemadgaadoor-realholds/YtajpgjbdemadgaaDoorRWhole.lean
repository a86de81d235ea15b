/-
  Layer 2: what real.Whole comes to.
-/
import Derived.Test.YtajpgjbdemadgaaDoorRWholePlain
namespace Go.Proofs.YtajpgjbdemadgaaDoor
open Go.RowKit
set_option linter.unusedVariables false
set_option linter.unusedSimpArgs false

/-- What stands ahead of a number's point, at most 'most'. -/
def wholeV (x most : Nat) : Nat := if R.nan x = true then 0 else if R.v x < 4607182418800017408 then 0 else if 4895412794951729152 ≤ R.v x then most else min (R.flo (R.rung x)) most

theorem v_one : R.v 4607182418800017408 = 4607182418800017408 := by decide +kernel
theorem v_bey : R.v 4895412794951729152 = 4895412794951729152 := by decide +kernel
theorem nan_one : R.nan 4607182418800017408 = false := by decide +kernel
theorem nan_bey : R.nan 4895412794951729152 = false := by decide +kernel

theorem whole_any (x most : Nat) (hx : x < 18446744073709551616) (w : World) : Calls Tryd.prog 25 #[.float .f64 x, .int .u64 (most : Int)] w fun e w' => e = .returned (.int .u64 ((wholeV x most : Nat) : Int)) ∧ w' = w := by
  unfold wholeV
  have I := Lib.hid (isNaN_any x)
  cases hn : R.nan x with
  | true =>
    rw [hn] at I
    rw [if_pos rfl]
    go_enter Tryd.func25, Tryd.ntmps25
    go_wp2_with fail
    refine (I.out _).mono ?_
    rintro e w' ⟨rfl, rfl⟩
    go_wp2_with fail
    go_ret
    exact ⟨rfl, rfl⟩
  | false =>
    rw [hn] at I
    rw [if_neg (by decide)]
    have o1 := R.ord x 4607182418800017408 hn nan_one
    rw [v_one] at o1
    by_cases h1 : R.v x < 4607182418800017408
    · rw [if_pos h1]
      rw [Int.compare_eq_lt.2 h1] at o1
      clear h1
      go_enter Tryd.func25, Tryd.ntmps25
      go_wp2_with fail
      refine (I.out _).mono ?_
      rintro e w' ⟨rfl, rfl⟩
      go_wp2_with fail
      go_ret
      exact ⟨rfl, rfl⟩
    · rw [if_neg h1]
      have o1' : (FloatKind.f64.format.order x 4607182418800017408 == some Ordering.lt) = false := by
        rw [o1, beq_eq_false_iff_ne]; intro e; exact h1 (Int.compare_eq_lt.1 (Option.some.inj e))
      clear o1
      have o2 := R.ord x 4895412794951729152 hn nan_bey
      rw [v_bey] at o2
      by_cases h2 : 4895412794951729152 ≤ R.v x
      · rw [if_pos h2]
        have o2' : (FloatKind.f64.format.order x 4895412794951729152 == some Ordering.gt || FloatKind.f64.format.order x 4895412794951729152 == some Ordering.eq) = true := by
          rw [o2]
          rcases Int.lt_or_eq_of_le h2 with h | h
          · rw [Int.compare_eq_gt.2 h]; rfl
          · rw [Int.compare_eq_eq.2 h.symm]; rfl
        clear o2 h1 h2
        go_enter Tryd.func25, Tryd.ntmps25
        go_wp2_with fail
        refine (I.out _).mono ?_
        rintro e w' ⟨rfl, rfl⟩
        go_wp2_with fail
        go_ret
        exact ⟨rfl, rfl⟩
      · rw [if_neg h2]
        rw [Int.compare_eq_lt.2 (by omega)] at o2
        have hs : R.sgn x = false := by
          cases hs : R.sgn x with
          | false => rfl
          | true => unfold R.v at h1; rw [hs, if_pos rfl] at h1; omega
        have hv : R.v x = (R.rung x : Int) := by unfold R.v; rw [hs, if_neg (by decide)]
        have hcv := fun w : World => run_convert_float_int (P := Tryd.prog) w 22 33 .f64 .u64 x _ (by kernel_rfl) Tryd.underlying33 (R.toInt_flo x hs (by omega) (by omega))
        generalize R.flo (R.rung x) = f at *
        clear h1 h2 hv hs
        by_cases hm : ¬ (most : Int) < (f : Int)
        · rw [show ((min f most : Nat) : Int) = (f : Int) from by omega]
          have hm2 : min (f : Int) (most : Int) = f := by omega
          go_enter Tryd.func25, Tryd.ntmps25
          go_wp2_with fail
          refine (I.out _).mono ?_
          rintro e w' ⟨rfl, rfl⟩
          go_wp2_with fail
          go_ret
          exact ⟨rfl, rfl⟩
        · replace hm : (most : Int) < (f : Int) := by omega
          rw [show ((min f most : Nat) : Int) = (most : Int) from by omega]
          have hm2 : min (f : Int) (most : Int) = most := by omega
          go_enter Tryd.func25, Tryd.ntmps25
          go_wp2_with fail
          refine (I.out _).mono ?_
          rintro e w' ⟨rfl, rfl⟩
          go_wp2_with fail
          go_ret
          exact ⟨rfl, rfl⟩

namespace R
/-- It rises with the number. -/
theorem whole_rises (a b most : Nat) (h : rank a ≤ rank b) : wholeV a most ≤ wholeV b most := by
  unfold wholeV
  cases na : nan a with
  | true => rw [if_pos rfl]; exact Nat.zero_le _
  | false =>
    cases nb : nan b with
    | true => exfalso; rw [rank_nan nb] at h; have := rank_num na; omega
    | false =>
      rw [if_neg (show ¬ (false = true) by decide), if_neg (show ¬ (false = true) by decide)]
      have hv : v a ≤ v b := by
        unfold rank at h; rw [if_neg (show ¬ nan a = true by simp [na]), if_neg (show ¬ nan b = true by simp [nb])] at h
        unfold v
        cases sa : sgn a <;> cases sb : sgn b <;> simp [sa, sb] at h ⊢ <;> omega
      by_cases h1 : v a < 4607182418800017408
      · rw [if_pos h1]; exact Nat.zero_le _
      · rw [if_neg h1, if_neg (show ¬ v b < 4607182418800017408 by omega)]
        by_cases h2 : 4895412794951729152 ≤ v a
        · rw [if_pos h2, if_pos (show 4895412794951729152 ≤ v b by omega)]; exact Nat.le_refl _
        · rw [if_neg h2]
          split
          · exact Nat.min_le_right _ _
          · have hr : rung a ≤ rung b := by
              unfold v at hv h1
              cases sa : sgn a <;> cases sb : sgn b <;> simp [sa, sb] at hv h1 <;> omega
            have := flo_le _ _ hr
            omega
theorem whole_most (a most : Nat) : wholeV a most ≤ most := by
  unfold wholeV; repeat' split
  all_goals omega
end R

end Go.Proofs.YtajpgjbdemadgaaDoor
