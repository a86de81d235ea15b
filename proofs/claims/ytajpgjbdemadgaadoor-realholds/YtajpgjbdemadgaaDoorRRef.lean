/-
  Layer 2: what the reference's Kind and Cmp come to, at every two words of 64 bits; real.Same.
-/
import Derived.Test.YtajpgjbdemadgaaDoorRArith
namespace Go.Proofs.YtajpgjbdemadgaaDoor
open Go.RowKit
set_option linter.unusedVariables false
set_option linter.unusedSimpArgs false

theorem dbl_fin (x : Nat) (hn : R.nan x = false) (hv : R.v x ≠ 0) (hi : R.v x ≠ 9218868437227405312) (hj : R.v x ≠ -9218868437227405312) :
    ∃ r, floatBits .add .f64 x x = some r ∧ ∃ o, FloatKind.f64.format.order r x = some o ∧ o ≠ .eq := by
  have hr := R.nan_false hn
  have h0 : 0 < R.rung x := by unfold R.v at hv; split at hv <;> omega
  have h1 : R.rung x < 9218868437227405312 := by unfold R.v at hi hj; split at hi <;> simp_all <;> omega
  obtain ⟨r, ha, hs, hlt, hle⟩ := R.dbl x h0 h1
  refine ⟨r, ha, _, R.ord r x (by unfold R.nan; simp; omega) hn, ?_⟩
  intro he
  have := Int.compare_eq_eq.1 he
  unfold R.v at this
  rw [hs] at this
  split at this <;> omega

theorem order_beq {a b : Nat} {o : Ordering} (h : FloatKind.f64.format.order a b = some o) (hne : o ≠ .eq) : (FloatKind.f64.format.order a b == some Ordering.eq) = false := by
  rw [h]; cases o <;> first | rfl | exact absurd rfl hne

theorem word_of (x : Nat) (hx : x < 18446744073709551616) (s : Bool) (r : Nat) (hs : R.sgn x = s) (hr : R.rung x = r) : x = if s = true then 9223372036854775808 + r else r := by
  rw [R.sgn_eq x hx] at hs
  unfold R.rung at hr
  cases s
  · simp at hs; simp; omega
  · simp at hs; simp; omega

theorem refKind_any (x : Nat) (hx : x < 18446744073709551616) (w : World) : Calls Tryd.prog 11 #[.float .f64 x] w fun e w' => e = .returned (.int .i64 (R.kind x)) ∧ w' = w := by
  cases hn : R.nan x with
  | true =>
    have o := R.ord_nl x x hn
    have hk := R.kind_nan hn
    rw [hk]
    go_enter Tryd.func11, Tryd.ntmps11
    go_wp2
    go_ret
    exact ⟨rfl, rfl⟩
  | false =>
    have oe : FloatKind.f64.format.order x x = some .eq := by rw [R.ord x x hn hn, Int.compare_eq_eq.2 rfl]
    have o := R.ord x 0 hn R.nan_zero
    rw [R.v_zero] at o
    have hvr := R.v_range x hn
    have hrl := R.rung_lt x
    by_cases h1 : R.v x = -9218868437227405312
    · have hk : R.kind x = 1 := by unfold R.kind; rw [if_neg (by simp [hn]), if_pos h1]
      have hxe : x = 18442240474082181120 := by
        have hs : R.sgn x = true := by
          cases hs : R.sgn x with
          | true => rfl
          | false => unfold R.v at h1; rw [hs] at h1; simp at h1 <;> omega
        have hr : R.rung x = 9218868437227405312 := by unfold R.v at h1; rw [hs] at h1; simp at h1 <;> omega
        exact word_of x hx true _ hs hr
      subst hxe
      rw [hk]
      have ha : ∀ w, (binOp .add 22 (.float .f64 18442240474082181120) (.float .f64 18442240474082181120)).run Tryd.prog w = .ok (.float .f64 18442240474082181120) w := fun w => run_float_arith w .add 22 .f64 _ _ _ (by kernel_rfl)
      rw [Int.compare_eq_lt.2 (by omega)] at o
      clear hvr hrl h1 hk
      go_enter Tryd.func11, Tryd.ntmps11
      go_wp2
      go_ret
      exact ⟨rfl, rfl⟩
    by_cases h4 : R.v x = 9218868437227405312
    · have hk : R.kind x = 6 := by unfold R.kind; rw [if_neg (by simp [hn]), if_neg h1, if_neg (by omega), if_neg (by omega), if_pos h4]
      have hxe : x = 9218868437227405312 := by
        have hs : R.sgn x = false := by
          cases hs : R.sgn x with
          | false => rfl
          | true => unfold R.v at h4; rw [hs] at h4; simp at h4 <;> omega
        have hr : R.rung x = 9218868437227405312 := by unfold R.v at h4; rw [hs] at h4; simp at h4 <;> omega
        exact word_of x hx false _ hs hr
      subst hxe
      rw [hk]
      have ha : ∀ w, (binOp .add 22 (.float .f64 9218868437227405312) (.float .f64 9218868437227405312)).run Tryd.prog w = .ok (.float .f64 9218868437227405312) w := fun w => run_float_arith w .add 22 .f64 _ _ _ (by kernel_rfl)
      rw [Int.compare_eq_gt.2 (by omega)] at o
      clear hvr hrl h1 h4 hk
      go_enter Tryd.func11, Tryd.ntmps11
      go_wp2
      go_ret
      exact ⟨rfl, rfl⟩
    by_cases h3 : R.v x = 0
    · have hr : R.rung x = 0 := by unfold R.v at h3; split at h3 <;> omega
      cases hs : R.sgn x with
      | true =>
        have hk : R.kind x = 3 := by unfold R.kind; rw [if_neg (by simp [hn]), if_neg h1, if_neg (by omega), if_pos h3, if_pos hs]
        have hxe : x = 9223372036854775808 := word_of x hx true _ hs hr
        subst hxe
        rw [hk]
        have ha : ∀ w, (binOp .quo 22 (.float .f64 4607182418800017408) (.float .f64 9223372036854775808)).run Tryd.prog w = .ok (.float .f64 18442240474082181120) w := fun w => run_float_arith w .quo 22 .f64 _ _ _ (by kernel_rfl)
        have oq : FloatKind.f64.format.order 18442240474082181120 0 = some .lt := by kernel_rfl
        rw [Int.compare_eq_eq.2 h3] at o
        clear hvr hrl h1 h3 h4 hk hr hs
        go_enter Tryd.func11, Tryd.ntmps11
        go_wp2
        go_ret
        exact ⟨rfl, rfl⟩
      | false =>
        have hk : R.kind x = 4 := by unfold R.kind; rw [if_neg (by simp [hn]), if_neg h1, if_neg (by omega), if_pos h3, if_neg (by simp [hs])]
        have hxe : x = 0 := word_of x hx false _ hs hr
        subst hxe
        rw [hk]
        have ha : ∀ w, (binOp .quo 22 (.float .f64 4607182418800017408) (.float .f64 0)).run Tryd.prog w = .ok (.float .f64 9218868437227405312) w := fun w => run_float_arith w .quo 22 .f64 _ _ _ (by kernel_rfl)
        have oq : FloatKind.f64.format.order 9218868437227405312 0 = some .gt := by kernel_rfl
        rw [Int.compare_eq_eq.2 h3] at o
        clear hvr hrl h1 h3 h4 hk hr hs
        go_enter Tryd.func11, Tryd.ntmps11
        go_wp2
        go_ret
        exact ⟨rfl, rfl⟩
    obtain ⟨r, hr, o', ho', hne⟩ := dbl_fin x hn h3 h4 h1
    have ha : ∀ w, (binOp .add 22 (.float .f64 x) (.float .f64 x)).run Tryd.prog w = .ok (.float .f64 r) w := fun w => run_float_arith w .add 22 .f64 _ _ _ hr
    have hb := order_beq ho' hne
    clear hr ho' hne
    by_cases h2 : R.v x < 0
    · have hk : R.kind x = 2 := by unfold R.kind; rw [if_neg (by simp [hn]), if_neg h1, if_pos h2]
      rw [hk]
      rw [Int.compare_eq_lt.2 h2] at o
      clear hvr hrl h1 h3 h4 hk
      go_enter Tryd.func11, Tryd.ntmps11
      go_wp2
      go_ret
      exact ⟨rfl, rfl⟩
    · have hk : R.kind x = 5 := by unfold R.kind; rw [if_neg (by simp [hn]), if_neg h1, if_neg h2, if_neg h3, if_neg h4]
      rw [hk]
      rw [Int.compare_eq_gt.2 (by omega)] at o
      clear hvr hrl h1 h3 h4 hk
      go_enter Tryd.func11, Tryd.ntmps11
      go_wp2
      go_ret
      exact ⟨rfl, rfl⟩

theorem refCmp_any (x y : Nat) (hx : x < 18446744073709551616) (hy : y < 18446744073709551616) (w : World) : Calls Tryd.prog 12 #[.float .f64 x, .float .f64 y] w fun e w' => e = .returned (.int .i64 (R.cmpI (R.rank x) (R.rank y))) ∧ w' = w := by
  rcases Int.lt_trichotomy (R.kind x) (R.kind y) with h | h | h
  · have hc : R.cmpI (R.rank x) (R.rank y) = -1 := R.cmpI_lt (R.kind_lt x y h)
    rw [hc]
    go_enter Tryd.func12, Tryd.ntmps12
    go_wp2_with fail
    refine (refKind_any x hx _).mono ?_
    rintro e w1 ⟨rfl, rfl⟩
    go_wp2_with fail
    refine (refKind_any y hy _).mono ?_
    rintro e w1 ⟨rfl, rfl⟩
    go_wp2
    go_ret
    exact ⟨rfl, rfl⟩
  · have KX := Lib.hid fun w => refKind_any x hx w
    have KY := Lib.hid fun w => refKind_any y hy w
    rw [h] at KX
    have hq := R.kind_eq x y h
    clear h
    generalize R.kind y = k at KX KY
    rcases hq with ⟨nx, ny, hr⟩ | ⟨nx, ny, h1, h2⟩
    · have o := R.ord_nl x y nx
      rw [hr, R.cmpI_self]
      clear hr
      go_enter Tryd.func12, Tryd.ntmps12
      go_wp2_with fail
      refine (KX.out _).mono ?_
      rintro e w1 ⟨rfl, rfl⟩
      go_wp2_with fail
      refine (KY.out _).mono ?_
      rintro e w1 ⟨rfl, rfl⟩
      go_wp2
      go_ret
      exact ⟨rfl, rfl⟩
    · have o := R.ord x y nx ny
      rcases Int.lt_trichotomy (R.v x) (R.v y) with h | h | h
      · rw [R.cmpI_lt (h1.1 h)]
        rw [Int.compare_eq_lt.2 h] at o
        clear h1 h2 h
        go_enter Tryd.func12, Tryd.ntmps12
        go_wp2_with fail
        refine (KX.out _).mono ?_
        rintro e w1 ⟨rfl, rfl⟩
        go_wp2_with fail
        refine (KY.out _).mono ?_
        rintro e w1 ⟨rfl, rfl⟩
        go_wp2
        go_ret
        exact ⟨rfl, rfl⟩
      · rw [show R.rank x = R.rank y by omega, R.cmpI_self]
        rw [Int.compare_eq_eq.2 h] at o
        clear h1 h2 h
        go_enter Tryd.func12, Tryd.ntmps12
        go_wp2_with fail
        refine (KX.out _).mono ?_
        rintro e w1 ⟨rfl, rfl⟩
        go_wp2_with fail
        refine (KY.out _).mono ?_
        rintro e w1 ⟨rfl, rfl⟩
        go_wp2
        go_ret
        exact ⟨rfl, rfl⟩
      · rw [R.cmpI_gt (h2.1 h)]
        rw [Int.compare_eq_gt.2 h] at o
        clear h1 h2 h
        go_enter Tryd.func12, Tryd.ntmps12
        go_wp2_with fail
        refine (KX.out _).mono ?_
        rintro e w1 ⟨rfl, rfl⟩
        go_wp2_with fail
        refine (KY.out _).mono ?_
        rintro e w1 ⟨rfl, rfl⟩
        go_wp2
        go_ret
        exact ⟨rfl, rfl⟩
  · have hc : R.cmpI (R.rank x) (R.rank y) = 1 := R.cmpI_gt (R.kind_lt y x h)
    rw [hc]
    have KX := Lib.hid fun w => refKind_any x hx w
    have KY := Lib.hid fun w => refKind_any y hy w
    have h1 : ¬ R.kind x < R.kind y := by omega
    have h2 : ¬ R.kind x = R.kind y := by omega
    go_enter Tryd.func12, Tryd.ntmps12
    go_wp2_with fail
    refine (KX.out _).mono ?_
    rintro e w1 ⟨rfl, rfl⟩
    go_wp2_with fail
    refine (KY.out _).mono ?_
    rintro e w1 ⟨rfl, rfl⟩
    go_wp2
    go_ret
    exact ⟨rfl, rfl⟩

theorem same_any (x y : Nat) (hx : x < 18446744073709551616) (hy : y < 18446744073709551616) (w : World) : Calls Tryd.prog 13 #[.float .f64 x, .float .f64 y] w fun e w' => e = .returned (.bool (R.cmpI (R.rank x) (R.rank y) == 0)) ∧ w' = w := by
  go_enter Tryd.func13, Tryd.ntmps13
  go_wp2_with fail
  refine (cmp_any x y hx hy _).mono ?_
  rintro e w1 ⟨rfl, rfl⟩
  go_wp2
  go_ret
  exact ⟨rfl, rfl⟩

end Go.Proofs.YtajpgjbdemadgaaDoor
