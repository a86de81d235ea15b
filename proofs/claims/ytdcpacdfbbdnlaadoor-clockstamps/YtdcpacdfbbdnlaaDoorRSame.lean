/-
  Layer 2: real.Same; words of 64 bits.
-/
import Derived.Test.YtdcpacdfbbdnlaaDoorRArith
namespace Go.Proofs.YtdcpacdfbbdnlaaDoor
open Go.RowKit
set_option linter.unusedVariables false
set_option maxRecDepth 20000
set_option linter.unusedSimpArgs false

theorem dbl_fin (x : Nat) (hn : R.nan x = false) (hv : R.v x ≠ 0) (hi : R.v x ≠ 9218868437227405312) (hj : R.v x ≠ -9218868437227405312) :
    ∃ r, floatBits .add .f64 x x = some r ∧ ∃ o, FloatKind.f64.format.order r x = some o ∧ o ≠ .eq := by
  have hr := R.nan_false hn
  have h0 : 0 < R.rung x := by unfold R.v at hv; split at hv <;> omega
  have h1 : R.rung x < 9218868437227405312 := by unfold R.v at hi hj; split at hi <;> simp_all <;> omega
  obtain ⟨r, ha, hs, hlt, hle⟩ := R.dbl x h0 h1
  refine ⟨r, ha, _, R.ord r x (by unfold R.nan; simp; omega) hn, ?_⟩
  intro he
  have := Int.compare_eq_eq.1 he
  unfold R.v at this
  rw [hs] at this
  split at this <;> omega

theorem order_beq {a b : Nat} {o : Ordering} (h : FloatKind.f64.format.order a b = some o) (hne : o ≠ .eq) : (FloatKind.f64.format.order a b == some Ordering.eq) = false := by
  rw [h]; cases o <;> first | rfl | exact absurd rfl hne

theorem word_of (x : Nat) (hx : x < 18446744073709551616) (s : Bool) (r : Nat) (hs : R.sgn x = s) (hr : R.rung x = r) : x = if s = true then 9223372036854775808 + r else r := by
  rw [R.sgn_eq x hx] at hs
  unfold R.rung at hr
  cases s
  · simp at hs; simp; omega
  · simp at hs; simp; omega

theorem same_any (x y : Nat) (hx : x < 18446744073709551616) (hy : y < 18446744073709551616) (w : World) : Calls Tryd.prog 16 #[.float .f64 x, .float .f64 y] w fun e w' => e = .returned (.bool (R.cmpI (R.rank x) (R.rank y) == 0)) ∧ w' = w := by
  go_enter Tryd.func16, Tryd.ntmps16
  go_wp2_with fail
  refine (cmp_any x y hx hy _).mono ?_
  rintro e w1 ⟨rfl, rfl⟩
  go_wp2
  go_ret
  exact ⟨rfl, rfl⟩

end Go.Proofs.YtdcpacdfbbdnlaaDoor
