/-
  Layer 2: what real.Kind and real.Cmp come to, at every two words of 64 bits.
-/
import Derived.Test.YtdcpacdfbbdnlaaDoorRows
import Derived.Test.YtdcpacdfbbdnlaaDoorRPlain
import Derived.WalkKit
import Derived.WalkSpells
import Derived.WalkLawsBesides
import Derived.Below
import Derived.Lib.Hide
import Derived.Laws.Externs
import Derived.KernelRfl
namespace Go.Proofs.YtdcpacdfbbdnlaaDoor
open Go.RowKit
set_option linter.unusedVariables false
set_option maxRecDepth 20000
set_option linter.unusedSimpArgs false

namespace R

def neg (x : Nat) : Nat := if x < 9223372036854775808 then x + 9223372036854775808 else x - 9223372036854775808

theorem xor_low (k x : Nat) (h : x < 2 ^ k) : x ^^^ 2 ^ k = 2 ^ k * 1 + x := by
  apply Nat.eq_of_testBit_eq
  intro i
  rw [Nat.testBit_xor, Nat.testBit_two_pow, Nat.testBit_two_pow_mul_add 1 h]
  by_cases hi : i < k
  · rw [if_pos hi, decide_eq_false (show ¬ k = i by omega), Bool.xor_false]
  · rw [if_neg hi, Nat.testBit_lt_two_pow (Nat.lt_of_lt_of_le h (Nat.pow_le_pow_right (by decide) (by omega)))]
    rw [Bool.false_xor]
    by_cases e : k = i
    · subst e; simp
    · rw [decide_eq_false e]
      obtain ⟨m, hm⟩ : ∃ m, i - k = m + 1 := ⟨i - k - 1, by omega⟩
      rw [hm, Nat.testBit_succ]; simp
theorem xor_top (x : Nat) (h : x < 18446744073709551616) : x ^^^ 9223372036854775808 = neg x := by
  have e : (9223372036854775808 : Nat) = 2 ^ 63 := by decide
  have low : ∀ y, y < 9223372036854775808 → y ^^^ 9223372036854775808 = y + 9223372036854775808 := fun y hy => by
    rw [e] at hy ⊢
    rw [xor_low 63 y hy]; omega
  unfold neg
  split
  · next h1 => exact low x h1
  · next h1 =>
    have hy := low (x - 9223372036854775808) (by omega)
    rw [show x - 9223372036854775808 + 9223372036854775808 = x from by omega] at hy
    rw [← hy, Nat.xor_assoc, Nat.xor_self, Nat.xor_zero]
    omega

theorem neg_lt (x : Nat) (h : x < 18446744073709551616) : neg x < 18446744073709551616 := by unfold neg; split <;> omega
theorem rung_neg (x : Nat) (h : x < 18446744073709551616) : rung (neg x) = rung x := by unfold neg rung; split <;> omega
theorem sgn_eq (x : Nat) (h : x < 18446744073709551616) : sgn x = decide (9223372036854775808 ≤ x) := by
  unfold sgn; rw [Bool.eq_iff_iff, beq_iff_eq, decide_eq_true_eq]; omega
theorem sgn_neg (x : Nat) (h : x < 18446744073709551616) : sgn (neg x) = !sgn x := by
  rw [sgn_eq _ (neg_lt x h), sgn_eq x h]; unfold neg; rw [Bool.eq_iff_iff]; split <;> simp <;> omega
theorem v_neg (x : Nat) (h : x < 18446744073709551616) : v (neg x) = -v x := by
  unfold v; rw [sgn_neg x h, rung_neg x h]; cases sgn x <;> simp
theorem v_zero : v 0 = 0 := by decide
theorem v_max : v 9218868437227405311 = 9218868437227405311 := by decide

theorem nan_false {x : Nat} (h : nan x = false) : rung x ≤ 9218868437227405312 := by unfold nan at h; simpa using h
theorem nan_true {x : Nat} (h : nan x = true) : 9218868437227405312 < rung x := by unfold nan at h; simpa using h
theorem v_range (x : Nat) (h : nan x = false) : -9218868437227405312 ≤ v x ∧ v x ≤ 9218868437227405312 := by
  have := nan_false h; unfold v; split <;> omega
theorem ord (x y : Nat) (hx : nan x = false) (hy : nan y = false) : FloatKind.f64.format.order x y = some (compare (v x) (v y)) := order_eq x y (nan_false hx) (nan_false hy)
theorem ord_nl (x y : Nat) (hx : nan x = true) : FloatKind.f64.format.order x y = none := order_nan_left x y (nan_true hx)
theorem ord_nr (x y : Nat) (hy : nan y = true) : FloatKind.f64.format.order x y = none := order_nan_right x y (nan_true hy)
theorem nan_zero : nan 0 = false := by decide
theorem nan_max : nan 9218868437227405311 = false := by decide
theorem nan_neg (x : Nat) (h : x < 18446744073709551616) : nan (neg x) = nan x := by unfold nan; rw [rung_neg x h]

/-- A number's kind. -/
def kind (x : Nat) : Int :=
  if nan x = true then 0 else if v x = -9218868437227405312 then 1 else if v x < 0 then 2 else if v x = 0 then (if sgn x = true then 3 else 4) else if v x = 9218868437227405312 then 6 else 5

end R

theorem isNaN_any (x : Nat) (w : World) : Calls Tryd.prog 15 #[.float .f64 x] w fun e w' => e = .returned (.bool (R.nan x)) ∧ w' = w := by
  cases h : R.nan x
  · have hf : FloatKind.f64.format.order x x = some .eq := by rw [R.ord x x h h, Int.compare_eq_eq.2 rfl]
    go_enter Tryd.func15, Tryd.ntmps15
    go_wp2
    go_ret
    exact ⟨by first | rfl | simp [hf], rfl⟩
  · have hf : FloatKind.f64.format.order x x = none := R.ord_nl x x h
    go_enter Tryd.func15, Tryd.ntmps15
    go_wp2
    go_ret
    exact ⟨by first | rfl | simp [hf], rfl⟩

theorem inf_up (x : Nat) : (FloatKind.f64.format.order x 9218868437227405311 == some Ordering.gt) = (!R.nan x && decide (R.v x = 9218868437227405312)) := by
  cases h : R.nan x
  · rw [R.ord x _ h R.nan_max, R.v_max]
    have := R.v_range x h
    rw [Bool.eq_iff_iff]
    simp only [beq_iff_eq, Option.some.injEq, Int.compare_eq_gt, Bool.not_false, Bool.true_and, decide_eq_true_eq]
    omega
  · rw [R.ord_nl x _ h]; rfl

theorem isInf_up (x : Nat) (w : World) : Calls Tryd.prog 27 #[.float .f64 x, .int .i64 1] w fun e w' => e = .returned (.bool (!R.nan x && decide (R.v x = 9218868437227405312))) ∧ w' = w := by
  go_enter Tryd.func27, Tryd.ntmps27
  go_wp2
  go_ret
  rw [← inf_up]
  exact ⟨rfl, rfl⟩

@[go_sem] theorem run_neg_float (x : Nat) (w : World) : (Op.unary .neg (.float .f64 x)).run Tryd.prog w = .ok (.float .f64 (x ^^^ 9223372036854775808)) w := rfl
@[go_sem] theorem run_float64bits (x : Nat) (w : World) : (callFunc 35 #[.float .f64 x]).run Tryd.prog w = .ok (.value (.int .u64 x)) w := by
  rw [run_callFunc_extern Tryd.func35 (by kernel_rfl) (by kernel_rfl) (by kernel_rfl) (e := Extern.MathFloatBits.float64bits) (by kernel_rfl)]
  rfl

theorem isInf_down (x : Nat) (hx : x < 18446744073709551616) (w : World) : Calls Tryd.prog 27 #[.float .f64 x, .int .i64 (-1)] w fun e w' => e = .returned (.bool (!R.nan x && decide (R.v x = -9218868437227405312))) ∧ w' = w := by
  have key : (FloatKind.f64.format.order (x ^^^ 9223372036854775808) 9218868437227405311 == some Ordering.gt) = (!R.nan x && decide (R.v x = -9218868437227405312)) := by
    rw [R.xor_top x hx, inf_up, R.nan_neg x hx, R.v_neg x hx]
    congr 1
    rw [Bool.eq_iff_iff]; simp only [decide_eq_true_eq]; omega
  go_enter Tryd.func27, Tryd.ntmps27
  go_wp2
  go_ret
  rw [← key]
  exact ⟨rfl, rfl⟩

theorem wrap_low {n : Int} (h0 : 0 ≤ n) (h1 : n < 9223372036854775808) : IntKind.i64.wrap n = n := by
  simp only [IntKind.wrap_i64]; omega
theorem wrap_high {n : Int} (h0 : 9223372036854775808 ≤ n) (h1 : n < 18446744073709551616) : IntKind.i64.wrap n = n - 18446744073709551616 := by
  simp only [IntKind.wrap_i64]; omega

theorem signbit_any (x : Nat) (hx : x < 18446744073709551616) (w : World) : Calls Tryd.prog 28 #[.float .f64 x] w fun e w' => e = .returned (.bool (R.sgn x)) ∧ w' = w := by
  rw [R.sgn_eq x hx]
  by_cases h : 9223372036854775808 ≤ x
  · rw [decide_eq_true h]
    have hw := wrap_high (n := (x : Int)) (by omega) (by omega)
    have hl : (x : Int) - 18446744073709551616 < 0 := by omega
    go_enter Tryd.func28, Tryd.ntmps28
    go_wp2
    go_ret
    exact ⟨rfl, rfl⟩
  · rw [decide_eq_false h]
    have hw := wrap_low (n := (x : Int)) (by omega) (by omega)
    have hl : ¬ (x : Int) < 0 := by omega
    go_enter Tryd.func28, Tryd.ntmps28
    go_wp2
    go_ret
    exact ⟨rfl, rfl⟩

theorem kind_any (x : Nat) (hx : x < 18446744073709551616) (w : World) : Calls Tryd.prog 19 #[.float .f64 x] w fun e w' => e = .returned (.int .i64 (R.kind x)) ∧ w' = w := by
  go_enter Tryd.func19, Tryd.ntmps19
  go_wp2_with fail
  refine (isNaN_any x _).mono ?_
  rintro e w1 ⟨rfl, rfl⟩
  cases hn : R.nan x
  rotate_left
  · go_wp2_with fail
    go_ret
    exact ⟨by rw [show R.kind x = 0 by simp [R.kind, hn]]; rfl, rfl⟩
  go_wp2_with fail
  refine (isInf_down x hx _).mono ?_
  rintro e w1 ⟨rfl, rfl⟩
  rw [hn, Bool.not_false, Bool.true_and]
  by_cases h1 : R.v x = -9218868437227405312
  · rw [decide_eq_true h1]
    go_wp2_with fail
    go_ret
    exact ⟨by rw [show R.kind x = 1 by simp [R.kind, hn, h1]]; rfl, rfl⟩
  rw [decide_eq_false h1]
  have o := R.ord x 0 hn R.nan_zero
  rw [R.v_zero] at o
  by_cases h2 : R.v x < 0
  · rw [Int.compare_eq_lt.2 h2] at o
    go_wp2_with fail
    go_ret
    exact ⟨by rw [show R.kind x = 2 by simp [R.kind, hn, h1, h2]]; rfl, rfl⟩
  by_cases h3 : R.v x = 0
  · rw [Int.compare_eq_eq.2 h3] at o
    go_wp2_with fail
    refine (signbit_any x hx _).mono ?_
    rintro e w1 ⟨rfl, rfl⟩
    cases hs : R.sgn x
    · go_wp2_with fail
      go_ret
      exact ⟨by rw [show R.kind x = 4 by simp [R.kind, hn, h1, h2, h3, hs]]; rfl, rfl⟩
    · go_wp2_with fail
      go_ret
      exact ⟨by rw [show R.kind x = 3 by simp [R.kind, hn, h1, h2, h3, hs]]; rfl, rfl⟩
  rw [Int.compare_eq_gt.2 (by omega)] at o
  go_wp2_with fail
  refine (isInf_up x _).mono ?_
  rintro e w1 ⟨rfl, rfl⟩
  rw [hn, Bool.not_false, Bool.true_and]
  by_cases h4 : R.v x = 9218868437227405312
  · rw [decide_eq_true h4]
    go_wp2_with fail
    go_ret
    exact ⟨by rw [show R.kind x = 6 by simp [R.kind, hn, h1, h2, h3, h4]]; rfl, rfl⟩
  rw [decide_eq_false h4]
  go_wp2_with fail
  go_ret
  exact ⟨by rw [show R.kind x = 5 by simp [R.kind, hn, h1, h2, h3, h4]]; rfl, rfl⟩

end Go.Proofs.YtdcpacdfbbdnlaaDoor
