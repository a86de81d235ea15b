/-
  Layer 2: what real.Cmp and real.Same come to, at every two words of 64 bits.
-/
import Derived.Test.YtdcpacdfbbdnlaaDoorRKind
namespace Go.Proofs.YtdcpacdfbbdnlaaDoor
open Go.RowKit
set_option linter.unusedVariables false
set_option maxRecDepth 20000
set_option linter.unusedSimpArgs false

namespace R

/-- A number's place in the order of all. -/
def rank (x : Nat) : Int := if nan x = true then -9223372036854775809 else if sgn x = true then -(rung x : Int) - 1 else rung x
/-- Which of two is ahead. -/
def cmpI (a b : Int) : Int := if a < b then -1 else if b < a then 1 else 0

theorem kind_lt (x y : Nat) (h : kind x < kind y) : rank x < rank y := by
  have hx := rung_lt x
  have hy := rung_lt y
  unfold kind at h
  unfold rank
  unfold v at h
  cases nx : nan x <;> cases ny : nan y <;> cases sx : sgn x <;> cases sy : sgn y <;> simp [nx, ny, sx, sy] at h ⊢ <;> (try have := nan_false nx) <;> (try have := nan_false ny) <;> (try (repeat' split at h)) <;> omega
theorem kind_eq (x y : Nat) (h : kind x = kind y) : (nan x = true ∧ nan y = true ∧ rank x = rank y) ∨ (nan x = false ∧ nan y = false ∧ (v x < v y ↔ rank x < rank y) ∧ (v y < v x ↔ rank y < rank x)) := by
  have hx := rung_lt x
  have hy := rung_lt y
  unfold kind at h
  unfold rank
  unfold v at h ⊢
  cases nx : nan x <;> cases ny : nan y <;> cases sx : sgn x <;> cases sy : sgn y <;> simp [nx, ny, sx, sy] at h ⊢ <;> (try have := nan_false nx) <;> (try have := nan_false ny) <;> (try (repeat' split at h)) <;> omega

end R

theorem compareInt_any (a b : Int) (w : World) : Calls Tryd.prog 32 #[.int .i64 a, .int .i64 b] w fun e w' => e = .returned (.int .i64 (R.cmpI a b)) ∧ w' = w := by
  unfold R.cmpI
  by_cases h1 : a < b
  · rw [if_pos h1]
    go_enter Tryd.func32, Tryd.ntmps32
    go_wp2
    go_ret
    exact ⟨rfl, rfl⟩
  · rw [if_neg h1]
    by_cases h2 : b < a
    · rw [if_pos h2]
      go_enter Tryd.func32, Tryd.ntmps32
      go_wp2
      go_ret
      exact ⟨rfl, rfl⟩
    · rw [if_neg h2]
      go_enter Tryd.func32, Tryd.ntmps32
      go_wp2
      go_ret
      exact ⟨rfl, rfl⟩

theorem compareFloat_nan (x y : Nat) (hx : R.nan x = true) (hy : R.nan y = true) (w : World) : Calls Tryd.prog 33 #[.float .f64 x, .float .f64 y] w fun e w' => e = .returned (.int .i64 0) ∧ w' = w := by
  have o1 := R.ord_nl x x hx
  have o2 := R.ord_nl y y hy
  go_enter Tryd.func33, Tryd.ntmps33
  go_wp2
  go_ret
  exact ⟨rfl, rfl⟩

theorem compareFloat_num (x y : Nat) (hx : R.nan x = false) (hy : R.nan y = false) (w : World) : Calls Tryd.prog 33 #[.float .f64 x, .float .f64 y] w fun e w' => e = .returned (.int .i64 (R.cmpI (R.v x) (R.v y))) ∧ w' = w := by
  have o1 : FloatKind.f64.format.order x x = some .eq := by rw [R.ord x x hx hx, Int.compare_eq_eq.2 rfl]
  have o2 : FloatKind.f64.format.order y y = some .eq := by rw [R.ord y y hy hy, Int.compare_eq_eq.2 rfl]
  have o := R.ord x y hx hy
  unfold R.cmpI
  by_cases h1 : R.v x < R.v y
  · rw [if_pos h1]
    rw [Int.compare_eq_lt.2 h1] at o
    go_enter Tryd.func33, Tryd.ntmps33
    go_wp2
    go_ret
    exact ⟨rfl, rfl⟩
  · rw [if_neg h1]
    by_cases h2 : R.v y < R.v x
    · rw [if_pos h2]
      rw [Int.compare_eq_gt.2 h2] at o
      go_enter Tryd.func33, Tryd.ntmps33
      go_wp2
      go_ret
      exact ⟨rfl, rfl⟩
    · rw [if_neg h2]
      rw [Int.compare_eq_eq.2 (by omega)] at o
      go_enter Tryd.func33, Tryd.ntmps33
      go_wp2
      go_ret
      exact ⟨rfl, rfl⟩

theorem cmp_any (x y : Nat) (hx : x < 18446744073709551616) (hy : y < 18446744073709551616) (w : World) : Calls Tryd.prog 26 #[.float .f64 x, .float .f64 y] w fun e w' => e = .returned (.int .i64 (R.cmpI (R.rank x) (R.rank y))) ∧ w' = w := by
  go_enter Tryd.func26, Tryd.ntmps26
  go_wp2_with fail
  refine (kind_any x hx _).mono ?_
  rintro e w1 ⟨rfl, rfl⟩
  go_wp2_with fail
  refine (kind_any y hy _).mono ?_
  rintro e w2 ⟨rfl, rfl⟩
  by_cases hk : R.kind x = R.kind y
  · rcases R.kind_eq x y hk with ⟨nx, ny, hr⟩ | ⟨nx, ny, h1, h2⟩
    · go_wp2_with fail
      refine (compareFloat_nan x y nx ny _).mono ?_
      rintro e w3 ⟨rfl, rfl⟩
      go_wp2
      go_ret
      exact ⟨by rw [hr]; simp [R.cmpI], rfl⟩
    · go_wp2_with fail
      refine (compareFloat_num x y nx ny _).mono ?_
      rintro e w3 ⟨rfl, rfl⟩
      go_wp2
      go_ret
      exact ⟨by simp only [R.cmpI, h1, h2]; rfl, rfl⟩
  · go_wp2_with fail
    refine (compareInt_any _ _ _).mono ?_
    rintro e w3 ⟨rfl, rfl⟩
    go_wp2
    go_ret
    have hc : R.cmpI (R.kind x) (R.kind y) = R.cmpI (R.rank x) (R.rank y) := by
      rcases Int.lt_trichotomy (R.kind x) (R.kind y) with h | h | h
      · have := R.kind_lt x y h
        simp [R.cmpI, h, this]
      · exact absurd h hk
      · have := R.kind_lt y x h
        unfold R.cmpI
        rw [if_neg (by omega), if_pos h, if_neg (by omega), if_pos this]
    rw [← hc]
    exact ⟨rfl, rfl⟩

end Go.Proofs.YtdcpacdfbbdnlaaDoor
