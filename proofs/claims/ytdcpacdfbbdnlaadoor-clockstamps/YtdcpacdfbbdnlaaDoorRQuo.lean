/-
  Layer 2: quotients: what they come to at the sign, by themselves, and where there is none; real.Ratio.
-/
import Derived.Test.YtdcpacdfbbdnlaaDoorRSame
import Derived.Laws.NewFold
namespace Go.Proofs.YtdcpacdfbbdnlaaDoor
open Go.RowKit
set_option linter.unusedVariables false
set_option maxRecDepth 20000
set_option linter.unusedSimpArgs false

namespace R
open Ieee

theorem read_of (x : Nat) : double.read x = (if rung x < 4503599627370496 then .number (sgn x) (rung x) (-1074)
    else if rung x < 9218868437227405312 then .number (sgn x) (4503599627370496 + rung x % 4503599627370496) (-1074 + ((rung x / 4503599627370496 - 1 : Nat) : Int))
    else if rung x = 9218868437227405312 then .infinity (sgn x) else .nan (sgn x) (rung x - 9218868437227405312)) := by
  have e1 : double.signWeight = 9223372036854775808 := by decide
  have e2 : double.binade = 4503599627370496 := by decide
  have e3 : double.infRung = 9218868437227405312 := by decide
  have e4 : double.leastPlace = -1074 := by decide
  unfold Format.read
  simp only [e1, e2, e3, e4]
  rfl

theorem read_neg (x : Nat) (hx : x < 18446744073709551616) : double.read (neg x) = (double.read x).opposite := by
  rw [read_of, read_of, rung_neg x hx, sgn_neg x hx]
  repeat' split
  all_goals rfl

theorem word_neg (s : Bool) (r : Nat) (h : r < 9223372036854775808) : double.word (!s) r = neg (double.word s r) := by
  have e : double.signWeight = 9223372036854775808 := by decide
  unfold neg Format.word; rw [e]
  cases s
  · simp [h]; omega
  · simp; omega

theorem quot_left (d e : Datum) : Datum.quotient 54 d.opposite e = (Datum.quotient 54 d e).map Datum.opposite := by
  cases d <;> cases e <;> simp [Datum.quotient, Datum.opposite] <;> repeat' split
  all_goals simp_all [Datum.opposite]
theorem quot_right (d e : Datum) : Datum.quotient 54 d e.opposite = (Datum.quotient 54 d e).map Datum.opposite := by
  cases d <;> cases e <;> simp [Datum.quotient, Datum.opposite] <;> repeat' split
  all_goals simp_all [Datum.opposite]

theorem quot_no_nan {d e f : Datum} (h : Datum.quotient 54 d e = some f) : f.isNaN = false := by
  cases d <;> cases e <;> simp [Datum.quotient] at h
  all_goals first | (subst h; rfl) | skip
  all_goals (split at h <;> (try split at h) <;> simp at h <;> subst h <;> rfl)

theorem nearest_word (s : Bool) (m : Nat) (p : Int) : ∃ r, r ≤ 9218868437227405312 ∧ (∀ t, double.nearest t m p = double.word t r) := by
  have e3 : double.infRung = 9218868437227405312 := by decide
  by_cases h : m = 0
  · exact ⟨0, by decide, fun t => by unfold Format.nearest; rw [if_pos h]⟩
  · refine ⟨_, ?_, fun t => by unfold Format.nearest; rw [if_neg h]; simp only [Toward.cut]; rfl⟩
    rw [e3]; exact Nat.min_le_right _ _

theorem write_opp (d : Datum) (h : d.isNaN = false) : double.write d.opposite = neg (double.write d) ∧ nan (double.write d) = false := by
  have e3 : double.infRung = 9218868437227405312 := by decide
  cases d with
  | nan s t => cases h
  | infinity s =>
    simp only [Datum.opposite, Format.write, e3]
    exact ⟨word_neg s _ (by decide), by unfold nan; rw [word_rung s _ (by decide)]; decide⟩
  | number s m p =>
    obtain ⟨r, hr, hw⟩ := nearest_word s m p
    simp only [Datum.opposite, Format.write, hw]
    exact ⟨word_neg s r (by omega), by unfold nan; rw [word_rung s r (by omega)]; simp; omega⟩

/-- A quotient's word; where there is none: 0. -/
def qv (x y : Nat) : Nat := (double.div x y).getD 0

theorem div_eq (x y : Nat) : double.div x y = (Datum.quotient 54 (double.read x) (double.read y)).map double.write := rfl

theorem div_num {x y r : Nat} (h : double.div x y = some r) : nan r = false := by
  rw [div_eq] at h
  cases hq : Datum.quotient 54 (double.read x) (double.read y) with
  | none => rw [hq] at h; cases h
  | some d => rw [hq] at h; cases h; exact (write_opp d (quot_no_nan hq)).2
theorem div_neg_left {x y r : Nat} (hx : x < 18446744073709551616) (h : double.div x y = some r) : double.div (neg x) y = some (neg r) := by
  rw [div_eq] at h ⊢
  rw [read_neg x hx, quot_left]
  cases hq : Datum.quotient 54 (double.read x) (double.read y) with
  | none => rw [hq] at h; cases h
  | some d => rw [hq] at h; cases h; simp [(write_opp d (quot_no_nan hq)).1]
theorem div_neg_right {x y r : Nat} (hy : y < 18446744073709551616) (h : double.div x y = some r) : double.div x (neg y) = some (neg r) := by
  rw [div_eq] at h ⊢
  rw [read_neg y hy, quot_right]
  cases hq : Datum.quotient 54 (double.read x) (double.read y) with
  | none => rw [hq] at h; cases h
  | some d => rw [hq] at h; cases h; simp [(write_opp d (quot_no_nan hq)).1]

theorem quot_self (s : Bool) (m : Nat) (i : Int) (h : 0 < m) : Datum.quotient 54 (.number s m i) (.number s m i) = some (.number false 36028797018963968 (-55)) := by
  simp only [Datum.quotient]
  rw [if_neg (by omega), show 54 + m.log2 - m.log2 = 54 from by omega]
  have e1 : m <<< 54 / m = 18014398509481984 := by rw [Nat.shiftLeft_eq, Nat.mul_div_cancel_left _ h]
  have e2 : m <<< 54 % m = 0 := by rw [Nat.shiftLeft_eq, Nat.mul_mod_right]
  rw [e1, e2]
  simp
theorem div_self (x : Nat) (h0 : 0 < rung x) (h : rung x < 9218868437227405312) : double.div x x = some 4607182418800017408 := by
  rw [div_eq, read_of]
  have hw : double.write (.number false 36028797018963968 (-55)) = 4607182418800017408 := by decide +kernel
  by_cases h1 : rung x < 4503599627370496
  · rw [if_pos h1, quot_self _ _ _ h0, Option.map_some, hw]
  · rw [if_neg h1, if_pos h, quot_self _ _ _ (by omega), Option.map_some, hw]

end R

/-- The bits that are drawn where there is no quotient. -/
def nanR (x y : Nat) (w : World) : Nat := (Question.nanBits .f64 x y).cut (w.tape w.drawn (.nanBits .f64 x y))
theorem nanR_nan (x y : Nat) (w : World) : R.nan (nanR x y w) = true := by
  unfold nanR R.nan R.rung Question.cut
  generalize w.tape w.drawn _ = t
  simp only [decide_eq_true_eq]
  have h1 : (t / 2) % (2 ^ 52 - 1) < 2 ^ 52 - 1 := Nat.mod_lt _ (by decide)
  have h2 : t % 2 < 2 := Nat.mod_lt _ (by decide)
  generalize (t / 2) % (2 ^ 52 - 1) = u at *
  generalize t % 2 = v at *
  rw [show (2 ^ 63 : Nat) = 9223372036854775808 from by decide]
  rw [show (2 ^ 52 - 1 : Nat) = 4503599627370495 from by decide] at h1
  omega
theorem run_quo_none (x y : Nat) (h : Ieee.double.div x y = none) (w : World) : (binOp .quo 34 (.float .f64 x) (.float .f64 y)).run Tryd.prog w = .ok (.float .f64 (nanR x y w)) w.drew := by
  have h' : FloatKind.f64.format.div x y = none := h
  simp [binOp, Op.floatArith, h', nanR, Question.forced]
theorem run_quo_some (x y r : Nat) (h : Ieee.double.div x y = some r) (w : World) : (binOp .quo 34 (.float .f64 x) (.float .f64 y)).run Tryd.prog w = .ok (.float .f64 r) w :=
  run_float_arith w .quo 34 .f64 x y r h

theorem ratio_any (x y : Nat) (w : World) : Calls Tryd.prog 29 #[.float .f64 x, .float .f64 y] w fun e w' => e = .returned (.float .f64 (R.qv x y)) ∧ Below w.heap.size w w' := by
  unfold R.qv
  cases h : Ieee.double.div x y with
  | none =>
    have q := run_quo_none x y h
    have I := Lib.hid (isNaN_any (nanR x y w))
    rw [nanR_nan] at I
    rw [Option.getD_none]
    go_enter Tryd.func29, Tryd.ntmps29
    go_wp2_with fail
    refine (I.out _).mono ?_
    rintro e w' ⟨rfl, rfl⟩
    go_wp2_with fail
    go_ret
    exact ⟨rfl, (Below.refl _ _).drew⟩
  | some r =>
    have q := run_quo_some x y r h
    have I := Lib.hid (isNaN_any r)
    rw [R.div_num h] at I
    rw [Option.getD_some]
    go_enter Tryd.func29, Tryd.ntmps29
    go_wp2_with fail
    refine (I.out _).mono ?_
    rintro e w' ⟨rfl, rfl⟩
    go_wp2_with fail
    go_ret
    exact ⟨rfl, Below.refl _ _⟩

end Go.Proofs.YtdcpacdfbbdnlaaDoor
