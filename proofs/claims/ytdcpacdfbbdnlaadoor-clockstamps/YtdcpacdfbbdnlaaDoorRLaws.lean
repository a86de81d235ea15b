/-
  Plain mathematics for layer 2: kinds and ranks. No condition.
-/
import Derived.Test.YtdcpacdfbbdnlaaDoorRCmp
namespace Go.Proofs.YtdcpacdfbbdnlaaDoor.R
set_option linter.unusedVariables false
set_option maxRecDepth 20000
set_option linter.unusedSimpArgs false

theorem kind_range (x : Nat) : 0 ≤ kind x ∧ kind x ≤ 6 := by
  unfold kind; repeat' split
  all_goals omega
theorem kind_nan {x : Nat} (h : nan x = true) : kind x = 0 := by unfold kind; rw [if_pos h]
theorem kind_num {x : Nat} (h : nan x = false) : 1 ≤ kind x := by
  unfold kind; rw [if_neg (by simp [h])]; repeat' split
  all_goals omega
theorem rank_nan {x : Nat} (h : nan x = true) : rank x = -9223372036854775809 := by unfold rank; rw [if_pos h]
theorem rank_num {x : Nat} (h : nan x = false) : -9223372036854775808 ≤ rank x ∧ rank x < 9223372036854775808 := by
  have := rung_lt x; unfold rank; rw [if_neg (by simp [h])]; split <;> omega
theorem rank_neg {x : Nat} (hx : x < 18446744073709551616) (h : nan x = false) : rank (neg x) = -1 - rank x := by
  have := rung_lt x
  unfold rank; rw [nan_neg x hx, if_neg (show ¬ nan x = true by simp [h]), if_neg (show ¬ nan x = true by simp [h]), sgn_neg x hx, rung_neg x hx]
  cases sgn x
  · rw [if_pos (by rfl), if_neg (by decide)]; omega
  · rw [if_neg (by decide), if_pos (by rfl)]; omega
theorem kind_neg {x : Nat} (hx : x < 18446744073709551616) (h : nan x = false) : kind (neg x) = 7 - kind x := by
  unfold kind; rw [nan_neg x hx, if_neg (show ¬ nan x = true by simp [h]), if_neg (show ¬ nan x = true by simp [h]), sgn_neg x hx, v_neg x hx]
  generalize v x = y
  cases sgn x
  · rw [if_pos (show (!false) = true from rfl), if_neg (show ¬ (false = true) by decide)]
    repeat' split
    all_goals omega
  · rw [if_neg (show ¬ ((!true) = true) by decide), if_pos (show true = true from rfl)]
    repeat' split
    all_goals omega
theorem cmpI_self (a : Int) : cmpI a a = 0 := by simp [cmpI]
theorem cmpI_flip (a b : Int) : cmpI (-1 - a) (-1 - b) = cmpI b a := by
  unfold cmpI; repeat' split
  all_goals omega
theorem cmpI_swap (a b : Int) : cmpI b a = -cmpI a b := by
  unfold cmpI; repeat' split
  all_goals omega
theorem cmpI_range (a b : Int) : -1 ≤ cmpI a b ∧ cmpI a b ≤ 1 := by
  unfold cmpI; repeat' split
  all_goals omega
theorem cmpI_lt {a b : Int} (h : a < b) : cmpI a b = -1 := by simp [cmpI, h]
theorem cmpI_gt {a b : Int} (h : b < a) : cmpI a b = 1 := by unfold cmpI; rw [if_neg (by omega), if_pos h]
theorem cmpI_zero (a b : Int) : cmpI a b = 0 ↔ a = b := by
  unfold cmpI; repeat' split
  all_goals omega
theorem cmpI_neg (a b : Int) : cmpI a b < 0 ↔ a < b := by
  unfold cmpI; repeat' split
  all_goals omega
theorem cmpI_pos (a b : Int) : 0 < cmpI a b ↔ b < a := by
  unfold cmpI; repeat' split
  all_goals omega

end Go.Proofs.YtdcpacdfbbdnlaaDoor.R
