/-
  Layer 1: what word.Add and word.Sub come to, at every argument of their types.
-/
import Derived.Test.YtngoighdpmeepaaRows
import Derived.Test.YtngoighdpmeepaaPlain
import Derived.WalkKit
import Derived.WalkSpells
import Derived.WalkLawsBesides
import Derived.Below
import Derived.OwnWalk
import Derived.Laws.IdiomStrings
import Derived.Lib.Slices
import Derived.Lib.Hide
namespace Go.Proofs.Ytngoighdpmeepaa
open Go.RowKit
set_option linter.unusedVariables false

theorem wrap_over {n : Int} (h0 : 18446744073709551615 < n) (h1 : n ≤ 36893488147419103230) : IntKind.u64.wrap n = n - 18446744073709551616 := by
  simp only [IntKind.wrap_u64]; omega

/-- A sum, at most 2^64 - 1. -/
def satV (a b : Int) : Int := if a + b ≤ 18446744073709551615 then a + b else 18446744073709551615
/-- A difference, at least 0. -/
def subV (a b : Int) : Int := if a < b then 0 else a - b

/-- word.Add. -/
theorem add_any (a b : Int) (a0 : 0 ≤ a) (a1 : a ≤ 18446744073709551615) (b0 : 0 ≤ b) (b1 : b ≤ 18446744073709551615) (w : World) :
    Calls Try.prog 52 #[.int .u64 a, .int .u64 b] w fun e w' => e = .returned (.int .u64 (satV a b)) ∧ w' = w := by
  unfold satV
  by_cases h : a + b ≤ 18446744073709551615
  · have h' : ¬ 18446744073709551615 - a < b := by omega
    rw [if_pos h]
    go_enter Try.func52, Try.ntmps52
    go_wp2
    go_ret
    exact ⟨rfl, rfl⟩
  · have h' : 18446744073709551615 - a < b := by omega
    rw [if_neg h]
    go_enter Try.func52, Try.ntmps52
    go_wp2
    go_ret
    exact ⟨rfl, rfl⟩

end Go.Proofs.Ytngoighdpmeepaa
