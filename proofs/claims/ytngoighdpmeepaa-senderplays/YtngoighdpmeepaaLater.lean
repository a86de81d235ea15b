/-
  Layer 1: the document's own Later.
-/
import Derived.Test.YtngoighdpmeepaaAdd
namespace Go.Proofs.Ytngoighdpmeepaa
open Go.RowKit
set_option linter.unusedVariables false

/-- The document's Later. -/
theorem later_any (a b : Int) (a0 : 0 ≤ a) (a1 : a ≤ 18446744073709551615) (b0 : 0 ≤ b) (b1 : b ≤ 18446744073709551615) (w : World) :
    Calls Try.prog 37 #[.int .u64 a, .int .u64 b] w fun e w' => e = .returned (.int .u64 (satV a b)) ∧ w' = w := by
  unfold satV
  by_cases h : a + b ≤ 18446744073709551615
  · rw [if_pos h]
    go_enter Try.func37, Try.ntmps37
    go_wp2
    go_ret
    exact ⟨rfl, rfl⟩
  · rw [if_neg h]
    have hw : IntKind.u64.wrap (a + b) < a := by rw [wrap_over (by omega) (by omega)]; omega
    go_enter Try.func37, Try.ntmps37
    go_wp2
    go_ret
    exact ⟨rfl, rfl⟩

end Go.Proofs.Ytngoighdpmeepaa
