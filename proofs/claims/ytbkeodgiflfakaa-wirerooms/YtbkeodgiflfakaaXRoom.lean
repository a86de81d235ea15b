/-
  Layer 9: Room.
-/
import Derived.Test.YtbkeodgiflfakaaXPlain
import Derived.Test.YtbkeodgiflfakaaZHead
import Derived.Test.YtbkeodgiflfakaaGet
import Derived.Deep.RegionHeld3
namespace Go.Proofs.Ytbkeodgiflfakaa
open Go.RowKit
set_option linter.unusedVariables false
set_option maxRecDepth 20000

theorem room_any (w : World) : Calls Try.prog 17 #[] w fun e w' => e = .returned (.int .i64 466) ∧ w' = w := by
  go_enter Try.func17, Try.ntmps17
  go_wp2_with fail
  refine (size_any 14 (by decide) _).mono ?_
  rintro e w1 ⟨rfl, rfl⟩
  go_wp2
  go_ret
  exact ⟨rfl, rfl⟩

end Go.Proofs.Ytbkeodgiflfakaa
