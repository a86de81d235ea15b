/-
  Layer 3: sha.Step.
-/
import Derived.Test.YtbkeodgiflfakaaSStep
import Derived.Test.YtbkeodgiflfakaaSKeys
import Derived.Test.YtbkeodgiflfakaaSCopy
import Derived.Test.YtbkeodgiflfakaaSLaws
import Derived.Deep.RegionHeld3
namespace Go.Proofs.Ytbkeodgiflfakaa
open Go.RowKit
set_option linter.unusedVariables false
set_option maxRecDepth 20000

theorem stepK_keys (h : List Nat) (b : List UInt8) : stepK S.keys h b = S.stepL h b := rfl
/-- Eight words, as cells. -/
def row8 (a b c d e f g i : Nat) : List Value := [.int .u32 (a : Int), .int .u32 (b : Int), .int .u32 (c : Int), .int .u32 (d : Int), .int .u32 (e : Int), .int .u32 (f : Int), .int .u32 (g : Int), .int .u32 (i : Int)]


end Go.Proofs.Ytbkeodgiflfakaa
