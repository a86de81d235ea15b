/-
  DERIVED. GIVEN WITH THE SEED: THE CARDS: each row of YtiocibllmaakkabDoorRows.lean that lists a variable, with what it lists TIED to the program's text (the seventh form; the later family's looks); each row that meets fmt, with fmt's text TOLD by the authors' own Lean function (tested against real Go, not proved from fmt's source: count such statements apart). THE CARD IS WHAT COUNTS. Prove the row's statement (the work); the ties are given (YtiocibllmaakkabDoorTie.lean); close each card by the builder's one call (the guide's Derived/Test/ToyasCard.lean, 'card_holds'). Laid BY PROGRAM, IN A SANDBOX (cutbox-door.mjs). By AI agents, Wed Nov 11 2026. No macro, syntax, notation, axiom, sorry.
-/
import Derived.Test.YtiocibllmaakkabDoorRows
import GoSem.ClaimSeven
namespace Go.Proofs.YtiocibllmaakkabDoor
namespace Rows

/-- THE TIED CARD OF 'vagabondlaw01.WordSizes'. -/
def wordSizesCard : Claim7 := { stood := { row := wordSizesRow, standIns := [], harness := (true, "7571091ffe3ef4175d9b7915e332f684980e3cba058fced7999b47008fce8fe1"), looks := false }, kinds := [], alts := [], laidByText := true, laidKinds := [.data, .data, .data], laidTests := true, laidLooks := .later }
def WordSizesCardSaid : Prop := Claim7.holds Tryd.pinned (.plain (OpenSpec.ofChange wordSizesSpec)) wordSizesCard

/-- THE SECOND FORM's CARD OF 'vagabondlaw01.WordSizes'. -/
def wordSizesUptoCard : Claim7 := { stood := { row := wordSizesUptoRow, standIns := [], harness := (true, "7571091ffe3ef4175d9b7915e332f684980e3cba058fced7999b47008fce8fe1"), looks := false }, kinds := [], alts := [], laidByText := true, laidKinds := [.data, .data, .data], laidTests := true, laidLooks := .later }
def WordSizesUptoCardSaid : Prop := Claim7.holds Tryd.pinned (.plain (OpenSpec.upto wordSizesSpec)) wordSizesUptoCard
end Rows
end Go.Proofs.YtiocibllmaakkabDoor
