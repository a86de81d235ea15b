/-
  DERIVED. GIVEN WITH THE SEED: THE CARDS: each row of YtajpgjbdemadgaaDoorRows.lean that lists a variable, with what it lists TIED to the program's text (the seventh form; the later family's looks); each row that meets fmt, with fmt's text TOLD by the authors' own Lean function (tested against real Go, not proved from fmt's source: count such statements apart). THE CARD IS WHAT COUNTS. Prove the row's statement (the work); the ties are given (YtajpgjbdemadgaaDoorTie.lean); close each card by the builder's one call (the guide's Derived/Test/ToyasCard.lean, 'card_holds'). Laid BY PROGRAM, IN A SANDBOX (cutbox-door.mjs). By AI agents, Wed Nov 11 2026. No macro, syntax, notation, axiom, sorry.
-/
import Derived.Test.YtajpgjbdemadgaaDoorRows
import GoSem.ClaimSeven
namespace Go.Proofs.YtajpgjbdemadgaaDoor
namespace Rows

/-- THE TIED CARD OF 'vagabondlaw02.RealOrder'. -/
def realOrderCard : Claim7 := { stood := { row := realOrderRow, standIns := [], harness := (true, "b9708677be17ebbb557d7acd0bac4ec06725a61c5c6864040ca29302b9458986"), looks := false }, kinds := [], alts := [], laidByText := true, laidKinds := [.data, .data, .data, .data, .pinned, .pinned], laidTests := true, laidLooks := .later }
def RealOrderCardSaid : Prop := Claim7.holds Tryd.pinned (.plain (OpenSpec.ofChange realOrderSpec)) realOrderCard

/-- THE TIED CARD OF 'vagabondlaw02.RealBytes'. -/
def realBytesCard : Claim7 := { stood := { row := realBytesRow, standIns := [], harness := (true, "b9708677be17ebbb557d7acd0bac4ec06725a61c5c6864040ca29302b9458986"), looks := false }, kinds := [], alts := [], laidByText := true, laidKinds := [.data, .data, .data, .data, .pinned, .pinned], laidTests := true, laidLooks := .later }
def RealBytesCardSaid : Prop := Claim7.holds Tryd.pinned (.plain (OpenSpec.ofChange realBytesSpec)) realBytesCard

/-- THE TIED CARD OF 'vagabondlaw02.RealHolds'. -/
def realHoldsCard : Claim7 := { stood := { row := realHoldsRow, standIns := [], harness := (true, "b9708677be17ebbb557d7acd0bac4ec06725a61c5c6864040ca29302b9458986"), looks := false }, kinds := [], alts := [], laidByText := true, laidKinds := [.data, .data, .data, .data, .pinned, .pinned], laidTests := true, laidLooks := .later }
def RealHoldsCardSaid : Prop := Claim7.holds Tryd.pinned (.plain (OpenSpec.ofChange realHoldsSpec)) realHoldsCard

/-- THE TIED CARD OF 'vagabondlaw02.RealHeld'. -/
def realHeldCard : Claim7 := { stood := { row := realHeldRow, standIns := [], harness := (true, "b9708677be17ebbb557d7acd0bac4ec06725a61c5c6864040ca29302b9458986"), looks := false }, kinds := [], alts := [], laidByText := true, laidKinds := [.data, .data, .data, .data, .pinned, .pinned], laidTests := true, laidLooks := .later }
def RealHeldCardSaid : Prop := Claim7.holds Tryd.pinned (.plain (OpenSpec.ofChange realHeldSpec)) realHeldCard

/-- THE TIED CARD OF 'vagabondlaw02.RealRatios'. -/
def realRatiosCard : Claim7 := { stood := { row := realRatiosRow, standIns := [], harness := (true, "b9708677be17ebbb557d7acd0bac4ec06725a61c5c6864040ca29302b9458986"), looks := false }, kinds := [], alts := [], laidByText := true, laidKinds := [.data, .data, .data, .data, .pinned, .pinned], laidTests := true, laidLooks := .later }
def RealRatiosCardSaid : Prop := Claim7.holds Tryd.pinned (.plain (OpenSpec.ofChange realRatiosSpec)) realRatiosCard

/-- THE SECOND FORM's CARD OF 'vagabondlaw02.RealOrder'. -/
def realOrderUptoCard : Claim7 := { stood := { row := realOrderUptoRow, standIns := [], harness := (true, "b9708677be17ebbb557d7acd0bac4ec06725a61c5c6864040ca29302b9458986"), looks := false }, kinds := [], alts := [], laidByText := true, laidKinds := [.data, .data, .data, .data, .pinned, .pinned], laidTests := true, laidLooks := .later }
def RealOrderUptoCardSaid : Prop := Claim7.holds Tryd.pinned (.plain (OpenSpec.upto realOrderSpec)) realOrderUptoCard

/-- THE SECOND FORM's CARD OF 'vagabondlaw02.RealBytes'. -/
def realBytesUptoCard : Claim7 := { stood := { row := realBytesUptoRow, standIns := [], harness := (true, "b9708677be17ebbb557d7acd0bac4ec06725a61c5c6864040ca29302b9458986"), looks := false }, kinds := [], alts := [], laidByText := true, laidKinds := [.data, .data, .data, .data, .pinned, .pinned], laidTests := true, laidLooks := .later }
def RealBytesUptoCardSaid : Prop := Claim7.holds Tryd.pinned (.plain (OpenSpec.upto realBytesSpec)) realBytesUptoCard

/-- THE SECOND FORM's CARD OF 'vagabondlaw02.RealHolds'. -/
def realHoldsUptoCard : Claim7 := { stood := { row := realHoldsUptoRow, standIns := [], harness := (true, "b9708677be17ebbb557d7acd0bac4ec06725a61c5c6864040ca29302b9458986"), looks := false }, kinds := [], alts := [], laidByText := true, laidKinds := [.data, .data, .data, .data, .pinned, .pinned], laidTests := true, laidLooks := .later }
def RealHoldsUptoCardSaid : Prop := Claim7.holds Tryd.pinned (.plain (OpenSpec.upto realHoldsSpec)) realHoldsUptoCard

/-- THE SECOND FORM's CARD OF 'vagabondlaw02.RealHeld'. -/
def realHeldUptoCard : Claim7 := { stood := { row := realHeldUptoRow, standIns := [], harness := (true, "b9708677be17ebbb557d7acd0bac4ec06725a61c5c6864040ca29302b9458986"), looks := false }, kinds := [], alts := [], laidByText := true, laidKinds := [.data, .data, .data, .data, .pinned, .pinned], laidTests := true, laidLooks := .later }
def RealHeldUptoCardSaid : Prop := Claim7.holds Tryd.pinned (.plain (OpenSpec.upto realHeldSpec)) realHeldUptoCard

/-- THE SECOND FORM's CARD OF 'vagabondlaw02.RealRatios'. -/
def realRatiosUptoCard : Claim7 := { stood := { row := realRatiosUptoRow, standIns := [], harness := (true, "b9708677be17ebbb557d7acd0bac4ec06725a61c5c6864040ca29302b9458986"), looks := false }, kinds := [], alts := [], laidByText := true, laidKinds := [.data, .data, .data, .data, .pinned, .pinned], laidTests := true, laidLooks := .later }
def RealRatiosUptoCardSaid : Prop := Claim7.holds Tryd.pinned (.plain (OpenSpec.upto realRatiosSpec)) realRatiosUptoCard
end Rows
end Go.Proofs.YtajpgjbdemadgaaDoor
