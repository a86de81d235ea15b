/-
  DERIVED. GIVEN WITH THE SEED: THE CARDS: each row of YtdcpacdfbbdnlaaDoorRows.lean that lists a variable, with what it lists TIED to the program's text (the seventh form; the later family's looks); each row that meets fmt, with fmt's text TOLD by the authors' own Lean function (tested against real Go, not proved from fmt's source: count such statements apart). THE CARD IS WHAT COUNTS. Prove the row's statement (the work); the ties are given (YtdcpacdfbbdnlaaDoorTie.lean); close each card by the builder's one call (the guide's Derived/Test/ToyasCard.lean, 'card_holds'). Laid BY PROGRAM, IN A SANDBOX (cutbox-door.mjs). By AI agents, Wed Nov 11 2026. No macro, syntax, notation, axiom, sorry.
-/
import Derived.Test.YtdcpacdfbbdnlaaDoorRows
import GoSem.ClaimSeven
namespace Go.Proofs.YtdcpacdfbbdnlaaDoor
namespace Rows

/-- THE TIED CARD OF 'vagabondlaw14.ClockTold'. -/
def clockToldCard : Claim7 := { stood := { row := clockToldRow, standIns := [], harness := (true, "1e0b213967c22ab7e949307b8cc9045c2446ac070a5a7c38f5e1a1ef8ec196a3"), looks := false }, kinds := [], alts := [], laidByText := true, laidKinds := [.data, .data, .data, .data, .pinned, .pinned], laidTests := true, laidLooks := .later }
def ClockToldCardSaid : Prop := Claim7.holds Tryd.pinned (.plain (OpenSpec.ofChange clockToldSpec)) clockToldCard

/-- THE TIED CARD OF 'vagabondlaw14.ClockStamps'. -/
def clockStampsCard : Claim7 := { stood := { row := clockStampsRow, standIns := [], harness := (true, "1e0b213967c22ab7e949307b8cc9045c2446ac070a5a7c38f5e1a1ef8ec196a3"), looks := false }, kinds := [], alts := [], laidByText := true, laidKinds := [.data, .data, .data, .data, .pinned, .pinned], laidTests := true, laidLooks := .later }
def ClockStampsCardSaid : Prop := Claim7.holds Tryd.pinned (.plain (OpenSpec.ofChange clockStampsSpec)) clockStampsCard

/-- THE TIED CARD OF 'vagabondlaw14.ClockSteady'. -/
def clockSteadyCard : Claim7 := { stood := { row := clockSteadyRow, standIns := [], harness := (true, "1e0b213967c22ab7e949307b8cc9045c2446ac070a5a7c38f5e1a1ef8ec196a3"), looks := false }, kinds := [], alts := [], laidByText := true, laidKinds := [.data, .data, .data, .data, .pinned, .pinned], laidTests := true, laidLooks := .later }
def ClockSteadyCardSaid : Prop := Claim7.holds Tryd.pinned (.plain (OpenSpec.ofChange clockSteadySpec)) clockSteadyCard

/-- THE TIED CARD OF 'vagabondlaw14.ClockCuts'. -/
def clockCutsCard : Claim7 := { stood := { row := clockCutsRow, standIns := [], harness := (true, "1e0b213967c22ab7e949307b8cc9045c2446ac070a5a7c38f5e1a1ef8ec196a3"), looks := false }, kinds := [], alts := [], laidByText := true, laidKinds := [.data, .data, .data, .data, .pinned, .pinned], laidTests := true, laidLooks := .later }
def ClockCutsCardSaid : Prop := Claim7.holds Tryd.pinned (.plain (OpenSpec.ofChange clockCutsSpec)) clockCutsCard

/-- THE SECOND FORM's CARD OF 'vagabondlaw14.ClockTold'. -/
def clockToldUptoCard : Claim7 := { stood := { row := clockToldUptoRow, standIns := [], harness := (true, "1e0b213967c22ab7e949307b8cc9045c2446ac070a5a7c38f5e1a1ef8ec196a3"), looks := false }, kinds := [], alts := [], laidByText := true, laidKinds := [.data, .data, .data, .data, .pinned, .pinned], laidTests := true, laidLooks := .later }
def ClockToldUptoCardSaid : Prop := Claim7.holds Tryd.pinned (.plain (OpenSpec.upto clockToldSpec)) clockToldUptoCard

/-- THE SECOND FORM's CARD OF 'vagabondlaw14.ClockStamps'. -/
def clockStampsUptoCard : Claim7 := { stood := { row := clockStampsUptoRow, standIns := [], harness := (true, "1e0b213967c22ab7e949307b8cc9045c2446ac070a5a7c38f5e1a1ef8ec196a3"), looks := false }, kinds := [], alts := [], laidByText := true, laidKinds := [.data, .data, .data, .data, .pinned, .pinned], laidTests := true, laidLooks := .later }
def ClockStampsUptoCardSaid : Prop := Claim7.holds Tryd.pinned (.plain (OpenSpec.upto clockStampsSpec)) clockStampsUptoCard

/-- THE SECOND FORM's CARD OF 'vagabondlaw14.ClockSteady'. -/
def clockSteadyUptoCard : Claim7 := { stood := { row := clockSteadyUptoRow, standIns := [], harness := (true, "1e0b213967c22ab7e949307b8cc9045c2446ac070a5a7c38f5e1a1ef8ec196a3"), looks := false }, kinds := [], alts := [], laidByText := true, laidKinds := [.data, .data, .data, .data, .pinned, .pinned], laidTests := true, laidLooks := .later }
def ClockSteadyUptoCardSaid : Prop := Claim7.holds Tryd.pinned (.plain (OpenSpec.upto clockSteadySpec)) clockSteadyUptoCard

/-- THE SECOND FORM's CARD OF 'vagabondlaw14.ClockCuts'. -/
def clockCutsUptoCard : Claim7 := { stood := { row := clockCutsUptoRow, standIns := [], harness := (true, "1e0b213967c22ab7e949307b8cc9045c2446ac070a5a7c38f5e1a1ef8ec196a3"), looks := false }, kinds := [], alts := [], laidByText := true, laidKinds := [.data, .data, .data, .data, .pinned, .pinned], laidTests := true, laidLooks := .later }
def ClockCutsUptoCardSaid : Prop := Claim7.holds Tryd.pinned (.plain (OpenSpec.upto clockCutsSpec)) clockCutsUptoCard
end Rows
end Go.Proofs.YtdcpacdfbbdnlaaDoor
