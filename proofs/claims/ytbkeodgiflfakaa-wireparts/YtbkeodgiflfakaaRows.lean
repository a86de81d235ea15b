/-
  No cell of these rows narrows 'for every input' (looked for: loops, veiled, ifaces, maps, wideKeys, modest, calm, conditions, laid).
  DERIVED. THE GIVEN ROWS OF THIS SEAT. 4 by the template 'for every input the law returns true; each argument reads behind the call as it read before'; 0 by the template 'total and deterministic' (their statements: YtbkeodgiflfakaaTotals.lean).
  GIVEN WITH THE SEED: the statements are not yours to turn. If you find one false, say at which input.
  Laid BY PROGRAM, IN A SANDBOX (cutbox-rows.mjs): the forced cells as the released guide's own fill.sh prints them over the translation d91cab963fe79c8a… (all of the seat's roots in one cut). By AI agents, Wed Nov 11 2026. No macro, syntax, notation, axiom, sorry.
-/
import Derived.Test.YtbkeodgiflfakaaChecked
import GoSem.Claim
import GoSem.ClaimJoined
import GoSem.ClaimMapViews
import Derived.JoinedTies
import Derived.KernelRfl
namespace Go.Proofs.Ytbkeodgiflfakaa
/- THE CELL 'sum', in the pinned program and in every row, IS THE sha256 OF THE DUMP (.gsa) THAT YtbkeodgiflfakaaProg.lean LOADS. Nothing in Lean hashes anything: it is a label: what it is worth is what the hold of that sum in a sandbox is worth. -/
noncomputable def Try.pinned : Pinned := { name := "ytbkeodgiflfakaa", sum := "d91cab963fe79c8a0d17dfed67168d1fe3ed08a3c0dc56985d13e4e53e0b6bba", checked := Try.checked }
namespace Rows
def none {H : Type} : Left H := { results := [], args := [] }

/-- 'vagabondlaw09.WireDatagrams': WHATEVER THE INPUT: true; the input reads as it did. -/
def wireDatagramsSpec : ChangeSpec := { name := "wireDatagrams", fn := fun _ => fun
  | [d1, d2] => { results := [.lit (.bool true)], args := [d1, d2] }
  | _ => none }
def wireDatagramsRow : OpenClaim := { program := "ytbkeodgiflfakaa", sum := "d91cab963fe79c8a0d17dfed67168d1fe3ed08a3c0dc56985d13e4e53e0b6bba", func := "vagabond/vagabondlaw09.WireDatagrams", spec := "wireDatagrams", inPlace := ["internal/abi.NoEscape", "internal/bytealg.MakeNoZero"], unfollowed := true, recurses := true, apart := false }
def WireDatagramsSaid : Prop := wireDatagramsRow.holds Try.pinned (OpenSpec.ofChange wireDatagramsSpec)

/-- ITS FALSE NEIGHBOUR: 'it returns false'. Refute it at one input. -/
def wireDatagramsWrong : ChangeSpec := { name := "wireDatagrams", fn := fun _ => fun
  | [d1, d2] => { results := [.lit (.bool false)], args := [d1, d2] }
  | _ => none }
def WireDatagramsWrongFalsely : Prop := wireDatagramsRow.holds Try.pinned (OpenSpec.ofChange wireDatagramsWrong)

/-- 'vagabondlaw09.WireParts': WHATEVER THE INPUT: true; the input reads as it did. -/
def wirePartsSpec : ChangeSpec := { name := "wireParts", fn := fun _ => fun
  | [d1, d2] => { results := [.lit (.bool true)], args := [d1, d2] }
  | _ => none }
def wirePartsRow : OpenClaim := { program := "ytbkeodgiflfakaa", sum := "d91cab963fe79c8a0d17dfed67168d1fe3ed08a3c0dc56985d13e4e53e0b6bba", func := "vagabond/vagabondlaw09.WireParts", spec := "wireParts", inPlace := ["internal/abi.NoEscape", "internal/bytealg.MakeNoZero"], unfollowed := true, recurses := true, apart := false }
def WirePartsSaid : Prop := wirePartsRow.holds Try.pinned (OpenSpec.ofChange wirePartsSpec)

/-- ITS FALSE NEIGHBOUR: 'it returns false'. Refute it at one input. -/
def wirePartsWrong : ChangeSpec := { name := "wireParts", fn := fun _ => fun
  | [d1, d2] => { results := [.lit (.bool false)], args := [d1, d2] }
  | _ => none }
def WirePartsWrongFalsely : Prop := wirePartsRow.holds Try.pinned (OpenSpec.ofChange wirePartsWrong)

/-- 'vagabondlaw09.WireRooms': WHATEVER THE INPUT: true; the input reads as it did. -/
def wireRoomsSpec : ChangeSpec := { name := "wireRooms", fn := fun _ => fun
  | [d1, d2, d3] => { results := [.lit (.bool true)], args := [d1, d2, d3] }
  | _ => none }
def wireRoomsRow : OpenClaim := { program := "ytbkeodgiflfakaa", sum := "d91cab963fe79c8a0d17dfed67168d1fe3ed08a3c0dc56985d13e4e53e0b6bba", func := "vagabond/vagabondlaw09.WireRooms", spec := "wireRooms", inPlace := ["internal/abi.NoEscape", "internal/bytealg.MakeNoZero"], unfollowed := true, recurses := true, apart := false }
def WireRoomsSaid : Prop := wireRoomsRow.holds Try.pinned (OpenSpec.ofChange wireRoomsSpec)

/-- ITS FALSE NEIGHBOUR: 'it returns false'. Refute it at one input. -/
def wireRoomsWrong : ChangeSpec := { name := "wireRooms", fn := fun _ => fun
  | [d1, d2, d3] => { results := [.lit (.bool false)], args := [d1, d2, d3] }
  | _ => none }
def WireRoomsWrongFalsely : Prop := wireRoomsRow.holds Try.pinned (OpenSpec.ofChange wireRoomsWrong)

/-- 'vagabondlaw09.WireSealed': WHATEVER THE INPUT: true; the input reads as it did. -/
def wireSealedSpec : ChangeSpec := { name := "wireSealed", fn := fun _ => fun
  | [d1, d2, d3, d4, d5] => { results := [.lit (.bool true)], args := [d1, d2, d3, d4, d5] }
  | _ => none }
def wireSealedRow : OpenClaim := { program := "ytbkeodgiflfakaa", sum := "d91cab963fe79c8a0d17dfed67168d1fe3ed08a3c0dc56985d13e4e53e0b6bba", func := "vagabond/vagabondlaw09.WireSealed", spec := "wireSealed", inPlace := ["internal/abi.NoEscape", "internal/bytealg.MakeNoZero"], unfollowed := true, recurses := true, apart := false }
def WireSealedSaid : Prop := wireSealedRow.holds Try.pinned (OpenSpec.ofChange wireSealedSpec)

/-- ITS FALSE NEIGHBOUR: 'it returns false'. Refute it at one input. -/
def wireSealedWrong : ChangeSpec := { name := "wireSealed", fn := fun _ => fun
  | [d1, d2, d3, d4, d5] => { results := [.lit (.bool false)], args := [d1, d2, d3, d4, d5] }
  | _ => none }
def WireSealedWrongFalsely : Prop := wireSealedRow.holds Try.pinned (OpenSpec.ofChange wireSealedWrong)

/- THE SECOND FORM. 'bulk': how many values and letters a reading holds, each counted each time it is reached (what is shared counts as often as it is met; a slice's spare places count too). A statement '..UptoSaid' is the law's where the arguments, and the package variables that the reading takes, are together of bulk at most 1048576: NARROWER than '..Said'. Prove '..Said' where nothing that the law and all that it calls make is longer than what came in: it says more and counts as full. Else prove '..UptoSaid'. A law counts once. -/
mutual
def uptoBulk {H : Type} : DataW H → Nat
  | .lit (.string bytes) => bytes.length + 1
  | .lit _ => 1
  | .nil => 1
  | .ptr d => uptoBulk d + 1
  | .slice elems spare => uptoBulkAll elems + uptoBulkAll spare + 1
  | .agg parts => uptoBulkAll parts + 1
  | .iface _ d => uptoBulk d + 1
  | .map entries => uptoBulkEntries entries + 1
  | .held _ => 1
def uptoBulkAll {H : Type} : List (DataW H) → Nat
  | [] => 0
  | d :: r => uptoBulk d + uptoBulkAll r
def uptoBulkEntries {H : Type} : List (Lit × DataW H) → Nat
  | [] => 0
  | x :: r => uptoBulkEntry x + uptoBulkEntries r
def uptoBulkEntry {H : Type} : Lit × DataW H → Nat
  | (.string bytes, d) => bytes.length + uptoBulk d + 1
  | (_, d) => uptoBulk d + 1
 end
def uptoSmall : (H : Type) → List (DataW H) → Bool := fun _ ds => decide (uptoBulkAll ds ≤ 1048576)
def OpenSpec.upto (s : _root_.Go.ChangeSpec) : _root_.Go.OpenSpec := { _root_.Go.OpenSpec.ofChange s with cond := some uptoSmall }

/-- 'vagabondlaw09.WireDatagrams', WHERE WHAT IT READS IS OF BULK AT MOST 1048576: true; the input reads as it did. -/
def wireDatagramsUptoRow : OpenClaim := { program := "ytbkeodgiflfakaa", sum := "d91cab963fe79c8a0d17dfed67168d1fe3ed08a3c0dc56985d13e4e53e0b6bba", func := "vagabond/vagabondlaw09.WireDatagrams", spec := "wireDatagrams", inPlace := ["internal/abi.NoEscape", "internal/bytealg.MakeNoZero"], unfollowed := true, recurses := true, apart := false, narrowed := true }
def WireDatagramsUptoSaid : Prop := wireDatagramsUptoRow.holds Try.pinned (OpenSpec.upto wireDatagramsSpec)

/-- 'vagabondlaw09.WireParts', WHERE WHAT IT READS IS OF BULK AT MOST 1048576: true; the input reads as it did. -/
def wirePartsUptoRow : OpenClaim := { program := "ytbkeodgiflfakaa", sum := "d91cab963fe79c8a0d17dfed67168d1fe3ed08a3c0dc56985d13e4e53e0b6bba", func := "vagabond/vagabondlaw09.WireParts", spec := "wireParts", inPlace := ["internal/abi.NoEscape", "internal/bytealg.MakeNoZero"], unfollowed := true, recurses := true, apart := false, narrowed := true }
def WirePartsUptoSaid : Prop := wirePartsUptoRow.holds Try.pinned (OpenSpec.upto wirePartsSpec)

/-- 'vagabondlaw09.WireRooms', WHERE WHAT IT READS IS OF BULK AT MOST 1048576: true; the input reads as it did. -/
def wireRoomsUptoRow : OpenClaim := { program := "ytbkeodgiflfakaa", sum := "d91cab963fe79c8a0d17dfed67168d1fe3ed08a3c0dc56985d13e4e53e0b6bba", func := "vagabond/vagabondlaw09.WireRooms", spec := "wireRooms", inPlace := ["internal/abi.NoEscape", "internal/bytealg.MakeNoZero"], unfollowed := true, recurses := true, apart := false, narrowed := true }
def WireRoomsUptoSaid : Prop := wireRoomsUptoRow.holds Try.pinned (OpenSpec.upto wireRoomsSpec)

/-- 'vagabondlaw09.WireSealed', WHERE WHAT IT READS IS OF BULK AT MOST 1048576: true; the input reads as it did. -/
def wireSealedUptoRow : OpenClaim := { program := "ytbkeodgiflfakaa", sum := "d91cab963fe79c8a0d17dfed67168d1fe3ed08a3c0dc56985d13e4e53e0b6bba", func := "vagabond/vagabondlaw09.WireSealed", spec := "wireSealed", inPlace := ["internal/abi.NoEscape", "internal/bytealg.MakeNoZero"], unfollowed := true, recurses := true, apart := false, narrowed := true }
def WireSealedUptoSaid : Prop := wireSealedUptoRow.holds Try.pinned (OpenSpec.upto wireSealedSpec)

end Rows
end Go.Proofs.Ytbkeodgiflfakaa
