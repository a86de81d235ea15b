/-
  Several texts in one module: SBuild.
-/
import Derived.Test.YtbkeodgiflfakaaMod9
import Derived.Test.YtbkeodgiflfakaaRows
import Derived.Shelf.Strings.Builder1
/-
  Layer 3: a strings.Builder's writers at this translation: one application of the kit's own theorem each (its laying tool can't tell the number of the empty interface here, which no body names).
-/
namespace Go.Proofs.Ytbkeodgiflfakaa
open Go.RowKit Go.Shelf
set_option linter.unusedVariables false
set_option maxRecDepth 20000

def bRen : Go.Shelf.Ren := ⟨fun | 167 => 90 | 240 => 52 | 276 => 62 | n => n, Try.lays156_ren.t, Try.lays156_ren.g⟩
theorem bX : Builder.Extra Try.prog bRen := { Try.Builder_Extra_156 with }
theorem bL : Lays.n167 Try.prog bRen := { Try.lays156 with
  f167 := Try.func90.trans (congrArg some (by kernel_rfl))
  t5 := bX.t5
  a5 := bX.a5
  z5 := bX.z5
  v5 := bX.v5 }

theorem writeByte_any (B b : Nat) (bs : List Value) (c : Int) (w : World) (h : Lib.IsBuilder 80 5 B b bs w) (hlen : bs.length + 1 ≤ 140737488355328) (hBw : B ≤ w.heap.size) :
    Calls Try.prog 90 #[.pointer (some ⟨b, 0, none⟩), .int .u8 c] w fun e w' => e = .returned .nilIface ∧ (Lib.BuilderAt 80 5 B b (.pointer (some ⟨b, 0, none⟩)) (bs ++ [.int .u8 c]) w' ∧ Below B w w') :=
  Any.Builder_WriteByte bL bX B b bs c w h hlen hBw

theorem writeString_any (B b : Nat) (bs : List Value) (s : ByteArray) (w : World) (h : Lib.IsBuilder 80 5 B b bs w) (hlen : bs.length + s.size ≤ 140737488355328) (hBw : B ≤ w.heap.size) :
    Calls Try.prog 37 #[.pointer (some ⟨b, 0, none⟩), .string s] w fun e w' => e = .returned (.tuple #[.int .i64 s.size, .nilIface]) ∧ (Lib.BuilderAt 80 5 B b (.pointer (some ⟨b, 0, none⟩)) (bs ++ Lib.strCells s) w' ∧ Below B w w') :=
  Any.Builder_WriteString (ρ := Try.lays156_ren) { Try.lays156 with } Try.Builder_Extra_156 B b bs s w h hlen hBw

end Go.Proofs.Ytbkeodgiflfakaa
