/-
  Laws of no program: rows of bytes. (ARows, for a seat without aes.)
-/
import Derived.Test.YtngoighdpmeepaaRows
import Derived.Test.YtngoighdpmeepaaPlain
import Derived.Test.YtngoighdpmeepaaSWordsPlain
import Derived.WalkKit
import Derived.WalkSpells
import Derived.WalkLawsBesides
import Derived.Deep.QuietTactic
import Derived.BigQuiet
import Derived.OwnWalk
import Derived.RegionTactic
import Derived.Lib.Hide
namespace Go.Proofs.Ytngoighdpmeepaa
open Go.RowKit
set_option linter.unusedVariables false

theorem c8_at {b : List UInt8} {j : Nat} (h : j < b.length) : (W.cellsOf b)[j]? = some (Value.int .u8 ((b.getD j 0).toNat : Int)) := by simp [W.cellsOf, h]
theorem c8_set (l : List UInt8) (i : Nat) (x : UInt8) : (W.cellsOf l).set i (Value.int .u8 (x.toNat : Int)) = W.cellsOf (l.set i x) := by simp [W.cellsOf, List.map_set]
theorem c8_len (l : List UInt8) : (W.cellsOf l).length = l.length := by simp [W.cellsOf]
theorem c8_all (l : List UInt8) : (W.cellsOf l).toArray.all (·.oneCell') = true := by simp [W.cellsOf, Value.oneCell']
theorem c8_one (l : List UInt8) : ∀ v ∈ W.cellsOf l, v.oneCell' = true := by
  intro v hv
  obtain ⟨x, _, rfl⟩ := List.mem_map.1 hv
  rfl
theorem c8_append (a b : List UInt8) : W.cellsOf (a ++ b) = W.cellsOf a ++ W.cellsOf b := by simp [W.cellsOf]

end Go.Proofs.Ytngoighdpmeepaa
