/-
  Laws of no program: copy of a text into a row of bytes.
-/
import Derived.Test.YtbkeodgiflfakaaARows
import Derived.Laws.CopyOwn
import Derived.Lib.BufferWrite
namespace Go.Proofs.Ytbkeodgiflfakaa
open Go.RowKit
set_option linter.unusedVariables false
set_option maxRecDepth 20000

/-- copy(dst, s): as many bytes as both have. -/
theorem copyS_run {P : Program} (w : World) (dT sT ty elem : TypeId) (g o dLen dCap k : Nat) (s : ByteArray) (cur : List Value) (t : TypeId)
    (hu : P.underlying dT = some (.slice elem)) (hs : (P.info? elem).map (·.size) = some 1) (hg : w.heap[g]? = some (.cells cur.toArray t (0, 0))) (hk : Nat.min s.size dLen = k) (hfit : o + k ≤ cur.length) :
    (Builtin.copy_ #[dT, sT] ty #[.slice (some ⟨g, o, none⟩) dLen dCap, .string s]).run P w =
      .ok (goInt k) (w.setRow g (splice cur o (W.cellsOf (s.data.toList.take k))).toArray) := by
  have hks : k ≤ s.size := by rw [← hk]; exact Nat.min_le_left _ _
  have hlen : (W.cellsOf (s.data.toList.take k)).length = k := by rw [c8_len, List.length_take]; simp; omega
  have hst := run_storeCells_at P g o t (W.cellsOf (s.data.toList.take k)) 0 cur.toArray w hg (by rw [hlen]; simpa using hfit) (c8_one _)
  have htk : List.take k (List.map (fun b : UInt8 => Value.int IntKind.u8 (b.toNat : Int)) s.data.toList) = W.cellsOf (s.data.toList.take k) := by
    simp [W.cellsOf, List.map_take]
  rw [hlen] at hst
  simp only [Nat.add_zero] at hst
  cases hq : P.info? elem with
  | none => simp [hq] at hs
  | some i =>
    simp [Builtin.copy_, run_underlying hu, Builtin.lenOf, Builtin.firstCells, sizeOf, typeInfo, hq, hk]
    rw [htk, hst]
    simp [Result.andThen, splice, hlen]

theorem wp_copyS {P : Program} {o : Oper} {a : Act} {w : World} {K : Act → World → Prop} {Q : Exit → Act → World → Prop} (d x : Operand) (dT sT : TypeId)
    (ho : o.op = .call { callee := .builtin .copy, args := #[d, x], argTypes := #[dT, sT] }) (elem : TypeId) (hu : P.underlying dT = some (.slice elem)) (hs : (P.info? elem).map (·.size) = some 1)
    (g off dLen dCap k : Nat) (hd : a.eval d = .slice (some ⟨g, off, none⟩) dLen dCap) (s : ByteArray) (hx : a.eval x = .string s) (cur : List Value) (t : TypeId) (hg : Row w g t cur) (hk : Nat.min s.size dLen = k) (hfit : off + k ≤ cur.length)
    (h : K (a.put o.dst (goInt k)) (w.setRow g (splice cur off (W.cellsOf (s.data.toList.take k))).toArray)) : o.wp P a w K Q := by
  have hrun := copyS_run (P := P) w dT sT o.type elem g off dLen dCap k s cur t hu hs hg hk hfit
  unfold Oper.wp
  simp [execOp, ho, resolve, invoke, builtin, hd, hx, hrun, Result.andThen]
  exact h

theorem wpList_copyS {P : Program} {ops : Array Oper} {rest : List Oper} {o : Oper} {a : Act} {w : World} {Q : Exit → Act → World → Prop} (hgd : o.guard = none) (d x : Operand) (dT sT : TypeId)
    (ho : o.op = .call { callee := .builtin .copy, args := #[d, x], argTypes := #[dT, sT] }) (elem : TypeId) (hu : P.underlying dT = some (.slice elem)) (hs : (P.info? elem).map (·.size) = some 1)
    (g off dLen dCap k : Nat) (hd : a.eval d = .slice (some ⟨g, off, none⟩) dLen dCap) (s : ByteArray) (hx : a.eval x = .string s) (cur : List Value) (t : TypeId) (hg : Row w g t cur) (hk : Nat.min s.size dLen = k) (hfit : off + k ≤ cur.length)
    (h : wpList P ops Q rest (a.put o.dst (goInt k)) (w.setRow g (splice cur off (W.cellsOf (s.data.toList.take k))).toArray)) : wpList P ops Q (o :: rest) a w :=
  wpList_plain hgd fun _ hK => wp_copyS d x dT sT ho elem hu hs g off dLen dCap k hd s hx cur t hg hk hfit (hK _ _ h)

end Go.Proofs.Ytbkeodgiflfakaa
