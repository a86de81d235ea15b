/-
  Layer 11: Size, Cursor, Cells, Same.
-/
import Derived.Test.YtekpbfbipkjibaaNMem
import Derived.Test.YtekpbfbipkjibaaNPlain
import Derived.Test.YtekpbfbipkjibaaShelf
import Derived.Laws.AppendOwn
import Derived.Test.YtekpbfbipkjibaaSLaws
namespace Go.Proofs.Ytekpbfbipkjibaa
open Go.RowKit
set_option linter.unusedVariables false
set_option maxRecDepth 20000

theorem infoStrN : (Try.prog.info? 9).map (fun i => (i.zero, i.size, i.bytes)) = some (some (.string ⟨#[]⟩), 1, 16) := by kernel_rfl
theorem infoN {P : Program} {t : TypeId} {z : Value} {a b : Nat} (h : (P.info? t).map (fun i => (i.zero, i.size, i.bytes)) = some (some z, a, b)) : ∃ i, P.info? t = some i ∧ i.zero = some z ∧ i.size = a ∧ i.bytes = b := by
  cases hq : P.info? t with
  | none => simp [hq] at h
  | some i => simp [hq] at h; exact ⟨i, rfl, h.1, h.2.1, h.2.2⟩
theorem ownN {w w' : World} {B e size n : Nat} {v : Value} {xs : List Value} (h : w.ownsRow B e size v n xs) (hb : Below w.heap.size w w') : w'.ownsRow B e size v n xs :=
  h.kept (row := none) ⟨hb.os, hb.tape, hb.output, hb.size, fun k hk _ => hb.block k hk⟩ (by cases v <;> simp [Value.ownBlock] <;> (rename_i a _ _; cases a <;> simp))
/-- strings.Clone. -/
theorem cloneN (s : ByteArray) (w : World) (hs : s.size ≤ 281474976710656) :
    Calls Try.prog 40 #[.string s] w fun e w' => e = .returned (.string s) ∧ Below w.heap.size w w' := by
  go_enter Try.func40, Try.ntmps40
  go_wp2_with (go_at_call 53; refine (Try.stringslite_Clone s _ hs).mono ?_; rintro e w' ⟨rfl, hb⟩)
  go_ret
  exact ⟨rfl, hb⟩
/-- A whole row loaded by an operation that may be guarded, where the guard says yes. -/
theorem wpList_rowG {P : Program} {ops : Array Oper} {rest : List Oper} {op : Oper} {a : Act} {w : World} {Q : Exit → Act → World → Prop} (hw : Region.wanted op (yielded ops a.tmps) = true) (ty : TypeId) (x : Operand) (ho : op.op = .load ty x)
    (g : Nat) (hx : a.eval x = .pointer (some ⟨g, 0, none⟩)) (t : TypeId) (l : List Value) (d : TypeDesc) (hg : Row w g t l) (hu : P.underlying ty = some d) (hd : d.isRow = true) (hi : (P.info? ty).map (·.size) = some l.length)
    (h : wpList P ops Q rest (a.put op.dst (.agg l.toArray)) w) : wpList P ops Q (op :: rest) a w :=
  wpList_step fun K hK => by simp only [hw, if_true]; exact wp_load_mid ty x ho g 0 hx l d hg.range hu hd hi (hK _ _ h)

/-- The cells of texts. -/
def txt (l : List (List UInt8)) : List Value := l.map fun x => Value.string ⟨x.toArray⟩
theorem txt_snoc (l : List (List UInt8)) (x : List UInt8) : txt (l ++ [x]) = txt l ++ [Value.string ⟨x.toArray⟩] := by simp [txt]
theorem txt_len (l : List (List UInt8)) : (txt l).length = l.length := by simp [txt]

set_option maxHeartbeats 2000000 in
theorem size_any (a b x y : Int) (c : ByteArray) (w : World) : Calls Try.prog 37 #[.agg #[.int .i64 a, .int .i64 b, .int .i64 x, .int .i64 y, .string c]] w fun e w' => e = .returned (.tuple #[.int .i64 a, .int .i64 b]) ∧ Below w.heap.size w w' := by
  go_enter Try.func37, Try.ntmps37
  go_wp2
  go_region
  go_wp2
  go_ret2
  exact ⟨rfl, ((Below.refl _ _).alloc (Nat.le_refl _) _).drew⟩

set_option maxHeartbeats 2000000 in
theorem cursor_any (a b x y : Int) (c : ByteArray) (w : World) : Calls Try.prog 20 #[.agg #[.int .i64 a, .int .i64 b, .int .i64 x, .int .i64 y, .string c]] w fun e w' => e = .returned (.tuple #[.int .i64 x, .int .i64 y]) ∧ Below w.heap.size w w' := by
  go_enter Try.func20, Try.ntmps20
  go_wp2
  go_region
  go_wp2
  go_ret2
  exact ⟨rfl, ((Below.refl _ _).alloc (Nat.le_refl _) _).drew⟩

set_option maxHeartbeats 2000000 in
theorem cells_any (a b x y : Int) (c : ByteArray) (hc : c.size ≤ 281474976710656) (w : World) : Calls Try.prog 21 #[.agg #[.int .i64 a, .int .i64 b, .int .i64 x, .int .i64 y, .string c]] w fun e w' => e = .returned (.string c) ∧ Below w.heap.size w w' := by
  have CC : Hid (∀ wx, Calls Try.prog 40 #[.string c] wx fun e w' => e = .returned (.string c) ∧ Below wx.heap.size wx w') := fun wx => cloneN c wx hc
  go_enter Try.func21, Try.ntmps21
  go_wp2_with fail
  refine (CC.out _).mono ?_
  rintro e w1 ⟨rfl, b1⟩
  have b2 := ((Below.refl w.heap.size w).alloc (Nat.le_refl _) (.cells #[.int .i64 a, .int .i64 b, .int .i64 x, .int .i64 y, .string c] 25 (0, 0))).trans (b1.mono (by simp))
  go_wp2
  go_ret
  exact ⟨rfl, b2⟩

set_option maxHeartbeats 2000000 in
theorem same_yes (a b x y : Int) (c : ByteArray) (w : World) : Calls Try.prog 11 #[.agg #[.int .i64 a, .int .i64 b, .int .i64 x, .int .i64 y, .string c], .agg #[.int .i64 a, .int .i64 b, .int .i64 x, .int .i64 y, .string c]] w fun e w' => e = .returned (.bool true) ∧ Below w.heap.size w w' := by
  go_enter Try.func11, Try.ntmps11
  go_wp2
  go_ret
  exact ⟨rfl, ((Below.refl _ _).alloc (Nat.le_refl _) _).alloc (by simp) _⟩

end Go.Proofs.Ytekpbfbipkjibaa
