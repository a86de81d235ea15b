/-
  A datagram, a part, a slice of parts that came in: opened.
-/
import Derived.Test.YtngoighdpmeepaaRows
import Derived.Deep.Strs
import Derived.Deep.Slices
import Derived.Deep.Fields
import Derived.Lib.SmallJoins
import Derived.OpenShut
import Derived.Below
namespace Go.Proofs.Ytngoighdpmeepaa
open Go.RowKit Go.WideShapes Go.ChangeShapes Go.Deep
set_option linter.unusedVariables false

theorem array6 {α : Type} {cs : Array α} (h : cs.size = 6) : ∃ c0 c1 c2 c3 c4 c5, cs = #[c0, c1, c2, c3, c4, c5] := by
  obtain ⟨l⟩ := cs
  match l, h with
  | [c0, c1, c2, c3, c4, c5], _ => exact ⟨c0, c1, c2, c3, c4, c5, rfl⟩

section
variable {H : Type} {enc : TypeId × Value → H} {P : Program} {w : World} {base : Nat} {spare : Nat → Bool} {held : Bool}

theorem trod_struct6 {t : TypeId} {f0 f1 f2 f3 f4 f5 : Field} {fuel : Nat} {cs : List Value} {x : DataW H × List MemPlace} (ht : P.underlying t = some (.struct #[f0, f1, f2, f3, f4, f5])) (h : DataW.trod enc P w base spare held fuel t cs = some x) :
    ∃ y0 y1 y2 y3 y4 y5 n, DataW.trod enc P w base spare held n f0.type ((cs.drop f0.offset).take (P.cellsOf f0.type)) = some y0 ∧
      DataW.trod enc P w base spare held n f1.type ((cs.drop f1.offset).take (P.cellsOf f1.type)) = some y1 ∧ DataW.trod enc P w base spare held n f2.type ((cs.drop f2.offset).take (P.cellsOf f2.type)) = some y2 ∧
      DataW.trod enc P w base spare held n f3.type ((cs.drop f3.offset).take (P.cellsOf f3.type)) = some y3 ∧ DataW.trod enc P w base spare held n f4.type ((cs.drop f4.offset).take (P.cellsOf f4.type)) = some y4 ∧ DataW.trod enc P w base spare held n f5.type ((cs.drop f5.offset).take (P.cellsOf f5.type)) = some y5 := by
  obtain ⟨xs, n, _, rfl, hl, hlen, hf⟩ := DataW.trod_struct ht h
  match xs, hlen with
  | [y0, y1, y2, y3, y4, y5], _ => exact ⟨y0, y1, y2, y3, y4, y5, n, by simpa using hf 0 f0 rfl, by simpa using hf 1 f1 rfl, by simpa using hf 2 f2 rfl, by simpa using hf 3 f3 rfl, by simpa using hf 4 f4 rfl, by simpa using hf 5 f5 rfl⟩

/-- The cells of a part that reads at its type. -/
theorem partCells {t : TypeId} {f0 f1 f2 f3 f4 f5 : Field} {fuel : Nat} {c0 c1 c2 c3 c4 c5 : Value} {x : DataW H × List MemPlace} (ht : P.underlying t = some (.struct #[f0, f1, f2, f3, f4, f5])) (hone : oneCellFields P #[f0, f1, f2, f3, f4, f5] = true)
    (u0 : P.underlying f0.type = some (.int .u16)) (u1 : P.underlying f1.type = some (.int .u16)) (u2 : P.underlying f2.type = some (.int .u64)) (u3 : P.underlying f3.type = some (.int .i64)) (u4 : P.underlying f4.type = some .bool) (u5 : P.underlying f5.type = some .string)
    (h : DataW.trod enc P w base spare held fuel t [c0, c1, c2, c3, c4, c5] = some x) :
    ∃ (st re nm : Nat) (ix : Int) (la : Bool) (tx : ByteArray), c0 = .int .u16 (st : Int) ∧ c1 = .int .u16 (re : Int) ∧ c2 = .int .u64 (nm : Int) ∧ c3 = .int .i64 ix ∧ c4 = .bool la ∧ c5 = .string tx ∧
      st < 65536 ∧ re < 65536 ∧ nm < 18446744073709551616 ∧ -9223372036854775808 ≤ ix ∧ ix ≤ 9223372036854775807 ∧ tx.size ≤ maxLen := by
  obtain ⟨y0, y1, y2, y3, y4, y5, n, g0, g1, g2, g3, g4, g5⟩ := trod_struct6 ht h
  obtain ⟨o0, k0⟩ := hone_of hone 0 f0 rfl
  obtain ⟨o1, k1⟩ := hone_of hone 1 f1 rfl
  obtain ⟨o2, k2⟩ := hone_of hone 2 f2 rfl
  obtain ⟨o3, k3⟩ := hone_of hone 3 f3 rfl
  obtain ⟨o4, k4⟩ := hone_of hone 4 f4 rfl
  obtain ⟨o5, k5⟩ := hone_of hone 5 f5 rfl
  simp [o0, k0] at g0
  simp [o1, k1] at g1
  simp [o2, k2] at g2
  simp [o3, k3] at g3
  simp [o4, k4] at g4
  simp [o5, k5] at g5
  obtain ⟨a0, e0, _, w0⟩ := DataW.trod_int u0 g0
  obtain ⟨a1, e1, _, w1⟩ := DataW.trod_int u1 g1
  obtain ⟨a2, e2, _, w2⟩ := DataW.trod_int u2 g2
  obtain ⟨a3, e3, _, w3⟩ := DataW.trod_int u3 g3
  obtain ⟨a4, e4, _⟩ := DataW.trod_bool u4 g4
  obtain ⟨a5, e5, _, w5⟩ := DataW.trod_string u5 g5
  simp at e0 e1 e2 e3 e4 e5
  subst e0; subst e1; subst e2; subst e3; subst e4; subst e5
  obtain ⟨p0, q0⟩ := Go.bounds_u16 w0
  obtain ⟨p1, q1⟩ := Go.bounds_u16 w1
  obtain ⟨p2, q2⟩ := Go.bounds_u64 w2
  obtain ⟨p3, q3⟩ := Go.bounds_i64 w3
  exact ⟨a0.toNat, a1.toNat, a2.toNat, a3, a4, a5, by rw [Int.toNat_of_nonneg p0], by rw [Int.toNat_of_nonneg p1], by rw [Int.toNat_of_nonneg p2], rfl, rfl, rfl, by omega, by omega, by omega, p3, q3, w5⟩

theorem openPart {r : Reach} {b0 : Nat} {t : TypeId} {f0 f1 f2 f3 f4 f5 : Field} {v : Value} {d : DataW H} {p : List MemPlace} (ht : P.underlying t = some (.struct #[f0, f1, f2, f3, f4, f5])) (hone : oneCellFields P #[f0, f1, f2, f3, f4, f5] = true) (hC : P.cellsOf t = 6)
    (u0 : P.underlying f0.type = some (.int .u16)) (u1 : P.underlying f1.type = some (.int .u16)) (u2 : P.underlying f2.type = some (.int .u64)) (u3 : P.underlying f3.type = some (.int .i64)) (u4 : P.underlying f4.type = some .bool) (u5 : P.underlying f5.type = some .string)
    (hv : Value.okWide P w r b0 t v) (h : DataW.Trod enc P w base spare held t v d p) :
    ∃ (st re nm : Nat) (ix : Int) (la : Bool) (tx : ByteArray), v = .agg #[.int .u16 (st : Int), .int .u16 (re : Int), .int .u64 (nm : Int), .int .i64 ix, .bool la, .string tx] ∧
      (st < 65536 ∧ re < 65536 ∧ nm < 18446744073709551616 ∧ -9223372036854775808 ≤ ix ∧ ix ≤ 9223372036854775807 ∧ tx.size ≤ maxLen) := by
  obtain ⟨cs, rfl, hsz⟩ := okWide_struct ht hv
  obtain ⟨c0, c1, c2, c3, c4, c5, rfl⟩ := array6 (hsz.trans hC)
  obtain ⟨fuel, hf⟩ := h
  simp only [Value.cells] at hf
  obtain ⟨st, re, nm, ix, la, tx, rfl, rfl, rfl, rfl, rfl, rfl, hh⟩ := partCells ht hone u0 u1 u2 u3 u4 u5 hf
  exact ⟨st, re, nm, ix, la, tx, rfl, hh⟩

theorem openDg {r : Reach} {b0 : Nat} {t : TypeId} {f0 f1 f2 : Field} {v : Value} {d : DataW H} {p : List MemPlace} (ht : P.underlying t = some (.struct #[f0, f1, f2])) (hone : oneCellFields P #[f0, f1, f2] = true) (hC : P.cellsOf t = 3)
    (u0 : P.underlying f0.type = some (.int .u64)) (u1 : P.underlying f1.type = some (.int .u64)) (u2 : P.underlying f2.type = some .string)
    (hv : Value.okWide P w r b0 t v) (h : DataW.Trod enc P w base spare held t v d p) :
    ∃ (id n : Nat) (s : ByteArray), v = .agg #[.int .u64 (id : Int), .int .u64 (n : Int), .string s] ∧ (id ≤ 18446744073709551615 ∧ n ≤ 18446744073709551615 ∧ s.size ≤ maxLen) := by
  obtain ⟨v0, v1, v2, y0, y1, y2, n, rfl, _, _, g0, g1, g2⟩ := Go.Joins.open_agg3 ht hone hC hv h
  obtain ⟨a0, e0, _, w0⟩ := DataW.trod_int u0 g0
  obtain ⟨a1, e1, _, w1⟩ := DataW.trod_int u1 g1
  obtain ⟨a2, e2, _, w2⟩ := DataW.trod_string u2 g2
  simp at e0 e1 e2
  subst e0; subst e1; subst e2
  obtain ⟨p0, q0⟩ := Go.bounds_u64 w0
  obtain ⟨p1, q1⟩ := Go.bounds_u64 w1
  exact ⟨a0.toNat, a1.toNat, a2, by rw [Int.toNat_of_nonneg p0, Int.toNat_of_nonneg p1], by omega, by omega, w2⟩
end

end Go.Proofs.Ytngoighdpmeepaa
