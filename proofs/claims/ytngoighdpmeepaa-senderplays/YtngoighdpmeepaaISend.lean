/-
  Acts of layer 15 (six cells), instructions (five cells), and slices of each, that came in: opened.
-/
import Derived.Test.YtngoighdpmeepaaIPart
import Derived.Deep.MidRow
namespace Go.Proofs.Ytngoighdpmeepaa
open Go.RowKit Go.WideShapes Go.ChangeShapes Go.Deep
set_option linter.unusedVariables false

theorem array5 {α : Type} {cs : Array α} (h : cs.size = 5) : ∃ c0 c1 c2 c3 c4, cs = #[c0, c1, c2, c3, c4] := by
  obtain ⟨l⟩ := cs
  match l, h with
  | [c0, c1, c2, c3, c4], _ => exact ⟨c0, c1, c2, c3, c4, rfl⟩
/-- An act's cells. -/
def act6 (d n la wa be : Nat) (s : ByteArray) : List Value := [.int .u8 (d : Int), .string s, .int .u64 (n : Int), .int .u64 (la : Int), .int .u64 (wa : Int), .int .u64 (be : Int)]
/-- An instruction's cells. -/
def ins5 (o n a t : Nat) (s : ByteArray) : List Value := [.int .u64 (o : Int), .int .u64 (n : Int), .int .u64 (a : Int), .int .u64 (t : Int), .string s]
def InActs6 (w : World) (a : Option Addr) (len cap : Nat) : Prop :=
  len ≤ cap ∧ cap ≤ maxLen ∧ (0 < len → ∃ b off, a = some ⟨b, off, none⟩ ∧ b < w.heap.size ∧ ∀ i, i < len → ∃ (d n la wa be : Nat) (s : ByteArray), (d < 256 ∧ n ≤ 18446744073709551615 ∧ la ≤ 18446744073709551615 ∧ wa ≤ 18446744073709551615 ∧ be ≤ 18446744073709551615 ∧ s.size ≤ maxLen) ∧ w.rangeAt b (off + i * 6) (act6 d n la wa be s))
def InIns5 (w : World) (a : Option Addr) (len cap : Nat) : Prop :=
  len ≤ cap ∧ cap ≤ maxLen ∧ (0 < len → ∃ b off, a = some ⟨b, off, none⟩ ∧ b < w.heap.size ∧ ∀ i, i < len → ∃ (o n a t : Nat) (s : ByteArray), (o ≤ 18446744073709551615 ∧ n ≤ 18446744073709551615 ∧ a ≤ 18446744073709551615 ∧ t ≤ 18446744073709551615 ∧ s.size ≤ maxLen) ∧ w.rangeAt b (off + i * 5) (ins5 o n a t s))
theorem rangeBelow {w w' : World} {b o B : Nat} {cs : List Value} (h : w.rangeAt b o cs) (hb : Below B w w') (hB : b < B) : w'.rangeAt b o cs := fun j v hj => (hb.cell (p := ⟨b, _, none⟩) hB).trans (h j v hj)
theorem InActs6.below {w w' : World} {a : Option Addr} {len cap : Nat} (h : InActs6 w a len cap) (hb : Below w.heap.size w w') : InActs6 w' a len cap := by
  refine ⟨h.1, h.2.1, fun h0 => ?_⟩
  obtain ⟨b, off, rfl, hlt, he⟩ := h.2.2 h0
  refine ⟨b, off, rfl, Nat.lt_of_lt_of_le hlt hb.size, fun i hi => ?_⟩
  obtain ⟨d, n, la, wa, be, s, h1, h2⟩ := he i hi
  exact ⟨d, n, la, wa, be, s, h1, rangeBelow h2 hb hlt⟩
theorem InIns5.below {w w' : World} {a : Option Addr} {len cap : Nat} (h : InIns5 w a len cap) (hb : Below w.heap.size w w') : InIns5 w' a len cap := by
  refine ⟨h.1, h.2.1, fun h0 => ?_⟩
  obtain ⟨b, off, rfl, hlt, he⟩ := h.2.2 h0
  refine ⟨b, off, rfl, Nat.lt_of_lt_of_le hlt hb.size, fun i hi => ?_⟩
  obtain ⟨d, n, la, wa, s, h1, h2⟩ := he i hi
  exact ⟨d, n, la, wa, s, h1, rangeBelow h2 hb hlt⟩

section
variable {H : Type} {enc : TypeId × Value → H} {P : Program} {w : World} {base : Nat} {spare : Nat → Bool} {held : Bool}

theorem trod_struct5 {t : TypeId} {f0 f1 f2 f3 f4 : Field} {fuel : Nat} {cs : List Value} {x : DataW H × List MemPlace} (ht : P.underlying t = some (.struct #[f0, f1, f2, f3, f4])) (h : DataW.trod enc P w base spare held fuel t cs = some x) :
    ∃ y0 y1 y2 y3 y4 n, DataW.trod enc P w base spare held n f0.type ((cs.drop f0.offset).take (P.cellsOf f0.type)) = some y0 ∧
      DataW.trod enc P w base spare held n f1.type ((cs.drop f1.offset).take (P.cellsOf f1.type)) = some y1 ∧ DataW.trod enc P w base spare held n f2.type ((cs.drop f2.offset).take (P.cellsOf f2.type)) = some y2 ∧
      DataW.trod enc P w base spare held n f3.type ((cs.drop f3.offset).take (P.cellsOf f3.type)) = some y3 ∧ DataW.trod enc P w base spare held n f4.type ((cs.drop f4.offset).take (P.cellsOf f4.type)) = some y4 := by
  obtain ⟨xs, n, _, rfl, hl, hlen, hf⟩ := DataW.trod_struct ht h
  match xs, hlen with
  | [y0, y1, y2, y3, y4], _ => exact ⟨y0, y1, y2, y3, y4, n, by simpa using hf 0 f0 rfl, by simpa using hf 1 f1 rfl, by simpa using hf 2 f2 rfl, by simpa using hf 3 f3 rfl, by simpa using hf 4 f4 rfl⟩

theorem actCells {t : TypeId} {f0 f1 f2 f3 f4 f5 : Field} {fuel : Nat} {cs : List Value} {x : DataW H × List MemPlace} (ht : P.underlying t = some (.struct #[f0, f1, f2, f3, f4, f5])) (hone : oneCellFields P #[f0, f1, f2, f3, f4, f5] = true)
    (u0 : P.underlying f0.type = some (.int .u8)) (u1 : P.underlying f1.type = some .string) (u2 : P.underlying f2.type = some (.int .u64)) (u3 : P.underlying f3.type = some (.int .u64)) (u4 : P.underlying f4.type = some (.int .u64)) (u5 : P.underlying f5.type = some (.int .u64))
    (hc : cs.length = 6) (h : DataW.trod enc P w base spare held fuel t cs = some x) :
    ∃ (d n la wa be : Nat) (s : ByteArray), (d < 256 ∧ n ≤ 18446744073709551615 ∧ la ≤ 18446744073709551615 ∧ wa ≤ 18446744073709551615 ∧ be ≤ 18446744073709551615 ∧ s.size ≤ maxLen) ∧ cs = act6 d n la wa be s := by
  match cs, hc with
  | [c0, c1, c2, c3, c4, c5], _ =>
    obtain ⟨y0, y1, y2, y3, y4, y5, n, g0, g1, g2, g3, g4, g5⟩ := trod_struct6 ht h
    obtain ⟨o0, k0⟩ := hone_of hone 0 f0 rfl
    obtain ⟨o1, k1⟩ := hone_of hone 1 f1 rfl
    obtain ⟨o2, k2⟩ := hone_of hone 2 f2 rfl
    obtain ⟨o3, k3⟩ := hone_of hone 3 f3 rfl
    obtain ⟨o4, k4⟩ := hone_of hone 4 f4 rfl
    obtain ⟨o5, k5⟩ := hone_of hone 5 f5 rfl
    simp [o0, k0] at g0
    simp [o1, k1] at g1
    simp [o2, k2] at g2
    simp [o3, k3] at g3
    simp [o4, k4] at g4
    simp [o5, k5] at g5
    obtain ⟨a0, e0, _, w0⟩ := DataW.trod_int u0 g0
    obtain ⟨a1, e1, _, w1⟩ := DataW.trod_string u1 g1
    obtain ⟨a2, e2, _, w2⟩ := DataW.trod_int u2 g2
    obtain ⟨a3, e3, _, w3⟩ := DataW.trod_int u3 g3
    obtain ⟨a4, e4, _, w4⟩ := DataW.trod_int u4 g4
    obtain ⟨a5, e5, _, w5⟩ := DataW.trod_int u5 g5
    simp at e0 e1 e2 e3 e4 e5
    subst e0; subst e1; subst e2; subst e3; subst e4; subst e5
    obtain ⟨p0, q0⟩ := Go.bounds_u8 w0
    obtain ⟨p2, q2⟩ := Go.bounds_u64 w2
    obtain ⟨p3, q3⟩ := Go.bounds_u64 w3
    obtain ⟨p4, q4⟩ := Go.bounds_u64 w4
    obtain ⟨p5, q5⟩ := Go.bounds_u64 w5
    exact ⟨a0.toNat, a2.toNat, a3.toNat, a4.toNat, a5.toNat, a1, ⟨by omega, by omega, by omega, by omega, by omega, w1⟩, by unfold act6; rw [Int.toNat_of_nonneg p0, Int.toNat_of_nonneg p2, Int.toNat_of_nonneg p3, Int.toNat_of_nonneg p4, Int.toNat_of_nonneg p5]⟩

theorem insCells {t : TypeId} {f0 f1 f2 f3 f4 : Field} {fuel : Nat} {cs : List Value} {x : DataW H × List MemPlace} (ht : P.underlying t = some (.struct #[f0, f1, f2, f3, f4])) (hone : oneCellFields P #[f0, f1, f2, f3, f4] = true)
    (u0 : P.underlying f0.type = some (.int .u64)) (u1 : P.underlying f1.type = some (.int .u64)) (u2 : P.underlying f2.type = some (.int .u64)) (u3 : P.underlying f3.type = some (.int .u64)) (u4 : P.underlying f4.type = some .string)
    (hc : cs.length = 5) (h : DataW.trod enc P w base spare held fuel t cs = some x) :
    ∃ (o n a t : Nat) (s : ByteArray), (o ≤ 18446744073709551615 ∧ n ≤ 18446744073709551615 ∧ a ≤ 18446744073709551615 ∧ t ≤ 18446744073709551615 ∧ s.size ≤ maxLen) ∧ cs = ins5 o n a t s := by
  match cs, hc with
  | [c0, c1, c2, c3, c4], _ =>
    obtain ⟨y0, y1, y2, y3, y4, n, g0, g1, g2, g3, g4⟩ := trod_struct5 ht h
    obtain ⟨o0, k0⟩ := hone_of hone 0 f0 rfl
    obtain ⟨o1, k1⟩ := hone_of hone 1 f1 rfl
    obtain ⟨o2, k2⟩ := hone_of hone 2 f2 rfl
    obtain ⟨o3, k3⟩ := hone_of hone 3 f3 rfl
    obtain ⟨o4, k4⟩ := hone_of hone 4 f4 rfl
    simp [o0, k0] at g0
    simp [o1, k1] at g1
    simp [o2, k2] at g2
    simp [o3, k3] at g3
    simp [o4, k4] at g4
    obtain ⟨a0, e0, _, w0⟩ := DataW.trod_int u0 g0
    obtain ⟨a1, e1, _, w1⟩ := DataW.trod_int u1 g1
    obtain ⟨a2, e2, _, w2⟩ := DataW.trod_int u2 g2
    obtain ⟨a3, e3, _, w3⟩ := DataW.trod_int u3 g3
    obtain ⟨a4, e4, _, w4⟩ := DataW.trod_string u4 g4
    simp at e0 e1 e2 e3 e4
    subst e0; subst e1; subst e2; subst e3; subst e4
    obtain ⟨p0, q0⟩ := Go.bounds_u64 w0
    obtain ⟨p1, q1⟩ := Go.bounds_u64 w1
    obtain ⟨p2, q2⟩ := Go.bounds_u64 w2
    obtain ⟨p3, q3⟩ := Go.bounds_u64 w3
    exact ⟨a0.toNat, a1.toNat, a2.toNat, a3.toNat, a4, ⟨by omega, by omega, by omega, by omega, w4⟩, by unfold ins5; rw [Int.toNat_of_nonneg p0, Int.toNat_of_nonneg p1, Int.toNat_of_nonneg p2, Int.toNat_of_nonneg p3]⟩

theorem openIns {r : Reach} {b0 : Nat} {t : TypeId} {f0 f1 f2 f3 f4 : Field} {v : Value} {d : DataW H} {p : List MemPlace} (ht : P.underlying t = some (.struct #[f0, f1, f2, f3, f4])) (hone : oneCellFields P #[f0, f1, f2, f3, f4] = true) (hC : P.cellsOf t = 5)
    (u0 : P.underlying f0.type = some (.int .u64)) (u1 : P.underlying f1.type = some (.int .u64)) (u2 : P.underlying f2.type = some (.int .u64)) (u3 : P.underlying f3.type = some (.int .u64)) (u4 : P.underlying f4.type = some .string)
    (hv : Value.okWide P w r b0 t v) (h : DataW.Trod enc P w base spare held t v d p) :
    ∃ (o n a t : Nat) (s : ByteArray), v = .agg #[.int .u64 (o : Int), .int .u64 (n : Int), .int .u64 (a : Int), .int .u64 (t : Int), .string s] ∧ (o ≤ 18446744073709551615 ∧ n ≤ 18446744073709551615 ∧ a ≤ 18446744073709551615 ∧ t ≤ 18446744073709551615 ∧ s.size ≤ maxLen) := by
  obtain ⟨cs, rfl, hsz⟩ := okWide_struct ht hv
  obtain ⟨c0, c1, c2, c3, c4, rfl⟩ := array5 (hsz.trans hC)
  obtain ⟨fuel, hf⟩ := h
  simp only [Value.cells] at hf
  obtain ⟨o, n, a, t', s, hh, he⟩ := insCells ht hone u0 u1 u2 u3 u4 rfl hf
  unfold ins5 at he
  simp at he
  obtain ⟨rfl, rfl, rfl, rfl, rfl⟩ := he
  exact ⟨o, n, a, t', s, rfl, hh⟩

theorem openActs6 {t e : TypeId} {f0 f1 f2 f3 f4 f5 : Field} {fuel : Nat} {a : Option Addr} {len cap : Nat} {x : DataW H × List MemPlace}
    (ht : P.underlying t = some (.slice e)) (he : P.underlying e = some (.struct #[f0, f1, f2, f3, f4, f5])) (hone : oneCellFields P #[f0, f1, f2, f3, f4, f5] = true) (ce : P.cellsOf e = 6)
    (u0 : P.underlying f0.type = some (.int .u8)) (u1 : P.underlying f1.type = some .string) (u2 : P.underlying f2.type = some (.int .u64)) (u3 : P.underlying f3.type = some (.int .u64)) (u4 : P.underlying f4.type = some (.int .u64)) (u5 : P.underlying f5.type = some (.int .u64))
    (h : DataW.trod enc P w base spare held fuel t [.slice a len cap] = some x) : InActs6 w a len cap := by
  rcases Go.Deep.open_slice ht h with ⟨hcs, _⟩ | ⟨ad, l, c, m, n, D, Pl, hcs, _, hl, hm, hmm, _, hx⟩
  · simp at hcs
    obtain ⟨rfl, rfl, rfl⟩ := hcs
    exact ⟨Nat.le_refl _, Nat.zero_le _, fun h => absurd h (Nat.lt_irrefl 0)⟩
  · simp at hcs
    obtain ⟨rfl, rfl, rfl⟩ := hcs
    have hle : len ≤ m := by rw [hmm]; split <;> omega
    have each : ∀ i, i < len → ∃ (d n la wa be : Nat) (s : ByteArray), (d < 256 ∧ n ≤ 18446744073709551615 ∧ la ≤ 18446744073709551615 ∧ wa ≤ 18446744073709551615 ∧ be ≤ 18446744073709551615 ∧ s.size ≤ maxLen) ∧ ∀ j v, (act6 d n la wa be s)[j]? = some v → w.cell? (ad.add (i * 6 + j)) = some v := by
      intro i hi
      obtain ⟨cs', h1, h2⟩ := hx i (by omega)
      rw [ce] at h1
      obtain ⟨_, hlen, hcell⟩ := World.cells?_some h1
      obtain ⟨d, n, la, wa, be, s, hb, rfl⟩ := actCells he hone u0 u1 u2 u3 u4 u5 (by simpa using hlen) h2
      refine ⟨d, n, la, wa, be, s, hb, fun j v hj => ?_⟩
      have := hcell j (by have := (List.getElem?_eq_some_iff.1 hj).1; simpa [act6] using this)
      rw [Go.Deep.add_add] at this
      rw [this]; simpa using hj
    refine ⟨hl, hm, fun h0 => ?_⟩
    obtain ⟨b, off, spot⟩ := ad
    obtain ⟨d0, n0, la0, wa0, be0, s0, _, hc0⟩ := each 0 h0
    have hc1 := hc0 0 _ rfl
    have hspot : spot = none := by simpa [Addr.add] using World.cell?_spot hc1
    subst hspot
    have ea : ∀ k, (⟨b, off, none⟩ : Addr).add k = ⟨b, off + k, none⟩ := fun k => by unfold Addr.add; split <;> simp_all
    refine ⟨b, off, rfl, ?_, fun i hi => ?_⟩
    · by_cases hlt : b < w.heap.size
      · exact hlt
      · have : w.heap[b]? = none := Array.getElem?_eq_none (by omega)
        rw [ea] at hc1
        simp [World.cell?, this] at hc1
    obtain ⟨d, n, la, wa, be, s, hb, hc⟩ := each i hi
    refine ⟨d, n, la, wa, be, s, hb, fun j v hj => ?_⟩
    have := hc j v hj
    rw [ea, ← Nat.add_assoc] at this
    exact this

theorem openIns5 {t e : TypeId} {f0 f1 f2 f3 f4 : Field} {fuel : Nat} {a : Option Addr} {len cap : Nat} {x : DataW H × List MemPlace}
    (ht : P.underlying t = some (.slice e)) (he : P.underlying e = some (.struct #[f0, f1, f2, f3, f4])) (hone : oneCellFields P #[f0, f1, f2, f3, f4] = true) (ce : P.cellsOf e = 5)
    (u0 : P.underlying f0.type = some (.int .u64)) (u1 : P.underlying f1.type = some (.int .u64)) (u2 : P.underlying f2.type = some (.int .u64)) (u3 : P.underlying f3.type = some (.int .u64)) (u4 : P.underlying f4.type = some .string)
    (h : DataW.trod enc P w base spare held fuel t [.slice a len cap] = some x) : InIns5 w a len cap := by
  rcases Go.Deep.open_slice ht h with ⟨hcs, _⟩ | ⟨ad, l, c, m, n, D, Pl, hcs, _, hl, hm, hmm, _, hx⟩
  · simp at hcs
    obtain ⟨rfl, rfl, rfl⟩ := hcs
    exact ⟨Nat.le_refl _, Nat.zero_le _, fun h => absurd h (Nat.lt_irrefl 0)⟩
  · simp at hcs
    obtain ⟨rfl, rfl, rfl⟩ := hcs
    have hle : len ≤ m := by rw [hmm]; split <;> omega
    have each : ∀ i, i < len → ∃ (o n a t : Nat) (s : ByteArray), (o ≤ 18446744073709551615 ∧ n ≤ 18446744073709551615 ∧ a ≤ 18446744073709551615 ∧ t ≤ 18446744073709551615 ∧ s.size ≤ maxLen) ∧ ∀ j v, (ins5 o n a t s)[j]? = some v → w.cell? (ad.add (i * 5 + j)) = some v := by
      intro i hi
      obtain ⟨cs', h1, h2⟩ := hx i (by omega)
      rw [ce] at h1
      obtain ⟨_, hlen, hcell⟩ := World.cells?_some h1
      obtain ⟨d, n, la, wa, s, hb, rfl⟩ := insCells he hone u0 u1 u2 u3 u4 (by simpa using hlen) h2
      refine ⟨d, n, la, wa, s, hb, fun j v hj => ?_⟩
      have := hcell j (by have := (List.getElem?_eq_some_iff.1 hj).1; simpa [ins5] using this)
      rw [Go.Deep.add_add] at this
      rw [this]; simpa using hj
    refine ⟨hl, hm, fun h0 => ?_⟩
    obtain ⟨b, off, spot⟩ := ad
    obtain ⟨d0, n0, la0, wa0, s0, _, hc0⟩ := each 0 h0
    have hc1 := hc0 0 _ rfl
    have hspot : spot = none := by simpa [Addr.add] using World.cell?_spot hc1
    subst hspot
    have ea : ∀ k, (⟨b, off, none⟩ : Addr).add k = ⟨b, off + k, none⟩ := fun k => by unfold Addr.add; split <;> simp_all
    refine ⟨b, off, rfl, ?_, fun i hi => ?_⟩
    · by_cases hlt : b < w.heap.size
      · exact hlt
      · have : w.heap[b]? = none := Array.getElem?_eq_none (by omega)
        rw [ea] at hc1
        simp [World.cell?, this] at hc1
    obtain ⟨d, n, la, wa, s, hb, hc⟩ := each i hi
    refine ⟨d, n, la, wa, s, hb, fun j v hj => ?_⟩
    have := hc j v hj
    rw [ea, ← Nat.add_assoc] at this
    exact this
end
end Go.Proofs.Ytngoighdpmeepaa
