/-
  A slice of acts that came in: a byte, a number, a text: three cells each.
-/
import Derived.Test.YtggkkahifoccfaaRows
import Derived.Deep.Strs
import Derived.Deep.Slices
import Derived.OpenShut
import Derived.Below
namespace Go.Proofs.Ytggkkahifoccfaa
open Go.RowKit
set_option linter.unusedVariables false

/-- A slice of acts that came in: where it has any, each is a byte, a number, a text. -/
def InActsU (w : World) (a : Option Addr) (len cap : Nat) : Prop :=
  len ≤ cap ∧ cap ≤ maxLen ∧ (0 < len → ∃ b off, a = some ⟨b, off, none⟩ ∧ b < w.heap.size ∧ ∀ i, i < len → ∃ (d z : Nat) (s : ByteArray), d < 256 ∧ z ≤ 18446744073709551615 ∧ s.size ≤ maxLen ∧
    w.cell? ⟨b, off + i * 3, none⟩ = some (.int .u8 (d : Int)) ∧ w.cell? ⟨b, off + i * 3 + 1, none⟩ = some (.int .u64 (z : Int)) ∧ w.cell? ⟨b, off + i * 3 + 2, none⟩ = some (.string s))

theorem cell_lt_blockU {w : World} {p : Addr} {v : Value} (h : w.cell? p = some v) : p.block < w.heap.size := by
  by_cases hlt : p.block < w.heap.size
  · exact hlt
  · have : w.heap[p.block]? = none := Array.getElem?_eq_none (by omega)
    simp [World.cell?, this] at h

theorem openActsU {H : Type} {enc : TypeId × Value → H} {P : Program} {w : World} {base : Nat} {spare : Nat → Bool} {held : Bool} {t e : TypeId} {f0 f1 f2 : Field} {fuel : Nat} {a : Option Addr} {len cap : Nat} {x : DataW H × List MemPlace}
    (ht : P.underlying t = some (.slice e)) (he : P.underlying e = some (.struct #[f0, f1, f2])) (ce : P.cellsOf e = 3) (o0 : f0.offset = 0) (o1 : f1.offset = 1) (o2 : f2.offset = 2)
    (c0 : P.cellsOf f0.type = 1) (c1 : P.cellsOf f1.type = 1) (c2 : P.cellsOf f2.type = 1) (u0 : P.underlying f0.type = some (.int .u8)) (u1 : P.underlying f1.type = some (.int .u64)) (u2 : P.underlying f2.type = some .string)
    (h : DataW.trod enc P w base spare held fuel t [.slice a len cap] = some x) : InActsU w a len cap := by
  rcases Go.Deep.open_slice ht h with ⟨hcs, _⟩ | ⟨ad, l, c, m, n, D, Pl, hcs, _, hl, hm, hmm, _, hx⟩
  · simp at hcs
    obtain ⟨rfl, rfl, rfl⟩ := hcs
    exact ⟨Nat.le_refl _, Nat.zero_le _, fun h => absurd h (Nat.lt_irrefl 0)⟩
  · simp at hcs
    obtain ⟨rfl, rfl, rfl⟩ := hcs
    have hle : len ≤ m := by rw [hmm]; split <;> omega
    have each : ∀ i, i < len → ∃ (d z : Nat) (s : ByteArray), d < 256 ∧ z ≤ 18446744073709551615 ∧ s.size ≤ maxLen ∧ w.cell? (ad.add (i * 3)) = some (.int .u8 (d : Int)) ∧ w.cell? (ad.add (i * 3 + 1)) = some (.int .u64 (z : Int)) ∧ w.cell? (ad.add (i * 3 + 2)) = some (.string s) := by
      intro i hi
      obtain ⟨cs', h1, h2⟩ := hx i (by omega)
      rw [ce] at h1
      obtain ⟨_, hlen, hcell⟩ := World.cells?_some h1
      obtain ⟨y0, y1, y2, k, _, _, g0, g1, g2⟩ := Go.Deep.trod_struct3 he h2
      match cs', hlen with
      | [v0, v1, v2], _ =>
        simp [o0, o1, o2, c0, c1, c2] at g0 g1 g2
        obtain ⟨d, hd, _, wd⟩ := DataW.trod_int u0 g0
        obtain ⟨z, hz, _, wz⟩ := DataW.trod_int u1 g1
        obtain ⟨s, hs, _, ws⟩ := DataW.trod_string u2 g2
        simp at hd hz hs
        subst hd; subst hz; subst hs
        obtain ⟨d1, d2⟩ := Go.bounds_u8 wd
        obtain ⟨z1, z2⟩ := Go.bounds_u64 wz
        have e0 := hcell 0 (by omega)
        have e1 := hcell 1 (by omega)
        have e2 := hcell 2 (by omega)
        rw [Go.Deep.add_add] at e0 e1 e2
        refine ⟨d.toNat, z.toNat, s, by omega, by omega, ws, ?_, ?_, by simpa using e2⟩
        · rw [Int.toNat_of_nonneg d1]; simpa using e0
        · rw [Int.toNat_of_nonneg z1]; simpa using e1
    refine ⟨hl, hm, fun h0 => ?_⟩
    obtain ⟨b, off, spot⟩ := ad
    obtain ⟨_, _, _, _, _, _, hc0, _, _⟩ := each 0 h0
    have hspot : spot = none := by simpa [Addr.add] using World.cell?_spot hc0
    subst hspot
    refine ⟨b, off, rfl, by simpa [Addr.add] using cell_lt_blockU hc0, fun i hi => ?_⟩
    have ea : ∀ k, (⟨b, off, none⟩ : Addr).add k = ⟨b, off + k, none⟩ := fun k => by unfold Addr.add; split <;> simp_all
    have := each i hi
    simp only [ea, ← Nat.add_assoc] at this
    exact this

/-- The act at a place, its text of at most so many bytes. -/
def ActU (w : World) (b off i n : Nat) : Prop := ∃ (d z : Nat) (s : ByteArray), d < 256 ∧ z ≤ 18446744073709551615 ∧ s.size ≤ n ∧
    w.cell? ⟨b, off + i * 3, none⟩ = some (.int .u8 (d : Int)) ∧ w.cell? ⟨b, off + i * 3 + 1, none⟩ = some (.int .u64 (z : Int)) ∧ w.cell? ⟨b, off + i * 3 + 2, none⟩ = some (.string s)
/-- At most m acts, their texts of at most n bytes. -/
def LightU (w : World) (a : Option Addr) (len m n : Nat) : Prop := len ≤ m ∧ (0 < len → ∃ b off, a = some ⟨b, off, none⟩ ∧ b < w.heap.size ∧ ∀ i, i < len → ActU w b off i n)
theorem LightU.below {w w' : World} {a : Option Addr} {len m n : Nat} (h : LightU w a len m n) (hb : Below w.heap.size w w') : LightU w' a len m n := by
  refine ⟨h.1, fun h0 => ?_⟩
  obtain ⟨b, off, rfl, hlt, he⟩ := h.2 h0
  refine ⟨b, off, rfl, Nat.lt_of_lt_of_le hlt hb.size, fun i hi => ?_⟩
  obtain ⟨d, z, s, h1, h2, h3, e0, e1, e2⟩ := he i hi
  exact ⟨d, z, s, h1, h2, h3, (hb.cell (p := ⟨b, _, none⟩) hlt).trans e0, (hb.cell (p := ⟨b, _, none⟩) hlt).trans e1, (hb.cell (p := ⟨b, _, none⟩) hlt).trans e2⟩
theorem InActsU.below {w w' : World} {a : Option Addr} {len cap : Nat} (h : InActsU w a len cap) (hb : Below w.heap.size w w') : InActsU w' a len cap := by
  refine ⟨h.1, h.2.1, fun h0 => ?_⟩
  obtain ⟨b, off, rfl, hlt, he⟩ := h.2.2 h0
  refine ⟨b, off, rfl, Nat.lt_of_lt_of_le hlt hb.size, fun i hi => ?_⟩
  obtain ⟨d, z, s, h1, h2, h3, e0, e1, e2⟩ := he i hi
  exact ⟨d, z, s, h1, h2, h3, (hb.cell (p := ⟨b, _, none⟩) hlt).trans e0, (hb.cell (p := ⟨b, _, none⟩) hlt).trans e1, (hb.cell (p := ⟨b, _, none⟩) hlt).trans e2⟩

/-- What is light later on was light before. -/
theorem LightU.up {w w' : World} {a : Option Addr} {len cap m n : Nat} (h : LightU w' a len m n) (hb : Below w.heap.size w w') (hi : InActsU w a len cap) : LightU w a len m n := by
  refine ⟨h.1, fun h0 => ?_⟩
  obtain ⟨b, off, ha, hlt, he⟩ := hi.2.2 h0
  obtain ⟨b', off', ha', _, he'⟩ := h.2 h0
  rw [ha] at ha'
  cases ha'
  refine ⟨b, off, ha, hlt, fun i hi => ?_⟩
  obtain ⟨d, z, s, h1, h2, _, e0, e1, e2⟩ := he i hi
  obtain ⟨_, _, s', _, _, h3, _, _, e2'⟩ := he' i hi
  rw [hb.cell (p := ⟨b, _, none⟩) hlt, e2] at e2'
  cases e2'
  exact ⟨d, z, s, h1, h2, h3, e0, e1, e2⟩

end Go.Proofs.Ytggkkahifoccfaa
