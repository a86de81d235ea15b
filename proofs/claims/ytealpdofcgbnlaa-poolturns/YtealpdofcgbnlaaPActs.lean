/-
  A slice of acts that came in: three cells each.
-/
import Derived.Test.YtealpdofcgbnlaaRows
import Derived.Deep.Strs
import Derived.Deep.Slices
import Derived.OpenShut
import Derived.Below
namespace Go.Proofs.Ytealpdofcgbnlaa
open Go.RowKit
set_option linter.unusedVariables false

/-- A slice of acts that came in: where it has any, each is a byte, a whole number, a text. -/
def InActs (w : World) (a : Option Addr) (len cap : Nat) : Prop :=
  len ≤ cap ∧ cap ≤ maxLen ∧ (0 < len → ∃ b off, a = some ⟨b, off, none⟩ ∧ b < w.heap.size ∧ ∀ i, i < len → ∃ (d : Nat) (z : Int) (s : ByteArray), d < 256 ∧ -9223372036854775808 ≤ z ∧ z ≤ 9223372036854775807 ∧ s.size ≤ maxLen ∧
    w.cell? ⟨b, off + i * 3, none⟩ = some (.int .u8 (d : Int)) ∧ w.cell? ⟨b, off + i * 3 + 1, none⟩ = some (.int .i64 z) ∧ w.cell? ⟨b, off + i * 3 + 2, none⟩ = some (.string s))

theorem cell_lt_block {w : World} {p : Addr} {v : Value} (h : w.cell? p = some v) : p.block < w.heap.size := by
  by_cases hlt : p.block < w.heap.size
  · exact hlt
  · have : w.heap[p.block]? = none := Array.getElem?_eq_none (by omega)
    simp [World.cell?, this] at h

theorem openActs {H : Type} {enc : TypeId × Value → H} {P : Program} {w : World} {base : Nat} {spare : Nat → Bool} {held : Bool} {t e : TypeId} {f0 f1 f2 : Field} {fuel : Nat} {a : Option Addr} {len cap : Nat} {x : DataW H × List MemPlace}
    (ht : P.underlying t = some (.slice e)) (he : P.underlying e = some (.struct #[f0, f1, f2])) (ce : P.cellsOf e = 3) (o0 : f0.offset = 0) (o1 : f1.offset = 1) (o2 : f2.offset = 2)
    (c0 : P.cellsOf f0.type = 1) (c1 : P.cellsOf f1.type = 1) (c2 : P.cellsOf f2.type = 1) (u0 : P.underlying f0.type = some (.int .u8)) (u1 : P.underlying f1.type = some (.int .i64)) (u2 : P.underlying f2.type = some .string)
    (h : DataW.trod enc P w base spare held fuel t [.slice a len cap] = some x) : InActs w a len cap := by
  rcases Go.Deep.open_slice ht h with ⟨hcs, _⟩ | ⟨ad, l, c, m, n, D, Pl, hcs, _, hl, hm, hmm, _, hx⟩
  · simp at hcs
    obtain ⟨rfl, rfl, rfl⟩ := hcs
    exact ⟨Nat.le_refl _, Nat.zero_le _, fun h => absurd h (Nat.lt_irrefl 0)⟩
  · simp at hcs
    obtain ⟨rfl, rfl, rfl⟩ := hcs
    have hle : len ≤ m := by rw [hmm]; split <;> omega
    have each : ∀ i, i < len → ∃ (d : Nat) (z : Int) (s : ByteArray), d < 256 ∧ -9223372036854775808 ≤ z ∧ z ≤ 9223372036854775807 ∧ s.size ≤ maxLen ∧ w.cell? (ad.add (i * 3)) = some (.int .u8 (d : Int)) ∧ w.cell? (ad.add (i * 3 + 1)) = some (.int .i64 z) ∧ w.cell? (ad.add (i * 3 + 2)) = some (.string s) := by
      intro i hi
      obtain ⟨cs', h1, h2⟩ := hx i (by omega)
      rw [ce] at h1
      obtain ⟨_, hlen, hcell⟩ := World.cells?_some h1
      obtain ⟨y0, y1, y2, k, _, _, g0, g1, g2⟩ := Go.Deep.trod_struct3 he h2
      match cs', hlen with
      | [v0, v1, v2], _ =>
        simp [o0, o1, o2, c0, c1, c2] at g0 g1 g2
        obtain ⟨d, hd, _, wd⟩ := DataW.trod_int u0 g0
        obtain ⟨z, hz, _, wz⟩ := DataW.trod_int u1 g1
        obtain ⟨s, hs, _, ws⟩ := DataW.trod_string u2 g2
        simp at hd hz hs
        subst hd; subst hz; subst hs
        obtain ⟨d1, d2⟩ := Go.bounds_u8 wd
        obtain ⟨z1, z2⟩ := Go.bounds_i64 wz
        have e0 := hcell 0 (by omega)
        have e1 := hcell 1 (by omega)
        have e2 := hcell 2 (by omega)
        rw [Go.Deep.add_add] at e0 e1 e2
        refine ⟨d.toNat, z, s, by omega, z1, z2, ws, ?_, by simpa using e1, by simpa using e2⟩
        rw [Int.toNat_of_nonneg d1]
        simpa using e0
    refine ⟨hl, hm, fun h0 => ?_⟩
    obtain ⟨b, off, spot⟩ := ad
    obtain ⟨_, _, _, _, _, _, _, hc0, _, _⟩ := each 0 h0
    have hspot : spot = none := by simpa [Addr.add] using World.cell?_spot hc0
    subst hspot
    refine ⟨b, off, rfl, by simpa [Addr.add] using cell_lt_block hc0, fun i hi => ?_⟩
    have ea : ∀ k, (⟨b, off, none⟩ : Addr).add k = ⟨b, off + k, none⟩ := fun k => by unfold Addr.add; split <;> simp_all
    have := each i hi
    simp only [ea, ← Nat.add_assoc] at this
    exact this

end Go.Proofs.Ytealpdofcgbnlaa
