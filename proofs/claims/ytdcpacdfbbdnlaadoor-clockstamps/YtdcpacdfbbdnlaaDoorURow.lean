/-
  A slice of whole numbers of 64 bits that came in, as a function; layer 14's numbers between the least and the greatest.
-/
import Derived.Test.YtdcpacdfbbdnlaaDoorULaw
import Derived.Test.YtdcpacdfbbdnlaaDoorCut
namespace Go.Proofs.YtdcpacdfbbdnlaaDoor
open Go.RowKit
set_option linter.unusedVariables false
set_option maxRecDepth 20000

/-- Where it has any, a row of cells, each a whole number. -/
def InU (w : World) (a : Option Addr) (len : Nat) (f : Nat → Nat) : Prop :=
  0 < len → ∃ bk off, a = some ⟨bk, off, none⟩ ∧ bk < w.heap.size ∧ ∀ i, i < len → f i ≤ 18446744073709551615 ∧ w.cell? ⟨bk, off + i, none⟩ = some (.int .u64 ((f i : Nat) : Int))
theorem IsRow.inU {w : World} {a : Option Addr} {len cap : Nat} {zs : List Int} (h : IsRow .u64 w a len cap zs) : InU w a len (fun i => (zs.getD i 0).toNat) := by
  intro h0
  rcases h with ⟨_, hl, _⟩ | ⟨x, rfl, hl, hm, hz, hcell, hwz⟩
  · omega
  · obtain ⟨b, off, spot⟩ := x
    have hc0 := hcell 0 (by omega)
    have hspot : spot = none := by simpa [Addr.add] using World.cell?_spot hc0
    subst hspot
    refine ⟨b, off, rfl, by simpa [Addr.add] using block_lt hc0, fun i hi => ?_⟩
    have hc := hcell i (by omega)
    have ea : (⟨b, off, none⟩ : Addr).add i = ⟨b, off + i, none⟩ := by unfold Addr.add; split <;> simp_all
    rw [ea] at hc
    have hi' : i < zs.length := by omega
    have hg : zs.getD i 0 = zs[i] := by rw [List.getD_eq_getElem?_getD, List.getElem?_eq_getElem hi']; rfl
    have hw := Go.bounds_u64 (hwz _ (List.getElem_mem hi'))
    show (zs.getD i 0).toNat ≤ _ ∧ _
    rw [hc]
    rw [hg]
    refine ⟨by omega, ?_⟩
    show _ = some (Value.int .u64 (((zs.getD i 0).toNat : Nat) : Int))
    rw [hg, Int.toNat_of_nonneg hw.1]
theorem InU.below {w w' : World} {a : Option Addr} {len : Nat} {f : Nat → Nat} (h : InU w a len f) (hb : Below w.heap.size w w') : InU w' a len f := by
  intro h0
  obtain ⟨bk, off, ha, hlt, he⟩ := h h0
  exact ⟨bk, off, ha, Nat.lt_of_lt_of_le hlt hb.size, fun i hi => ⟨(he i hi).1, (hb.cell (p := ⟨bk, _, none⟩) hlt).trans (he i hi).2⟩⟩
theorem IsRow.lens {w : World} {a : Option Addr} {len cap : Nat} {zs : List Int} (h : IsRow .u64 w a len cap zs) : len ≤ 9223372036854775807 := by
  rcases h with ⟨_, hl, _⟩ | ⟨x, rfl, hl, hm, _⟩
  · omega
  · unfold maxLen at hm; omega

end Go.Proofs.YtdcpacdfbbdnlaaDoor
