/-
  Layer 16: the document's Take told by the same relation as the code's: of whatever states and instruction.
-/
import Derived.Test.YtjfhinhakanhaaaGRefT
namespace Go.Proofs.Ytjfhinhakanhaaa
open Go.RowKit
set_option linter.unusedVariables false
set_option maxRecDepth 20000

set_option maxHeartbeats 1000000 in
theorem refTake_any (g off n cap o nn tt : Nat) (d : ByteArray) (L : List R16.Cm) (w : World) (hu : R16.Up L) (hl : L.length = n + 1) (h9 : n ≤ 800) (ha : R16.CmAt w g off L) (hs : ∀ (j : Nat) (q : R16.Cm), L[j]? = some q → q.tx.size + d.size ≤ 1099511627776) :
    Calls Try.prog 12 #[.slice (some ⟨g, off, none⟩) (n + 1) cap, .int .u64 (o : Int), .int .u64 (nn : Int), .int .u64 (tt : Int), .string d] w fun e w' => ∃ L' last code m g' off' cap', e = .returned (.tuple #[.slice (some ⟨g', off', none⟩) (m + 1) cap', .bool last, .int .i64 ((code : Nat) : Int)]) ∧ R16.Tk L o nn tt d L' last code ∧ R16.CmAt w' g' off' L' ∧ L'.length = m + 1 ∧ Below w.heap.size w w' := by
  obtain ⟨i, hPi⟩ := R16.Pl.ex hu nn
  have same : ∀ code : Nat, ((code = 11 ∧ ∃ i : Nat, R16.Pl L nn i ∧ R16.at? L nn i = true) ∨ (code = 9 ∧ R16.Pl L nn 0 ∧ R16.at? L nn 0 = false) ∨ (code = 19 ∧ (∃ i : Nat, R16.Pl L nn i ∧ R16.at? L nn i = false ∧ 0 < i) ∧ (nn ≤ o ∨ ∀ (j : Nat) (q : R16.Cm), L[j]? = some q → q.num ≠ o)) ∨ (code = 4 ∧ (∃ i : Nat, R16.Pl L nn i ∧ R16.at? L nn i = false ∧ 0 < i) ∧ (∃ (j : Nat) (q : R16.Cm), L[j]? = some q ∧ q.num = o) ∧ o < nn ∧ bang d = true)) → Calls Try.prog 12 #[.slice (some ⟨g, off, none⟩) (n + 1) cap, .int .u64 (o : Int), .int .u64 (nn : Int), .int .u64 (tt : Int), .string d] w (fun e w' => e = .returned (.tuple #[.slice (some ⟨g, off, none⟩) (n + 1) cap, .bool false, .int .i64 ((code : Nat) : Int)]) ∧ Below w.heap.size w w') → Calls Try.prog 12 #[.slice (some ⟨g, off, none⟩) (n + 1) cap, .int .u64 (o : Int), .int .u64 (nn : Int), .int .u64 (tt : Int), .string d] w fun e w' => ∃ L' last code m g' off' cap', e = .returned (.tuple #[.slice (some ⟨g', off', none⟩) (m + 1) cap', .bool last, .int .i64 ((code : Nat) : Int)]) ∧ R16.Tk L o nn tt d L' last code ∧ R16.CmAt w' g' off' L' ∧ L'.length = m + 1 ∧ Below w.heap.size w w' := fun code hc h => by
    refine h.mono ?_
    rintro e w' ⟨rfl, hbb⟩
    exact ⟨L, false, code, n, g, off, cap, rfl, Or.inl ⟨rfl, rfl, hc⟩, ha.keep hbb, hl, hbb⟩
  cases hat : R16.at? L nn i with
  | true => exact same 11 (.inl ⟨rfl, i, hPi, hat⟩) (refTake_11 g off n cap o nn 0 tt d L w hl h9 ha i hPi hat)
  | false =>
    by_cases hi0 : i = 0
    · subst hi0
      exact same 9 (.inr (.inl ⟨rfl, hPi, hat⟩)) (refTake_9 g off n cap o nn 0 tt d L w hu hl h9 ha hPi hat)
    · obtain ⟨jo, hPo⟩ := R16.Pl.ex hu o
      cases hao : R16.at? L o jo with
      | false =>
        have hO : ∀ (j : Nat) (q : R16.Cm), L[j]? = some q → q.num ≠ o := fun j q hq hqo => by
          have := hPo.at hu hq hqo
          rw [this.2.1] at hao
          cases hao
        exact same 19 (.inr (.inr (.inl ⟨rfl, ⟨i, hPi, hat, by omega⟩, .inr hO⟩))) (refTake_19a g off n cap o nn 0 tt d L w hu hl h9 ha i hPi hat (by omega) hO)
      | true =>
        obtain ⟨po, hpo, hon⟩ := R16.at_some hao
        rcases Nat.lt_or_ge o nn with hlt | hge
        · cases hb : bang d with
          | true => exact same 4 (.inr (.inr (.inr ⟨rfl, ⟨i, hPi, hat, by omega⟩, ⟨jo, po, hpo, hon⟩, hlt, hb⟩))) (refTake_4 g off n cap o nn 0 tt d L w hu hl h9 ha i hPi hat (by omega) jo po hpo hon hlt hb (hs jo po hpo))
          | false =>
            refine (refTake_ok g off n cap o nn 0 tt d L w hu hl h9 ha i hPi hat (by omega) jo po hpo hon hlt hb (hs jo po hpo)).mono ?_
            rintro e w' ⟨a, m, g', off', cap', rfl, hK, hC, hm, hbb⟩
            exact ⟨_, _, 0, m, g', off', cap', rfl, Or.inr ⟨rfl, i, jo, po, a, hPi, hat, by omega, hpo, hon, hlt, hb, by rw [hl], hK, rfl⟩, hC, hm, hbb⟩
        · exact same 19 (.inr (.inr (.inl ⟨rfl, ⟨i, hPi, hat, by omega⟩, .inl hge⟩))) (refTake_19b g off n cap o nn 0 tt d L w hu hl h9 ha i hPi hat (by omega) jo po hpo hon hge)
end Go.Proofs.Ytjfhinhakanhaaa
