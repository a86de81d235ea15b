/-
  A slice of floats that came in, opened.
-/
import Derived.Test.YtajpgjbdemadgaaDoorRFar
import Derived.ProofKit
import Derived.OpenShut
import Derived.Laws.Cover2
namespace Go.Proofs.YtajpgjbdemadgaaDoor
open Go.ChangeShapes Go.WideShapes Go.ChangeAt Go.RowKit
set_option linter.unusedVariables false

theorem trod_float1 {H : Type} {enc : TypeId × Value → H} {w : World} {base : Nat} {spare : Nat → Bool} {held : Bool} {fuel : Nat} {cs : List Value} {y : DataW H × List MemPlace} {e : TypeId} (he : Tryd.prog.underlying e = some (.float .f64))
    (h : DataW.trod enc Tryd.prog w base spare held fuel e cs = some y) : ∃ b, cs = [.float .f64 b] ∧ b < 18446744073709551616 := by
  cases fuel with
  | zero => simp [DataW.trod] at h
  | succ n =>
    unfold DataW.trod at h
    rw [he] at h
    split at h <;> simp_all
    · rename_i heq
      subst heq
      simpa [Lit.wf] using h.1.2

theorem open_floats {H : Type} {enc : TypeId × Value → H} {w : World} {base : Nat} {spare : Nat → Bool} {held : Bool} {fuel : Nat} {a : Option Addr} {len cap : Nat} {x : DataW H × List MemPlace} {t e : TypeId}
    (ht : Tryd.prog.underlying t = some (.slice e)) (he : Tryd.prog.underlying e = some (.float .f64)) (hc : Tryd.prog.cellsOf e = 1)
    (h : DataW.trod enc Tryd.prog w base spare held fuel t [.slice a len cap] = some x) : ∃ zs, IsFl w a len cap zs := by
  rcases DataW.trod_slice ht h with ⟨h0, _⟩ | ⟨p, l, c, elems, rest, n, _, h0, _, _, hl, hm, hlen, hel, _, _⟩
  · simp at h0
    obtain ⟨rfl, rfl, rfl⟩ := h0
    exact ⟨[], .inl ⟨rfl, rfl, rfl, rfl⟩⟩
  · simp at h0
    obtain ⟨rfl, rfl, rfl⟩ := h0
    have each : ∀ i, i < len → ∃ b, w.cell? (p.add i) = some (.float .f64 b) ∧ b < 18446744073709551616 := fun i hi => by
      have h1 := hel i hi
      rw [List.getElem?_eq_getElem (by omega), hc, Nat.mul_one, Option.bind_eq_some_iff] at h1
      obtain ⟨cs', hcs, hy⟩ := h1
      obtain ⟨b, rfl, hb⟩ := trod_float1 he hy
      exact ⟨b, cell_of_cells?_one hcs, hb⟩
    refine ⟨(List.range len).map fun i => match w.cell? (p.add i) with | some (.float _ b) => b | _ => 0, .inr ⟨p, rfl, hl, hm, by simp, fun i hi => ?_, fun n hn => ?_⟩⟩
    · obtain ⟨b, hb, _⟩ := each i hi
      rw [List.getD_eq_getElem?_getD, List.getElem?_map, List.getElem?_range hi]
      simp [hb]
    · simp only [List.mem_map, List.mem_range] at hn
      obtain ⟨i, hi, rfl⟩ := hn
      obtain ⟨b, hb, hlt⟩ := each i hi
      simp only [hb]; exact hlt

end Go.Proofs.YtajpgjbdemadgaaDoor
