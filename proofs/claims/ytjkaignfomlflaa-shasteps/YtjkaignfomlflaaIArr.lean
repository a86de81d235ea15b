/-
  An array of whole numbers that came in as an argument, opened, and shut again in whatever world.
-/
import Derived.Test.YtjkaignfomlflaaARows
import Derived.OpenShut
import Derived.WideShapes
import Derived.ChangeShapes
namespace Go.Proofs.Ytjkaignfomlflaa
open Go.RowKit
set_option linter.unusedVariables false

section
variable {H : Type} {enc : TypeId × Value → H} {P : Program} {base : Nat} {spare : Nat → Bool} {held : Bool}

theorem trod_int_world {e : TypeId} {k : IntKind} (he : P.underlying e = some (.int k)) (w w' : World) (base' : Nat) (spare' : Nat → Bool) (held' : Bool) (m : Nat) (cs : List Value) :
    DataW.trod enc P w base spare held m e cs = DataW.trod enc P w' base' spare' held' m e cs := by
  cases m with
  | zero => simp [DataW.trod]
  | succ m =>
    unfold DataW.trod
    rw [he]
    rcases cs with _ | ⟨c, _ | ⟨c2, r⟩⟩
    · rfl
    · cases c <;> rfl
    · cases c <;> rfl

theorem trod_ints_world {t e : TypeId} {n : Nat} {k : IntKind} (ht : P.underlying t = some (.array n e)) (he : P.underlying e = some (.int k)) (w w' : World) (base' : Nat) (spare' : Nat → Bool) (held' : Bool) (fuel : Nat) (cs : List Value) :
    DataW.trod enc P w base spare held fuel t cs = DataW.trod enc P w' base' spare' held' fuel t cs := by
  cases fuel with
  | zero => simp [DataW.trod]
  | succ m =>
    unfold DataW.trod
    rw [ht]
    simp only [trod_int_world he w w' base' spare' held' m]

theorem open_array {t e : TypeId} {n : Nat} {k : IntKind} {r : Reach} {b0 : Nat} {w : World} {v : Value} {d : DataW H} {p : List MemPlace} (ht : P.underlying t = some (.array n e)) (he : P.underlying e = some (.int k)) (hc : P.cellsOf e = 1) (hC : P.cellsOf t = n)
    (hval : Value.okWide P w r b0 t v) (hd : DataW.Trod enc P w base spare held t v d p) :
    ∃ zs : List Int, v = .agg (zs.map (Value.int k)).toArray ∧ zs.length = n ∧ (∀ z ∈ zs, (Lit.int k z).wf = true) ∧ p = [] ∧ ∀ w' base' spare' held', DataW.Trod enc P w' base' spare' held' t v d p := by
  simp only [Value.okWide, ht] at hval
  obtain ⟨cs, rfl, hsz, _⟩ := hval
  rw [hC] at hsz
  have hd' := hd
  obtain ⟨fuel, hf⟩ := hd
  obtain ⟨xs, m, rfl, hx, hl, hxl, hi⟩ := DataW.trod_array ht hf
  have hz : ∀ i, i < n → ∃ z : Int, cs.toList[i]? = some (.int k z) ∧ xs[i]? = some (.lit (.int k z), []) ∧ (Lit.int k z).wf = true := by
    intro i h
    have h1 := hi i h
    rw [hc] at h1
    have hlt : i < cs.toList.length := by simpa [hsz] using h
    have e1 : ((Value.agg cs).cells.toList.drop (i * 1)).take 1 = [cs.toList[i]] := by
      simp only [Value.cells, Nat.mul_one]
      rw [List.drop_eq_getElem_cons hlt]; rfl
    have hxi : i < xs.length := by omega
    rw [e1, List.getElem?_eq_getElem hxi] at h1
    obtain ⟨z, hz1, hz2, hw⟩ := DataW.trod_int he h1
    refine ⟨z, ?_, ?_, hw⟩
    · rw [List.getElem?_eq_getElem hlt]; simpa using hz1
    · rw [List.getElem?_eq_getElem hxi]; simpa using hz2
  have hall : ∀ j, j ≤ n → ∃ zs : List Int, zs.length = j ∧ cs.toList.take j = zs.map (Value.int k) ∧ (∀ z ∈ zs, (Lit.int k z).wf = true) ∧ ∀ i, i < j → ∃ l, xs[i]? = some (l, []) := by
    intro j
    induction j with
    | zero => exact fun _ => ⟨[], rfl, rfl, by simp, fun i h => by omega⟩
    | succ j ih =>
      intro hj
      obtain ⟨zs, h1, h2, h3, h4⟩ := ih (by omega)
      obtain ⟨z, g1, g2, g3⟩ := hz j (by omega)
      refine ⟨zs ++ [z], by simp [h1], ?_, ?_, ?_⟩
      · rw [List.take_add_one, h2, g1]; simp
      · intro y hy
        rcases List.mem_append.1 hy with h | h
        · exact h3 y h
        · simp at h; rw [h]; exact g3
      · intro i h
        by_cases e : i = j
        · rw [e]; exact ⟨_, g2⟩
        · exact h4 i (by omega)
  obtain ⟨zs, h1, h2, h3, h4⟩ := hall n (Nat.le_refl _)
  rw [List.take_of_length_le (by simp [hsz])] at h2
  refine ⟨zs, by rw [← h2], h1, h3, ?_, fun w' base' spare' held' => ⟨m + 1, by rw [← trod_ints_world ht he w w' base' spare' held']; exact hf⟩⟩
  have : p = xs.flatMap (·.2) := by simpa using congrArg Prod.snd hx
  rw [this, List.flatMap_eq_nil_iff]
  intro y hy
  obtain ⟨i, hi', rfl⟩ := List.mem_iff_getElem.1 hy
  obtain ⟨l, hl'⟩ := h4 i (by omega)
  rw [List.getElem?_eq_getElem hi'] at hl'
  have := Option.some.inj hl'
  rw [this]

/-- Of bytes. -/
theorem open_bytes {t e : TypeId} {n : Nat} {r : Reach} {b0 : Nat} {w : World} {v : Value} {d : DataW H} {p : List MemPlace} (ht : P.underlying t = some (.array n e)) (he : P.underlying e = some (.int .u8)) (hc : P.cellsOf e = 1) (hC : P.cellsOf t = n)
    (hval : Value.okWide P w r b0 t v) (hd : DataW.Trod enc P w base spare held t v d p) :
    ∃ zs : List UInt8, v = .agg (W.cellsOf zs).toArray ∧ p = [] ∧ zs.length = n ∧ ∀ w' base' spare' held', DataW.Trod enc P w' base' spare' held' t v d p := by
  obtain ⟨zs, h1, h2, h3, h4, h5⟩ := open_array ht he hc hC hval hd
  refine ⟨zs.map fun z => UInt8.ofNat z.toNat, ?_, h4, by simp [h2], h5⟩
  rw [h1]
  congr 2
  simp only [W.cellsOf, List.map_map]
  apply List.map_congr_left
  intro z hz
  obtain ⟨g1, g2⟩ := bounds_u8 (h3 z hz)
  simp only [Function.comp, UInt8.toNat_ofNat']
  congr 1
  omega
end

end Go.Proofs.Ytjkaignfomlflaa
