/-
  Laws of no program: whole rows in a region that draws its order; a result that is an array beside a number.
-/
import Derived.Test.YtngoighdpmeepaaSWordsPlain
import Derived.Laws.ResultCell
import Derived.Deep.RegionLaw
import Derived.Deep.MidRow
namespace Go.Proofs.Ytngoighdpmeepaa
open Go.RowKit
set_option linter.unusedVariables false

section
variable {P : Program}

theorem step_load_row {ops : Array Oper} {o : Oper} {a : Act} {w : World} {K : Act → World → Prop} {Q : Exit → Act → World → Prop} {E : Prop} (hgd : o.guard = none) (ty : TypeId) (x : Operand) (ho : o.op = .load ty x)
    (g : Nat) (hx : a.eval x = .pointer (some ⟨g, 0, none⟩)) (t : TypeId) (l : List Value) (d : TypeDesc) (hg : Row w g t l)
    (hu : P.underlying ty = some d) (hd : (match d with | .struct _ | .array _ _ => true | _ => false) = true) (hi : (P.info? ty).map (·.size) = some l.toArray.size)
    (h : K (a.put o.dst (.agg l.toArray)) w) : if Region.wanted o (yielded ops a.tmps) = true then Oper.wp P o a w K Q else E := by
  have hw : Region.wanted o (yielded ops a.tmps) = true := by simp [Region.wanted, hgd]
  rw [if_pos hw]
  exact wp_load_row ty x ho g hx t _ _ d hg hu hd hi h

theorem step_store_row {ops : Array Oper} {o : Oper} {a : Act} {w : World} {K : Act → World → Prop} {Q : Exit → Act → World → Prop} {E : Prop} (hgd : o.guard = none) (ty : TypeId) (x y : Operand) (ho : o.op = .store ty x y)
    (g : Nat) (l : List Value) (hx : a.eval x = .pointer (some ⟨g, 0, none⟩)) (hy : a.eval y = .agg l.toArray) (t : TypeId) (old : List Value) (hg : Row w g t old) (hi : (P.info? ty).map (·.size) = some l.toArray.size)
    (hold : old.length = l.length) (h1 : l.toArray.all (·.oneCell') = true)
    (h : K (a.put o.dst undef) (w.setRow g l.toArray)) : if Region.wanted o (yielded ops a.tmps) = true then Oper.wp P o a w K Q else E := by
  have hw : Region.wanted o (yielded ops a.tmps) = true := by simp [Region.wanted, hgd]
  rw [if_pos hw]
  exact wp_store_row ty x y ho g _ hx hy t _ hg hi (by simpa using hold) h1 h

theorem Row.range {w : World} {g t : Nat} {l : List Value} (h : Row w g t l) : w.rangeAt g 0 l := fun j v hj => by rw [Nat.zero_add, h.cell, hj]
theorem Row.loads {w : World} {g t n : Nat} {l : List Value} (h : Row w g t l) (hn : l.length = n) : (loadCellsFrom ⟨g, 0, none⟩ 0 n #[]).run P w = .ok l.toArray w := by
  subst hn
  have := run_loadCells_list (P := P) w ⟨g, 0, none⟩ l h.src
  simpa [loadCells] using this
theorem Row.loadAt {w : World} {g t : Nat} {l : List Value} {ty : TypeId} {d : TypeDesc} (h : Row w g t l) (hu : P.underlying ty = some d) (hd : (match d with | .struct _ | .array _ _ => true | _ => false) = true) (hi : (P.info? ty).map (·.size) = some l.toArray.size) :
    (Instr.loadAt ty (.pointer (some ⟨g, 0, none⟩))).run P w = .ok (.agg l.toArray) w := by
  simp only [Instr.loadAt, Instr.sureAddr, Sem.run_bind, Sem.run_pure, Result.andThen_ok, run_loadVar_row w g t ty _ _ d h hu hd hi]
theorem run_store_cells {w : World} {g t : Nat} {old l : List Value} (hg : Row w g t old) (hl : old.length = l.length) (h1 : ∀ v ∈ l, v.oneCell' = true) :
    (storeCells ⟨g, 0, none⟩ l 0).run P w = .ok () (w.setRow g l.toArray) := by
  have := run_storeCells_from (P := P) g t l 0 old.toArray w hg (by simp; omega) h1
  simpa using this
theorem Row.cells_other {w : World} {g t k : Nat} {l : List Value} (h : Row w g t l) (hk : g ≠ k) (c : Array Value) : ∀ i, (w.setRow k c).cell? ⟨g, i, none⟩ = l[i]? := fun i => (h.setRow_other hk c).cell i

theorem results_row_tmp {fn : Func} {p u : Tmp} {ty : TypeId} (h : fn.results = #[.cell p ty, .tmp u]) (tmps : Array Value) (w : World) (g : Nat) (t : TypeId) (l : List Value) (d : TypeDesc)
    (hp : tmps.getD p undef = .pointer (some ⟨g, 0, none⟩)) (hg : Row w g t l)
    (hu : P.underlying ty = some d) (hd : (match d with | .struct _ | .array _ _ => true | _ => false) = true) (hi : (P.info? ty).map (·.size) = some l.toArray.size) :
    (results fn tmps).run P w = .ok (.tuple #[.agg l.toArray, tmps.getD u undef]) w := by
  rw [results_cell_tmp h, hp]
  simp only [asAddr, Sem.run_pure, Result.andThen_ok, run_loadVar_row w g t ty _ _ d hg hu hd hi]
end

end Go.Proofs.Ytngoighdpmeepaa
