/-
  Layer 2: the library's table of 128-bit powers of ten, laid as the list says, holds 10^17's at its place.
-/
import Derived.Test.YtdcpacdfbbdnlaaDoorRShort
import Derived.Lib.LaidU8
import Derived.OpenShut
import Derived.FnData
import Derived.KernelRfl
namespace Go.Proofs.YtdcpacdfbbdnlaaDoor
set_option linter.unusedVariables false
set_option maxRecDepth 20000

theorem tab_at : Tryd.prog.globalNamed "internal/strconv.pow10Tab" = some 3 := by kernel_rfl
theorem tab_type : (Tryd.prog.globals[3]?).map (·.type) = some 114 := by kernel_rfl
theorem tab_cells : Tryd.prog.cellsOf 113 = 2 := by kernel_rfl
theorem tab_cell1 : Tryd.prog.cellsOf 24 = 1 := by kernel_rfl
theorem rows_365 : Pinned.pow10Rows[365]? = some (12800000000000000000, 0) := by kernel_rfl

set_option maxRecDepth 100000 in
theorem tab_of_reads {W : World} (h : Lib.VarReads Tryd.prog W "internal/strconv.pow10Tab" Pinned.pow10Tab) : Tab W := by
  obtain ⟨g, t, cs, fuel, p, h1, h2, h3, h4⟩ := h
  rw [tab_at] at h1
  cases h1
  rw [tab_type] at h2
  cases h2
  have hc := World.var?_cell tab_at h3
  obtain ⟨xs, m, -, hx, -, hlen, hall⟩ := DataW.trod_array Tryd.underlying114 h4
  have h365 := hall 365 (by decide)
  rw [tab_cells] at h365
  obtain ⟨x, hxx⟩ : ∃ x, xs[365]? = some x := ⟨xs[365]'(by omega), List.getElem?_eq_getElem (by omega)⟩
  rw [hxx] at h365
  have e1 : Pinned.pow10Tab = DataW.agg (xs.map (·.1)) := congrArg Prod.fst hx
  unfold Pinned.pow10Tab at e1
  have e2 : (Pinned.pow10Rows.map fun x => (DataW.agg [.lit (.int .u64 x.1), .lit (.int .u64 x.2)] : DataW Unit)) = xs.map (·.1) := by injection e1
  have e3 := congrArg (·[365]?) e2
  simp only [List.getElem?_map, hxx, rows_365, Option.map_some] at e3
  have e4 : x.1 = DataW.agg ([12800000000000000000, 0].map fun z => .lit (.int .u64 z)) := (Option.some.inj e3).symm
  have h5 : DataW.trod (fun _ => ()) Tryd.prog W 0 (fun _ => true) false m 113 ((cs.toList.drop (365 * 2)).take 2) = some (DataW.agg ([12800000000000000000, 0].map fun z => .lit (.int .u64 z)), x.2) := by
    rw [h365, ← e4]
  have h6 := Lib.ints_of_struct Tryd.underlying113 (fun i f hf => by
    match i, hf with
    | 0, hf => cases hf; exact ⟨Tryd.underlying24, rfl, tab_cell1⟩
    | 1, hf => cases hf; exact ⟨Tryd.underlying24, rfl, tab_cell1⟩) tab_cells h5
  have g0 := congrArg (·[0]?) h6
  have g1 := congrArg (·[1]?) h6
  simp [List.getElem?_drop] at g0 g1
  exact ⟨by rw [hc]; simpa using g0, by rw [hc]; simpa using g1⟩

end Go.Proofs.YtdcpacdfbbdnlaaDoor
