/-
  Layer 2: what the digits of 0.5 come to as a text, at the place that is handed in.
-/
import Derived.Test.YtdcpacdfbbdnlaaDoorRDigits
import Derived.Test.YtdcpacdfbbdnlaaDoorPut
import Derived.OwnWalk
namespace Go.Proofs.YtdcpacdfbbdnlaaDoor
open Go.RowKit
set_option linter.unusedVariables false
set_option maxRecDepth 20000
set_option linter.unusedSimpArgs false

theorem one_cell (w : World) (v : Value) (T : TypeId) : ∀ j u, [v][j]? = some u → (w.alloc (.cells #[v] T)).cell? ((⟨w.heap.size, 0, none⟩ : Addr).add j) = some u := by
  intro j u hj
  match j, hj with
  | 0, hj => simp at hj; subst hj; simp [Addr.add]

set_option maxHeartbeats 4000000 in
set_option maxRecDepth 100000 in
theorem fmtEFG_half (d b : Nat) (w : World) (hd : d < b) (ho : w.ownsRow d 5 1 (.slice (some ⟨d, 0, none⟩) 0 24) 0 []) (h5 : w.cell? ⟨b, 0, none⟩ = some (.int .u8 53)) :
    Calls Tryd.prog 55 #[.slice (some ⟨d, 0, none⟩) 0 24, .bool false, .slice (some ⟨b, 0, none⟩) 32 32, .int .i64 0, .int .i64 1, .int .i64 1, .int .u8 103, .bool true] w fun e w' =>
      e = .returned (.slice (some ⟨d, 0, none⟩) 3 24) ∧ w'.ownsRow d 5 1 (.slice (some ⟨d, 0, none⟩) 3 24) 3 [.int .u8 48, .int .u8 46, .int .u8 53] ∧ Below d w w' := by
  obtain ⟨i0, hi, hz0, hz1, hz2⟩ := info_parts infoByte
  have hbs : b < w.heap.size := World.block_lt_of_cell? _ _ h5
  have m1 : max (1 : Int) 0 = 1 := by decide
  have m2 : min (1 : Int) 0 = 0 := by decide
  have m3 : max (0 : Int) 1 = 1 := by decide
  have m4 : min (1 : Int) 1 = 1 := by decide
  have m5 : max (0 : Int) 0 = 0 := by decide
  go_enter Tryd.func55, Tryd.ntmps55
  go_wp2_with (at_builtin; refine wpList_append_fits _ rfl _ _ 66 rfl d 5 i0 1 Tryd.underlying66 hi hz1 d 0 24 [] rfl (ho.alloc _) ⟨w.heap.size, 0, none⟩ 1 1 [.int .u8 48] rfl rfl (one_cell w _ _) (by intro u hu; simp at hu; subst hu; rfl) (by decide) ?_)
  intro w1 ho1 hg1
  have hb1 : Below d w w1 := ((Below.refl _ _).alloc (by omega) _).grown hg1 (by simp; omega) (by simp)
  have hs1 : w.heap.size < w1.heap.size := by have := hg1.size; simp at this; omega
  have h51 : w1.cell? ⟨b, 0, none⟩ = some (.int .u8 53) := hg1.cell (by rw [World.cell?_alloc_past _ _ _ hbs]; exact h5) (by simp; omega)
  clear hg1 ho h5
  go_wp2_with (at_builtin; refine wpList_append_fits _ rfl _ _ 66 rfl d 5 i0 1 Tryd.underlying66 hi hz1 d 1 24 _ rfl (ho1.alloc _) ⟨w1.heap.size, 0, none⟩ 1 1 [.int .u8 46] rfl rfl (one_cell w1 _ _) (by intro u hu; simp at hu; subst hu; rfl) (by decide) ?_)
  intro w2 ho2 hg2
  have hb2 : Below d w w2 := (hb1.alloc (by omega) _).grown hg2 (by simp; omega) (by simp)
  have hs2 : w1.heap.size < w2.heap.size := by have := hg2.size; simp at this; omega
  have h52 : w2.cell? ⟨b, 0, none⟩ = some (.int .u8 53) := hg2.cell (by rw [World.cell?_alloc_past _ _ _ (by omega)]; exact h51) (by simp; omega)
  clear hg2 ho1 h51 hb1
  go_wp2_with fail
  refine wp_loop_rounds 1 ?_
  rw [rounds_succ]
  go_wp2_with fail
  refine wp_loop_rounds 2 ?_
  rw [rounds_succ]
  go_wp2_with (at_builtin; refine wpList_append_fits _ rfl _ _ 66 rfl d 5 i0 1 Tryd.underlying66 hi hz1 d 2 24 _ rfl (ho2.alloc _) ⟨w2.heap.size, 0, none⟩ 1 1 [.int .u8 53] rfl rfl (one_cell w2 _ _) (by intro u hu; simp at hu; subst hu; rfl) (by decide) ?_)
  intro w3 ho3 hg3
  have hb3 : Below d w w3 := (hb2.alloc (by omega) _).grown hg3 (by simp; omega) (by simp)
  clear hg3 ho2 h52 hb2
  go_wp2_with fail
  rw [rounds_succ]
  go_wp2_with fail
  refine wp_loop_rounds 1 ?_
  rw [rounds_succ]
  go_wp2_with fail
  go_ret
  exact ⟨rfl, ho3, hb3⟩

end Go.Proofs.YtdcpacdfbbdnlaaDoor
