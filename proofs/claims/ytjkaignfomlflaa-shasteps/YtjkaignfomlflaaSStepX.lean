/-
  Layer 3: sha.Step.
-/
import Derived.Test.YtjkaignfomlflaaSStep
import Derived.Test.YtjkaignfomlflaaSKeys
import Derived.Test.YtjkaignfomlflaaSCopy
import Derived.Test.YtjkaignfomlflaaSLaws
import Derived.Deep.RegionHeld3
namespace Go.Proofs.Ytjkaignfomlflaa
open Go.RowKit
set_option linter.unusedVariables false

theorem stepK_keys (h : List Nat) (b : List UInt8) : stepK S.keys h b = S.stepL h b := rfl

set_option maxHeartbeats 1000000 in
theorem stepX_no (h : List Nat) (s : ByteArray) (hh : h.length = 8) (hs : s.size ≠ 64) (hm : s.size ≤ 1000000) (w : World) :
    Calls Try.prog 10 #[.agg (u32s h).toArray, .string s] w fun e w' => e = .returned (.tuple #[.agg (u32s (List.replicate 8 0)).toArray, .int .i64 4]) ∧ Below w.heap.size w w' := by
  have hne : ((s.size : Int) != 64) = true := by rw [bne_iff_ne]; omega
  have hi : (Try.prog.info? 23).map (·.size) = some (u32s (List.replicate 8 0)).toArray.size := by kernel_rfl
  clear hs
  go_enter Try.func10, Try.ntmps10
  go_wp2_with (refine wpList_store_row rfl 23 (.tmp 4) (.tmp 9) rfl (w.heap.size + 1) (u32s (List.replicate 8 0)).toArray rfl rfl _ _ (Row.new' (l := u32s (List.replicate 8 0)) rfl (by simp)) hi rfl (u32s_one _) ?_)
  exact bodyPost_ret (results_row_tmp rfl _ _ (w.heap.size + 1) 23 (u32s (List.replicate 8 0)) _ rfl ((Row.new' (l := u32s (List.replicate 8 0)) rfl (by simp)).setRow _) Try.underlying23 rfl hi) rfl ⟨rfl, below_row (((Below.refl _ _).alloc (Nat.le_refl _) _).alloc (by simp) _) (by omega) _⟩

/-- Eight words, as cells. -/
def row8 (a b c d e f g i : Nat) : List Value := [.int .u32 (a : Int), .int .u32 (b : Int), .int .u32 (c : Int), .int .u32 (d : Int), .int .u32 (e : Int), .int .u32 (f : Int), .int .u32 (g : Int), .int .u32 (i : Int)]

set_option maxHeartbeats 1000000 in
theorem stepX_yes (h : List Nat) (s : ByteArray) (hh : h.length = 8) (oh : S.Ok h) (hs : s.size = 64) (w : World) :
    Calls Try.prog 10 #[.agg (u32s h).toArray, .string s] w fun e w' => e = .returned (.tuple #[.agg (u32s (S.stepL h s.data.toList)).toArray, .int .i64 0]) ∧ Below w.heap.size w w' := by
  have hne : ((s.size : Int) != 64) = false := by rw [bne_eq_false_iff_eq]; omega
  have hbl : s.data.toList.length = 64 := by simp; exact hs
  have ht : (s.data.toList.drop 0).take 64 = s.data.toList := by rw [List.drop_zero, List.take_of_length_le (by omega)]
  have cB := fun w => blockAt_any s 0 (by rw [hs]; decide) (by rw [hs]; decide) w
  rw [ht] at cB
  have HBL := Lib.hid hbl
  obtain ⟨a0, a1, a2, a3, a4, a5, a6, a7, ha⟩ := eight (S.stepL_length h s.data.toList)
  have cS := fun w => step_any S.keys h s.data.toList S.keys_length S.keys_ok hh oh hbl w
  rw [stepK_keys, ha] at cS
  rw [ha]
  obtain ⟨h0, h1, h2, h3, h4, h5, h6, h7, rfl⟩ := eight hh
  clear hs hh hbl ht ha oh
  have CS : Hid (∀ w, Calls Try.prog 21 #[.agg (row8 h0 h1 h2 h3 h4 h5 h6 h7).toArray, .agg (W.cellsOf s.data.toList).toArray, .agg (u32s S.keys).toArray] w fun e w' => e = .returned (.agg (row8 a0 a1 a2 a3 a4 a5 a6 a7).toArray) ∧ Below w.heap.size w w') := cS
  have CB : Hid (∀ w, Calls Try.prog 22 #[.string s, .int .i64 0] w fun e w' => e = .returned (.agg (W.cellsOf s.data.toList).toArray) ∧ Below w.heap.size w w') := cB
  clear cS cB
  have hi : (Try.prog.info? 23).map (·.size) = some (u32s [a0, a1, a2, a3, a4, a5, a6, a7]).toArray.size := by rw [List.size_toArray, u32s_length]; kernel_rfl
  show Calls Try.prog 10 #[.agg (row8 h0 h1 h2 h3 h4 h5 h6 h7).toArray, .string s] w _
  go_enter Try.func10, Try.ntmps10
  go_wp2
  obtain ⟨wa, hwa⟩ : ∃ wa, wa = (w.alloc (.cells (row8 h0 h1 h2 h3 h4 h5 h6 h7).toArray 23 (0, 0))).alloc (.cells (row8 0 0 0 0 0 0 0 0).toArray 23 (0, 0)) := ⟨_, rfl⟩
  have r0 : Row wa w.heap.size 23 (row8 h0 h1 h2 h3 h4 h5 h6 h7) := by rw [hwa]; exact (Row.new _ _ _).alloc _
  have r1 : Row wa (w.heap.size + 1) 23 (row8 0 0 0 0 0 0 0 0) := by rw [hwa]; exact Row.new' rfl (by simp)
  have hba : Below w.heap.size w wa := by rw [hwa]; exact ((Below.refl _ _).alloc (Nat.le_refl _) _).alloc (by simp) _
  show Code.wp _ _ _ _ ((w.alloc (.cells (row8 h0 h1 h2 h3 h4 h5 h6 h7).toArray 23 (0, 0))).alloc (.cells (row8 0 0 0 0 0 0 0 0).toArray 23 (0, 0)))
  rw [← hwa]
  clear hwa
  have s0 : ∀ i, wa.cell? ⟨w.heap.size, i, none⟩ = (row8 h0 h1 h2 h3 h4 h5 h6 h7)[i]? := r0.cell
  simp only [row8] at s0
  go_region_held3 (fun w' => ∀ i, w'.cell? ⟨w.heap.size, i, none⟩ = ([.int .u32 (h0 : Int), .int .u32 (h1 : Int), .int .u32 (h2 : Int), .int .u32 (h3 : Int), .int .u32 (h4 : Int), .int .u32 (h5 : Int), .int .u32 (h6 : Int), .int .u32 (h7 : Int)] : List Value)[i]?) (first | assumption | (intro i; simp only [World.cell?_drew]; exact s0 i) | (intro i; exact s4 i))
    (first
    | (go_at_call 22; refine (CB.out _).mono ?_; rintro e w1 ⟨rfl, b1⟩; have p0 := Row.under b1 r0.lt (show Row _ w.heap.size _ _ from r0); have s1 : ∀ i, w1.cell? ⟨w.heap.size, i, none⟩ = _ := p0.cell; have p1 := Row.under b1 r1.lt (show Row _ (w.heap.size + 1) _ _ from r1); have hb1 : Below w.heap.size w w1 := (hba.drew).trans (b1.mono hba.size); simp only [row8] at s1; clear b1)
    | (go_at_call 5; refine (Keys_any _).mono ?_; rintro e w2 ⟨rfl, b2⟩; have q0 := Row.under b2 p0.lt p0; have s2 : ∀ i, w2.cell? ⟨w.heap.size, i, none⟩ = _ := q0.cell; have q1 := Row.under b2 p1.lt p1; have hb2 : Below w.heap.size w w2 := hb1.trans (b2.mono hb1.size); simp only [row8] at s2; clear b2)
    | (go_at_call 21; refine (CS.out _).mono ?_; rintro e w3 ⟨rfl, b3⟩; have u0 := Row.under b3 q0.lt q0; have s3 : ∀ i, w3.cell? ⟨w.heap.size, i, none⟩ = _ := u0.cell; have u1 := Row.under b3 q1.lt q1; have hst := run_store_cells (P := Try.prog) (l := row8 a0 a1 a2 a3 a4 a5 a6 a7) u1 rfl (u32s_cell [a0, a1, a2, a3, a4, a5, a6, a7]); have s4 := u0.cells_other (k := w.heap.size + 1) (by omega) (row8 a0 a1 a2 a3 a4 a5 a6 a7).toArray; have hb3 : Below w.heap.size w w3 := hb2.trans (b3.mono hb2.size); simp only [row8] at s3; clear b3))
  go_wp2
  exact bodyPost_ret (results_row_tmp rfl _ _ (w.heap.size + 1) 23 (row8 a0 a1 a2 a3 a4 a5 a6 a7) _ rfl (u1.setRow (row8 a0 a1 a2 a3 a4 a5 a6 a7)) Try.underlying23 rfl hi) rfl ⟨rfl, below_row hb3 (by omega) _⟩

end Go.Proofs.Ytjkaignfomlflaa
