/-
  Layer 5: shifted, Box.
-/
import Derived.Test.YtbkeodgiflfakaaARows
namespace Go.Proofs.Ytbkeodgiflfakaa
open Go.RowKit
set_option linter.unusedVariables false
set_option maxRecDepth 20000

set_option maxHeartbeats 800000 in
theorem shift_any (b : List UInt8) (hb : b.length = 16) (w : World) :
    Calls Try.prog 75 #[.agg (W.cellsOf b).toArray, .agg (W.cellsOf E.sbox).toArray] w fun e w' => e = .returned (.agg (W.cellsOf (E.shift b)).toArray) ∧ Below w.heap.size w w' := by
  have HB := Lib.hid hb
  clear hb
  obtain ⟨box, hbox⟩ : ∃ box, box = E.sbox := ⟨_, rfl⟩
  have HL : Hid (box.length = 256) := by rw [hbox]; exact E.sbox_length
  have HS : Hid (∀ i, i < 16 → box.getD (b.getD ((i + i % 4 * 4) % 16) 0).toNat 0 = (E.shift b).getD i 0) := fun i hi => by rw [hbox]; simp [E.shift, E.sub, hi]
  rw [← hbox]
  clear hbox
  have hz : (List.replicate 16 (0 : UInt8)).length = 16 := by simp
  have hF : (E.shift b).length = (List.replicate 16 (0 : UInt8)).length := by rw [E.shift_length, hz]
  have HFull := Lib.hid (E.fill_full (E.shift_length b) hz)
  have HF := Lib.hid hF
  clear hF
  go_enter Try.func75, Try.ntmps75
  go_wp2
  go_loopw [6, 7, 8] (fun _ _ iv wr => ∃ j : Nat, j ≤ 16 ∧ iv = .int .i64 j ∧ Row wr w.heap.size 51 (W.cellsOf b) ∧ Row wr (w.heap.size + 1) 114 (W.cellsOf box) ∧ Row wr (w.heap.size + 1 + 1) 51 (W.cellsOf (List.replicate 16 0)) ∧ Row wr (w.heap.size + 1 + 1 + 1) 51 (W.cellsOf (E.fill (E.shift b) (List.replicate 16 0) j)) ∧ Below w.heap.size w wr) (fun _ _ iv _ => 16 - (intOf iv).toNat)
  case atStart =>
    refine ⟨0, Nat.zero_le _, rfl, ?_, ?_, ?_, ?_, ?_⟩
    · exact (((Row.new w _ _).alloc _).alloc _).alloc _
    · exact ((Row.new' rfl (by simp)).alloc _).alloc _
    · exact (Row.new' rfl (by simp)).alloc _
    · rw [E.fill_zero]; exact Row.new' rfl (by simp)
    · exact ((((Below.refl _ _).alloc (Nat.le_refl _) _).alloc (by simp) _).alloc (by simp; omega) _).alloc (by simp; omega) _
  case round =>
    obtain ⟨j, hj, rfl, r0, r1, r2, r3, hbl⟩ := hrel
    by_cases hlt : j < 16
    · have hq : (j + j % 4 * 4) % 16 < 16 := Nat.mod_lt _ (by decide)
      have c0 := (r0.cell ((j + j % 4 * 4) % 16)).trans (c8_at (by rw [HB.out]; exact hq))
      have HSj := Lib.hid (HS.out j hlt)
      have hx := (b.getD ((j + j % 4 * 4) % 16) 0).toNat_lt
      have c1 := (r1.cell (b.getD ((j + j % 4 * 4) % 16) 0).toNat).trans (c8_at (by rw [HL.out]; exact hx))
      rw [HSj.out] at c1
      have f3 := r3.frozen j
      have c3 := (r3.cell j).trans (c8_at (by rw [E.fill_length HF.out]; simpa using hlt))
      have r3' := r3.set j (.int .u8 (((E.shift b).getD j 0).toNat : Int))
      rw [c8_set, E.fill_step HF.out (by simpa using hlt)] at r3'
      clear HSj
      generalize (E.shift b).getD j 0 = z at *
      generalize b.getD ((j + j % 4 * 4) % 16) 0 = x at *
      have hm : ((j : Int) + (j : Int) % 4 * 4) % 16 = (((j + j % 4 * 4) % 16 : Nat) : Int) := by omega
      generalize (j + j % 4 * 4) % 16 = q at *
      have hs : (j : Int) < 16 := by omega
      go_wp2
      go_roundw
      case rel => exact ⟨j + 1, by omega, by go_num, (r0.other (by omega) _), (r1.other (by omega) _), (r2.other (by omega) _), r3', (hbl.setCell (by simp; omega) _)⟩
      case measure => simp [intOf]; omega
    · obtain rfl : j = 16 := by omega
      rw [HFull.out] at r3
      have hi := info16 (E.shift_length b)
      go_wp2_with (first | refine wpList_load_row rfl 51 _ rfl (w.heap.size + 1 + 1 + 1) rfl _ _ _ _ r3 Try.underlying51 rfl hi ?_ | refine wpList_store_row rfl 51 (.tmp 4) (.tmp 25) rfl (w.heap.size + 1 + 1) _ rfl rfl _ _ r2 hi (by simp [c8_len, E.shift_length]) (c8_all _) ?_)
      exact bodyPost_ret (results_cell_row rfl _ _ (w.heap.size + 1 + 1) _ _ _ _ rfl (r2.setRow (W.cellsOf (E.shift b))) Try.underlying51 rfl hi) rfl ⟨rfl, below_row hbl (by omega) _⟩

end Go.Proofs.Ytbkeodgiflfakaa
