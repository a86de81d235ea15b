/-
  Layer 3: the words of a block.
-/
import Derived.Test.YtbkeodgiflfakaaSBits
import Derived.Test.YtbkeodgiflfakaaSWordsPlain
import Derived.OwnWalk
import Derived.RegionTactic
import Derived.Lib.Hide
namespace Go.Proofs.Ytbkeodgiflfakaa
open Go.RowKit
set_option linter.unusedVariables false
set_option maxRecDepth 20000

theorem or_byte (x y : Nat) (hx : x < 16777216) (hy : y < 256) : bits .or .u32 ((x : Int) * 256) (y : Int) = ((x * 256 + y : Nat) : Int) := by
  rw [show (x : Int) * 256 = ((x * 256 : Nat) : Int) from by omega, u32_or_nat _ _ (by omega) (by omega), nat_join 8 _ _ (by omega) (by omega)]

theorem cellsOf_at {b : List UInt8} {j : Nat} (h : j < b.length) : (W.cellsOf b)[j]? = some (Value.int .u8 (b[j].toNat : Int)) := by simp [W.cellsOf, h]

set_option maxHeartbeats 400000 in
theorem firstWords_any (b : List UInt8) (hb : b.length = 64) (w : World) :
    Calls Try.prog 102 #[.agg (W.cellsOf b).toArray] w fun e w' => e = .returned (.agg (u32s (S.words16 b)).toArray) ∧ Below w.heap.size w w' := by
  have hb' := Lib.hid hb
  clear hb
  go_enter Try.func102, Try.ntmps102
  go_wp2
  go_loopw [4, 5] (fun _ iv wr => ∃ j : Nat, j ≤ 64 ∧ iv = .int .i64 j ∧ Row wr w.heap.size 110 (W.cellsOf b) ∧ Row wr (w.heap.size + 1) 143 (u32s (S.fw b 0)) ∧ Row wr (w.heap.size + 1 + 1) 143 (u32s (S.fw b j)) ∧ Below w.heap.size w wr) (fun _ iv _ => 64 - (intOf iv).toNat)
  case atStart =>
    refine ⟨0, Nat.zero_le _, rfl, ?_, ?_, ?_, ?_⟩
    · exact ((Row.new w _ _).alloc _).alloc _
    · rw [S.fw_zero]; exact (Row.new' rfl (by simp)).alloc _
    · rw [S.fw_zero]; exact Row.new' rfl (by simp)
    · exact (((Below.refl _ _).alloc (Nat.le_refl _) _).alloc (by simp) _).alloc (by simp; omega) _
  case round =>
    obtain ⟨j, hj, rfl, r0, r1, r2, hbl⟩ := hrel
    by_cases hlt : j < 64
    · have hlen : j < b.length := by rw [hb'.out]; exact hlt
      have c0 := (r0.cell j).trans (cellsOf_at hlen)
      have c2 := (r2.cell (j / 4)).trans (u32s_at (by rw [S.fw_length]; omega))
      have f2 := r2.frozen (j / 4)
      have hx := S.fw_lt b j hlt
      have hy := b[j].toNat_lt
      have r2' := r2.set (j / 4) (.int .u32 (((S.fw b j).getD (j / 4) 0 * 256 + b[j].toNat : Nat) : Int))
      rw [u32s_set, S.fw_step b hb'.out j hlt] at r2'
      generalize (S.fw b j).getD (j / 4) 0 = x at c2 hx r2'
      have ho := or_byte _ _ hx hy
      go_wp2
      go_region
      go_wp2
      go_roundw
      case rel => exact ⟨j + 1, by omega, by go_num, (r0.other (by omega) _).drew, (r1.other (by omega) _).drew, r2'.drew, (hbl.setCell (by simp; omega) _).drew⟩
      case measure => simp [intOf]; omega
    · obtain rfl : j = 64 := by omega
      rw [S.fw_full b hb'.out] at r2
      have hi : (Try.prog.info? 143).map (·.size) = some (u32s (S.words16 b)).toArray.size := by rw [List.size_toArray, u32s_length, S.words16_length]; kernel_rfl
      go_wp2_with (first | refine wpList_load_row rfl 143 _ rfl (w.heap.size + 1 + 1) rfl _ _ _ _ r2 Try.underlying143 rfl hi ?_ | refine wpList_store_row rfl 143 (.tmp 2) (.tmp 22) rfl (w.heap.size + 1) _ rfl rfl _ _ r1 hi (by simp [u32s_length, S.fw_length, S.words16_length]) (u32s_one _) ?_)
      exact bodyPost_ret (results_cell_row rfl _ _ (w.heap.size + 1) _ _ _ _ rfl (r1.setRow (u32s (S.words16 b))) Try.underlying143 rfl hi) rfl ⟨rfl, below_row hbl (by omega) _⟩

end Go.Proofs.Ytbkeodgiflfakaa
