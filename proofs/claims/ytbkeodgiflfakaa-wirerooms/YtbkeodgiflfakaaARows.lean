/-
  Layer 5: Box, laidOver, shifted.
-/
import Derived.Test.YtbkeodgiflfakaaABits
namespace Go.Proofs.Ytbkeodgiflfakaa
open Go.RowKit
set_option linter.unusedVariables false
set_option maxRecDepth 20000

theorem c8_at {b : List UInt8} {j : Nat} (h : j < b.length) : (W.cellsOf b)[j]? = some (Value.int .u8 ((b.getD j 0).toNat : Int)) := by simp [W.cellsOf, h]
theorem c8_set (l : List UInt8) (i : Nat) (x : UInt8) : (W.cellsOf l).set i (Value.int .u8 (x.toNat : Int)) = W.cellsOf (l.set i x) := by simp [W.cellsOf, List.map_set]
theorem c8_len (l : List UInt8) : (W.cellsOf l).length = l.length := by simp [W.cellsOf]
theorem c8_all (l : List UInt8) : (W.cellsOf l).toArray.all (·.oneCell') = true := by simp [W.cellsOf, Value.oneCell']
theorem c8_one (l : List UInt8) : ∀ v ∈ W.cellsOf l, v.oneCell' = true := by
  intro v hv
  obtain ⟨x, _, rfl⟩ := List.mem_map.1 hv
  rfl
theorem c8_append (a b : List UInt8) : W.cellsOf (a ++ b) = W.cellsOf a ++ W.cellsOf b := by simp [W.cellsOf]
theorem info16 {b : List UInt8} (h : b.length = 16) : (Try.prog.info? 51).map (·.size) = some (W.cellsOf b).toArray.size := by
  rw [List.size_toArray, c8_len, h]; kernel_rfl
theorem info256 {b : List UInt8} (h : b.length = 256) : (Try.prog.info? 114).map (·.size) = some (W.cellsOf b).toArray.size := by
  rw [List.size_toArray, c8_len, h]; kernel_rfl

set_option maxHeartbeats 400000 in
theorem over_any (b k : List UInt8) (hb : b.length = 16) (hk : k.length = 16) (w : World) :
    Calls Try.prog 73 #[.agg (W.cellsOf b).toArray, .agg (W.cellsOf k).toArray] w fun e w' => e = .returned (.agg (W.cellsOf (E.over b k)).toArray) ∧ Below w.heap.size w w' := by
  have HB := Lib.hid hb
  have HK := Lib.hid hk
  clear hb hk
  have hF : (E.over b k).length = b.length := by rw [E.over_length, HB.out]
  have HFull := Lib.hid (E.fill_full (E.over_length b k) HB.out)
  go_enter Try.func73, Try.ntmps73
  go_wp2
  go_loopw [5, 6] (fun _ iv wr => ∃ j : Nat, j ≤ 16 ∧ iv = .int .i64 j ∧ Row wr w.heap.size 51 (W.cellsOf (E.fill (E.over b k) b j)) ∧ Row wr (w.heap.size + 1) 51 (W.cellsOf k) ∧ Row wr (w.heap.size + 1 + 1) 51 (W.cellsOf (List.replicate 16 0)) ∧ Below w.heap.size w wr) (fun _ iv _ => 16 - (intOf iv).toNat)
  case atStart =>
    refine ⟨0, Nat.zero_le _, rfl, ?_, ?_, ?_, ?_⟩
    · rw [E.fill_zero]; exact ((Row.new w _ _).alloc _).alloc _
    · exact (Row.new' rfl (by simp)).alloc _
    · exact Row.new' rfl (by simp)
    · exact (((Below.refl _ _).alloc (Nat.le_refl _) _).alloc (by simp) _).alloc (by simp; omega) _
  case round =>
    obtain ⟨j, hj, rfl, r0, r1, r2, hbl⟩ := hrel
    by_cases hlt : j < 16
    · have hlen : j < b.length := by rw [HB.out]; exact hlt
      have c0 := (r0.cell j).trans (c8_at (by rw [E.fill_length hF]; exact hlen))
      rw [E.fill_at hF hlen] at c0
      have c1 := (r1.cell j).trans (c8_at (by rw [HK.out]; exact hlt))
      have f0 := r0.frozen j
      have r0' := r0.set j (.int .u8 ((b.getD j 0 ^^^ k.getD j 0).toNat : Int))
      rw [c8_set, show b.getD j 0 ^^^ k.getD j 0 = (E.over b k).getD j 0 from by simp [E.over, hlt], E.fill_step hF hlen] at r0'
      have hx := xor8 (b.getD j 0) (k.getD j 0)
      have HX : Hid ((b.getD j 0 ^^^ k.getD j 0) = (E.over b k).getD j 0) := by simp [Hid, E.over, hlt]
      rw [HX.out] at hx
      generalize (E.over b k).getD j 0 = z at *
      generalize b.getD j 0 = x at *
      generalize k.getD j 0 = y at *
      have hs : (j : Int) < 16 := by omega
      clear HX hlen
      go_wp2
      go_region
      go_wp2
      go_roundw
      case rel => exact ⟨j + 1, by omega, by go_num, r0'.drew, (r1.other (by omega) _).drew, (r2.other (by omega) _).drew, (hbl.setCell (by simp) _).drew⟩
      case measure => simp [intOf]; omega
    · obtain rfl : j = 16 := by omega
      rw [HFull.out] at r0
      have hi := info16 (E.over_length b k)
      go_wp2_with (first | refine wpList_load_row rfl 51 _ rfl w.heap.size rfl _ _ _ _ r0 Try.underlying51 rfl hi ?_ | refine wpList_store_row rfl 51 (.tmp 4) (.tmp 18) rfl (w.heap.size + 1 + 1) _ rfl rfl _ _ r2 hi (by simp [c8_len, E.over_length]) (c8_all _) ?_)
      exact bodyPost_ret (results_cell_row rfl _ _ (w.heap.size + 1 + 1) _ _ _ _ rfl (r2.setRow (W.cellsOf (E.over b k))) Try.underlying51 rfl hi) rfl ⟨rfl, below_row hbl (by omega) _⟩

end Go.Proofs.Ytbkeodgiflfakaa
