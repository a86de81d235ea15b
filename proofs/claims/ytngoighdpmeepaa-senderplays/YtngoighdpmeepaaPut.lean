/-
  Layer 1: what word.Put comes to, at every argument of their types.
-/
import Derived.Test.YtngoighdpmeepaaRows
import Derived.Test.YtngoighdpmeepaaPlain
import Derived.WalkKit
import Derived.WalkSpells
import Derived.WalkLawsBesides
import Derived.Below
import Derived.OwnWalk
import Derived.Laws.IdiomStrings
import Derived.Lib.Slices
import Derived.Lib.Hide
namespace Go.Proofs.Ytngoighdpmeepaa
open Go.RowKit
set_option linter.unusedVariables false

theorem infoByte : (Try.prog.info? 5).map (fun i => (i.zero, i.size, i.bytes)) = some (some (.int .u8 0), 1, 1) := by kernel_rfl

/-- The shift and the cut of word.Put's round. -/
theorem byte_at (n i : Nat) : ((n : Int) / 2 ^ (8 * i)) % 256 = ((n / 256 ^ i % 256 : Nat) : Int) := by
  have : (2 : Nat) ^ (8 * i) = 256 ^ i := by rw [Nat.pow_mul]
  have e : (2 : Int) ^ (8 * i) = ((256 ^ i : Nat) : Int) := by rw [← this]; simp
  rw [e]; omega

set_option maxHeartbeats 400000 in
/-- word.Put behind the size's cut. -/
theorem put_mid (n k : Nat) (_h1 : n ≤ 18446744073709551615) (hk : k ≤ 8) (w : World) :
    Calls Try.prog 31 #[.int .u64 n, .int .i64 k] w fun e w' => e = .returned (.string ⟨(W.putL n k).toArray⟩) ∧ Below w.heap.size w w' := by
  obtain ⟨i0, hi, hz0, hz1, hz2⟩ := info_parts infoByte
  go_enter Try.func31, Try.ntmps31
  go_wp2_with (at_make; refine wpList_make_full _ rfl _ _ 83 rfl w.heap.size 5 i0 (.int .u8 0) 1 Try.underlying83 hi hz0 hz1 _ _ _ _ k rfl rfl rfl rfl (by rw [hz2]; omega) (by unfold maxLen; omega) (Nat.le_refl _) ?_)
  intro w1 hown hgrow
  rw [toList_madeCells_one, ← W.rowAt_zero n k] at hown
  have hb1 : Below w.heap.size w w1 := (Below.refl _ _).grown hgrow (Nat.le_refl _) (by simp)
  clear hgrow hi hz0 hz1 hz2
  go_wp2
  go_loopw [13] (fun v wr => ∃ j : Nat, j ≤ k ∧ v = .int .i64 j ∧ wr.ownsRow w.heap.size 5 1 (.slice (some ⟨w.heap.size, 0, none⟩) k k) k (W.rowAt n k j) ∧ Below w.heap.size w wr) (fun v _ => k - (intOf v).toNat)
  case atStart => exact ⟨0, Nat.zero_le _, rfl, hown, hb1⟩
  case round =>
    obtain ⟨j, hj, rfl, ho, hb⟩ := hrel
    by_cases hlt : j < k
    · have hc := (ho.cellAt (k - 1 - j) (by omega)).trans (W.rowAt_at n k j hlt)
      have hf := ho.frozenAt (k - 1 - j)
      have hst := (ho.stored (k - 1 - j) (.int .u8 ((n / 256 ^ j % 256 : Nat) : Int))).1
      rw [W.rowAt_step n k j hlt, ← byte_at] at hst
      have hbs := hb.setCell (p := ⟨w.heap.size, k - 1 - j, none⟩) (Nat.le_refl _) (.int .u8 ((n : Int) / 2 ^ (8 * j) % 256))
      go_wp2
      go_roundw
      case rel => exact ⟨j + 1, by omega, by go_num, hst, hbs⟩
      case measure => simp [intOf]; omega
    · obtain rfl : j = k := by omega
      rw [W.rowAt_full] at ho
      have hcv := run_convert_bytes_back (P := Try.prog) wr 83 9 5 ⟨w.heap.size, 0, none⟩ j (W.putL n j) Try.underlying83 Try.underlying5 Try.underlying9 (fun t ht => ho.cells (g := w.heap.size) rfl t _ (by simp [W.cellsOf, ht]))
      rw [W.putL_length] at hcv
      go_wp2
      go_ret
      exact ⟨rfl, hb⟩

set_option maxHeartbeats 400000 in
/-- word.Put behind the size's cut. -/
theorem put_low (n : Nat) (size : Int) (_h1 : n ≤ 18446744073709551615) (hs : size < 0) (w : World) :
    Calls Try.prog 31 #[.int .u64 n, .int .i64 size] w fun e w' => e = .returned (.string ⟨(W.putL n 0).toArray⟩) ∧ Below w.heap.size w w' := by
  obtain ⟨i0, hi, hz0, hz1, hz2⟩ := info_parts infoByte
  go_enter Try.func31, Try.ntmps31
  go_wp2_with (at_make; refine wpList_make_full _ rfl _ _ 83 rfl w.heap.size 5 i0 (.int .u8 0) 1 Try.underlying83 hi hz0 hz1 _ _ _ _ 0 rfl rfl rfl rfl (by rw [hz2]; omega) (by unfold maxLen; omega) (Nat.le_refl _) ?_)
  intro w1 hown hgrow
  rw [toList_madeCells_one, ← W.rowAt_zero n 0] at hown
  have hb1 : Below w.heap.size w w1 := (Below.refl _ _).grown hgrow (Nat.le_refl _) (by simp)
  clear hgrow hi hz0 hz1 hz2
  go_wp2
  have hcv := run_convert_bytes_back (P := Try.prog) w1 83 9 5 ⟨w.heap.size, 0, none⟩ 0 (W.putL n 0) Try.underlying83 Try.underlying5 Try.underlying9 (fun t ht => by simp [W.putL] at ht)
  rw [W.putL_length] at hcv
  refine wp_loop_rounds 1 ?_
  rw [rounds_succ]
  go_wp2
  go_ret
  exact ⟨rfl, hb1⟩

set_option maxHeartbeats 400000 in
/-- word.Put behind the size's cut. -/
theorem put_high (n : Nat) (size : Int) (_h1 : n ≤ 18446744073709551615) (hs : 8 < size) (w : World) :
    Calls Try.prog 31 #[.int .u64 n, .int .i64 size] w fun e w' => e = .returned (.string ⟨(W.putL n 8).toArray⟩) ∧ Below w.heap.size w w' := by
  obtain ⟨i0, hi, hz0, hz1, hz2⟩ := info_parts infoByte
  go_enter Try.func31, Try.ntmps31
  go_wp2_with (at_make; refine wpList_make_full _ rfl _ _ 83 rfl w.heap.size 5 i0 (.int .u8 0) 1 Try.underlying83 hi hz0 hz1 _ _ _ _ 8 rfl rfl rfl rfl (by rw [hz2]; omega) (by unfold maxLen; omega) (Nat.le_refl _) ?_)
  intro w1 hown hgrow
  rw [toList_madeCells_one, ← W.rowAt_zero n 8] at hown
  have hb1 : Below w.heap.size w w1 := (Below.refl _ _).grown hgrow (Nat.le_refl _) (by simp)
  clear hgrow hi hz0 hz1 hz2
  go_wp2
  go_loopw [13] (fun v wr => ∃ j : Nat, j ≤ 8 ∧ v = .int .i64 j ∧ wr.ownsRow w.heap.size 5 1 (.slice (some ⟨w.heap.size, 0, none⟩) 8 8) 8 (W.rowAt n 8 j) ∧ Below w.heap.size w wr) (fun v _ => 8 - (intOf v).toNat)
  case atStart => exact ⟨0, Nat.zero_le _, rfl, hown, hb1⟩
  case round =>
    obtain ⟨j, hj, rfl, ho, hb⟩ := hrel
    by_cases hlt : j < 8
    · have hc := (ho.cellAt (7 - j) (by omega)).trans (W.rowAt_at n 8 j hlt)
      have hf := ho.frozenAt (7 - j)
      have hst := (ho.stored (7 - j) (.int .u8 ((n / 256 ^ j % 256 : Nat) : Int))).1
      rw [W.rowAt_step n 8 j hlt, ← byte_at] at hst
      have hbs := hb.setCell (p := ⟨w.heap.size, 7 - j, none⟩) (Nat.le_refl _) (.int .u8 ((n : Int) / 2 ^ (8 * j) % 256))
      go_wp2
      go_roundw
      case rel => exact ⟨j + 1, by omega, by go_num, hst, hbs⟩
      case measure => simp [intOf]; omega
    · obtain rfl : j = 8 := by omega
      rw [W.rowAt_full] at ho
      have hcv := run_convert_bytes_back (P := Try.prog) wr 83 9 5 ⟨w.heap.size, 0, none⟩ 8 (W.putL n 8) Try.underlying83 Try.underlying5 Try.underlying9 (fun t ht => ho.cells (g := w.heap.size) rfl t _ (by simp [W.cellsOf, ht]))
      rw [W.putL_length] at hcv
      go_wp2
      go_ret
      exact ⟨rfl, hb⟩

/-- word.Put. -/
theorem put_any (n size : Int) (h0 : 0 ≤ n) (h1 : n ≤ 18446744073709551615) (w : World) :
    Calls Try.prog 31 #[.int .u64 n, .int .i64 size] w fun e w' => e = .returned (.string ⟨(W.putL n.toNat (W.clamp size)).toArray⟩) ∧ Below w.heap.size w w' := by
  obtain ⟨n, rfl⟩ := Int.eq_ofNat_of_zero_le h0
  rw [Int.toNat_natCast]
  by_cases a : size < 0
  · rw [W.clamp_low a]; exact put_low n size (by omega) a w
  · by_cases b : 8 < size
    · rw [W.clamp_high b]; exact put_high n size (by omega) b w
    · obtain ⟨k, rfl⟩ := Int.eq_ofNat_of_zero_le (show 0 ≤ size by omega)
      rw [W.clamp_mid (by omega)]; exact put_mid n k (by omega) (by omega) w

end Go.Proofs.Ytngoighdpmeepaa
