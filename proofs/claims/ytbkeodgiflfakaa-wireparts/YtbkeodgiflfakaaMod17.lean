/-
  Several texts in one module: ANew, AAwake.
-/
import Derived.Test.YtbkeodgiflfakaaMod8
import Derived.Test.YtbkeodgiflfakaaMod15
import Derived.Test.YtbkeodgiflfakaaMod11
/-
  Layer 5: New, Rounds.
-/
namespace Go.Proofs.Ytbkeodgiflfakaa
open Go.RowKit
set_option linter.unusedVariables false
set_option maxRecDepth 20000

set_option maxHeartbeats 800000 in
theorem new_no (s : ByteArray) (hs : s.size ≠ 16) (w : World) :
    Calls Try.prog 55 #[.string s] w fun e w' => e = .returned (.tuple #[.agg (W.cellsOf (List.replicate 16 0)).toArray, .int .i64 4]) ∧ Below w.heap.size w w' := by
  have hi := info16k (b := List.replicate 16 0) rfl
  have hn : ¬ ((s.size : Int) = 16) := by omega
  go_enter Try.func55, Try.ntmps55
  go_wp2_with (first | refine wpList_store_new rfl 53 (.tmp 2) (.tmp 8) rfl w _ (W.cellsOf (List.replicate 16 0)).toArray _ _ rfl rfl rfl hi rfl (c8_all _) ?_)
  exact bodyPost_ret (results_row_tmp rfl _ _ w.heap.size 53 (W.cellsOf (List.replicate 16 0)) _ rfl (Row.new' rfl rfl) Try.underlying53 rfl hi) rfl ⟨rfl, (Below.refl _ _).alloc (Nat.le_refl _) _⟩

set_option maxHeartbeats 800000 in
theorem new_yes (s : ByteArray) (hs : s.size = 16) (w : World) :
    Calls Try.prog 55 #[.string s] w fun e w' => e = .returned (.tuple #[.agg (W.cellsOf s.data.toList).toArray, .int .i64 0]) ∧ Below w.heap.size w w' := by
  have hl : s.data.toList.length = 16 := by simpa using hs
  have hi := info16k hl
  have hn : (s.size : Int) = 16 := by omega
  have HM : Hid (Nat.min s.size 16 = 16) := by rw [hs]; rfl
  have HT : Hid (splice (W.cellsOf (List.replicate 16 0)) 0 (W.cellsOf (s.data.toList.take 16)) = W.cellsOf s.data.toList) := by
    rw [List.take_of_length_le (by omega)]
    exact splice_whole (by rw [c8_len, c8_len, hl]; rfl)
  have r0 : Row ((w.alloc (.cells (W.cellsOf (List.replicate 16 0)).toArray 53 (0, 0))).alloc (.cells (W.cellsOf (List.replicate 16 0)).toArray 53 (0, 0))) w.heap.size 53 (W.cellsOf (List.replicate 16 0)) := (Row.new' rfl rfl).alloc _
  have r1 : Row ((w.alloc (.cells (W.cellsOf (List.replicate 16 0)).toArray 53 (0, 0))).alloc (.cells (W.cellsOf (List.replicate 16 0)).toArray 53 (0, 0))) (w.heap.size + 1) 53 (W.cellsOf (List.replicate 16 0)) := Row.new' rfl (by simp)
  have hba : Below w.heap.size w ((w.alloc (.cells (W.cellsOf (List.replicate 16 0)).toArray 53 (0, 0))).alloc (.cells (W.cellsOf (List.replicate 16 0)).toArray 53 (0, 0))) := ((Below.refl _ _).alloc (Nat.le_refl _) _).alloc (by simp) _
  have q1 := r1.setRow (splice (W.cellsOf (List.replicate 16 0)) 0 (W.cellsOf (s.data.toList.take 16)))
  have q0 := r0.setRow_other (show w.heap.size ≠ w.heap.size + 1 by omega) (splice (W.cellsOf (List.replicate 16 0)) 0 (W.cellsOf (s.data.toList.take 16))).toArray
  have hbb := below_row hba (show w.heap.size ≤ w.heap.size + 1 by omega) (splice (W.cellsOf (List.replicate 16 0)) 0 (W.cellsOf (s.data.toList.take 16))).toArray
  rw [HT.out] at q1 q0 hbb
  have HL := Lib.hid hl
  clear hs hl hba
  go_enter Try.func55, Try.ntmps55
  go_wp2_with (first
    | (refine wpList_copyS rfl (.tmp 10) (.tmp 11) 78 9 rfl 5 Try.underlying78 (by kernel_rfl) (w.heap.size + 1) 0 16 16 16 rfl s rfl _ _ r1 HM.out (by rw [c8_len]; decide) ?_; rw [HT.out])
    | refine wpList_load_row rfl 53 (.tmp 4) rfl (w.heap.size + 1) rfl _ _ _ _ q1 Try.underlying53 rfl hi ?_
    | refine wpList_store_row rfl 53 (.tmp 2) (.tmp 13) rfl w.heap.size _ rfl rfl _ _ q0 hi (by rw [List.size_toArray, List.size_toArray, c8_len, c8_len, HL.out]; rfl) (c8_all _) ?_)
  exact bodyPost_ret (results_row_tmp rfl _ _ w.heap.size 53 (W.cellsOf s.data.toList) _ rfl (q0.setRow _) Try.underlying53 rfl hi) rfl ⟨rfl, below_row hbb (by omega) _⟩

end Go.Proofs.Ytbkeodgiflfakaa

/-
  Layer 5's example: awake.
-/
namespace Go.Proofs.Ytbkeodgiflfakaa
open Go.RowKit
set_option linter.unusedVariables false
set_option maxRecDepth 20000

def exKey : List UInt8 := [0, 1, 2, 3, 4, 5, 6, 7, 8, 9, 10, 11, 12, 13, 14, 15]
def exBlock : List UInt8 := [0, 17, 34, 51, 68, 85, 102, 119, 136, 153, 170, 187, 204, 221, 238, 255]
theorem ex_at : ∀ j, j < 16 → ((exBlock.getD j 0).toNat : Int) = 17 * (j : Int) := by decide +kernel
set_option maxRecDepth 20000 in
theorem ex_enc : E.enc exKey exBlock = [105, 196, 224, 216, 106, 123, 4, 48, 216, 205, 183, 128, 112, 180, 197, 90] := by decide +kernel

set_option maxHeartbeats 2000000 in
theorem awake5_any (w : World) : Calls Try.prog 100 #[] w fun e w' => e = .returned (.bool true) ∧ Below w.heap.size w w' := by
  have CN : Hid (∀ wx, Calls Try.prog 55 #[.string ⟨#[0, 1, 2, 3, 4, 5, 6, 7, 8, 9, 10, 11, 12, 13, 14, 15]⟩] wx fun e w' => e = .returned (.tuple #[.agg (W.cellsOf exKey).toArray, .int .i64 0]) ∧ Below wx.heap.size wx w') := fun wx => new_yes ⟨#[0, 1, 2, 3, 4, 5, 6, 7, 8, 9, 10, 11, 12, 13, 14, 15]⟩ rfl wx
  have CE : Hid (∀ wx, Calls Try.prog 64 #[.agg (W.cellsOf exKey).toArray, .agg (W.cellsOf exBlock).toArray] wx fun e w' => e = .returned (.agg (W.cellsOf [105, 196, 224, 216, 106, 123, 4, 48, 216, 205, 183, 128, 112, 180, 197, 90]).toArray) ∧ Below wx.heap.size wx w') := fun wx => by rw [← ex_enc]; exact enc_any exKey exBlock rfl rfl wx
  have hkl : exKey.length = 16 := rfl
  have hbl : exBlock.length = 16 := rfl
  have HEX := Lib.hid ex_at
  have HKL := Lib.hid hkl
  have HBL := Lib.hid hbl
  have hik := info16k hkl
  have hib := info16 hbl
  generalize exKey = ky at *
  generalize exBlock = bl at *
  have hz : (List.replicate 16 (0 : UInt8)).length = 16 := rfl
  have HF : Hid (bl.length = (List.replicate 16 (0 : UInt8)).length) := by rw [hz]; exact HBL.out
  have HFull := Lib.hid (E.fill_full HBL.out hz)
  have HO1 : Hid ((W.cellsOf (List.replicate 16 0)).toArray.size = (W.cellsOf ky).toArray.size) := by rw [List.size_toArray, List.size_toArray, c8_len, c8_len, HKL.out]; rfl
  clear hkl hbl hz
  go_enter Try.func100, Try.ntmps100
  go_wp2_with fail
  refine (CN.out _).mono ?_
  rintro e w1 ⟨rfl, b1⟩
  have hz1 := b1.size
  have r1 : Row (w1.alloc (.cells (W.cellsOf ky).toArray 53 (0, 0))) w1.heap.size 53 (W.cellsOf ky) := Row.new' rfl rfl
  go_wp2_with (first | refine wpList_store_new rfl 53 (.tmp 1) (.tmp 8) rfl w1 _ _ _ _ rfl rfl rfl hik HO1.out (c8_all _) ?_)
  go_loopw [4, 10] (fun _ iv wr => ∃ j : Nat, j ≤ 16 ∧ iv = .int .i64 j ∧ Row wr w1.heap.size 53 (W.cellsOf ky) ∧ Row wr (w1.heap.size + 1) 51 (W.cellsOf (E.fill bl (List.replicate 16 0) j)) ∧ Below w.heap.size w wr) (fun _ iv _ => 16 - (intOf iv).toNat)
  case atStart => exact ⟨0, Nat.zero_le _, rfl, r1.alloc _, by rw [E.fill_zero]; exact Row.new' rfl (by simp), ((b1.alloc hz1 _).alloc (by simp; omega) _)⟩
  case round =>
    clear r1 b1
    obtain ⟨j, hj, rfl, r1, r2, rb⟩ := hrel
    by_cases hlt : j < 16
    · have hs : (j : Int) < 16 := by omega
      have he := Lib.hid (HEX.out j hlt)
      have f2 := r2.frozen j
      have c2 := (r2.cell j).trans (c8_at (by rw [E.fill_length HF.out]; exact hlt))
      have r2' := r2.set j (.int .u8 ((bl.getD j 0).toNat : Int))
      rw [c8_set, E.fill_step HF.out (by exact hlt), he.out] at r2'
      go_wp2
      go_roundw
      case rel => exact ⟨j + 1, by omega, by go_num, r1.other (by omega) _, r2', rb.setCell (by simp; omega) _⟩
      case measure => simp [intOf]; omega
    · obtain rfl : j = 16 := by omega
      rw [HFull.out] at r2
      go_wp2_with (first | refine wpList_load_row rfl 53 (.tmp 1) rfl w1.heap.size rfl _ _ _ _ r1 Try.underlying53 rfl hik ?_ | refine wpList_load_row rfl 51 (.tmp 3) rfl (w1.heap.size + 1) rfl _ _ _ _ r2 Try.underlying51 rfl hib ?_)
      refine (CE.out _).mono ?_
      rintro e w3 ⟨rfl, b3⟩
      have hb3 : Below w.heap.size w w3 := rb.trans (b3.mono rb.size)
      have hz3 := hb3.size
      have hie := info16 (b := [105, 196, 224, 216, 106, 123, 4, 48, 216, 205, 183, 128, 112, 180, 197, 90]) rfl
      have s3 : Row (w3.alloc (.cells (W.cellsOf [105, 196, 224, 216, 106, 123, 4, 48, 216, 205, 183, 128, 112, 180, 197, 90]).toArray 51 (0, 0))) w3.heap.size 51 (W.cellsOf [105, 196, 224, 216, 106, 123, 4, 48, 216, 205, 183, 128, 112, 180, 197, 90]) := Row.new' rfl rfl
      have d0 : (w3.alloc (.cells (W.cellsOf [105, 196, 224, 216, 106, 123, 4, 48, 216, 205, 183, 128, 112, 180, 197, 90]).toArray 51 (0, 0))).cell? ⟨w3.heap.size, 0, none⟩ = some (.int .u8 105) := s3.cell 0
      have d1 : (w3.alloc (.cells (W.cellsOf [105, 196, 224, 216, 106, 123, 4, 48, 216, 205, 183, 128, 112, 180, 197, 90]).toArray 51 (0, 0))).cell? ⟨w3.heap.size, 1, none⟩ = some (.int .u8 196) := s3.cell 1
      have d15 : (w3.alloc (.cells (W.cellsOf [105, 196, 224, 216, 106, 123, 4, 48, 216, 205, 183, 128, 112, 180, 197, 90]).toArray 51 (0, 0))).cell? ⟨w3.heap.size, 15, none⟩ = some (.int .u8 90) := s3.cell 15
      have hb4 := hb3.alloc hz3 (.cells (W.cellsOf [105, 196, 224, 216, 106, 123, 4, 48, 216, 205, 183, 128, 112, 180, 197, 90]).toArray 51 (0, 0))
      clear b3 hb3 r1 r2 rb s3
      obtain ⟨ce, hce⟩ : ∃ ce, ce = W.cellsOf [105, 196, 224, 216, 106, 123, 4, 48, 216, 205, 183, 128, 112, 180, 197, 90] := ⟨_, rfl⟩
      have hce16 : (W.cellsOf (List.replicate 16 0)).toArray.size = ce.toArray.size := by rw [hce]; rfl
      have hcall := c8_all [105, 196, 224, 216, 106, 123, 4, 48, 216, 205, 183, 128, 112, 180, 197, 90]
      rw [← hce] at hcall hie d0 d1 d15 hb4
      rw [← hce]
      clear hce
      go_wp2_with (first | refine wpList_store_new rfl 51 (.tmp 5) (.tmp 21) rfl w3 _ _ _ _ rfl rfl rfl hie hce16 hcall ?_)
      go_ret
      exact ⟨rfl, hb4⟩

end Go.Proofs.Ytbkeodgiflfakaa
