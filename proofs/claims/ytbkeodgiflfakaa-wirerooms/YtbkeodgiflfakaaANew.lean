/-
  Layer 5: New, Rounds.
-/
import Derived.Test.YtbkeodgiflfakaaAEnc
import Derived.Test.YtbkeodgiflfakaaACopy
import Derived.Test.YtbkeodgiflfakaaSLaws
namespace Go.Proofs.Ytbkeodgiflfakaa
open Go.RowKit
set_option linter.unusedVariables false
set_option maxRecDepth 20000

set_option maxHeartbeats 800000 in
theorem new_no (s : ByteArray) (hs : s.size ≠ 16) (w : World) :
    Calls Try.prog 55 #[.string s] w fun e w' => e = .returned (.tuple #[.agg (W.cellsOf (List.replicate 16 0)).toArray, .int .i64 4]) ∧ Below w.heap.size w w' := by
  have hi := info16k (b := List.replicate 16 0) rfl
  have hn : ¬ ((s.size : Int) = 16) := by omega
  go_enter Try.func55, Try.ntmps55
  go_wp2_with (first | refine wpList_store_new rfl 53 (.tmp 2) (.tmp 8) rfl w _ (W.cellsOf (List.replicate 16 0)).toArray _ _ rfl rfl rfl hi rfl (c8_all _) ?_)
  exact bodyPost_ret (results_row_tmp rfl _ _ w.heap.size 53 (W.cellsOf (List.replicate 16 0)) _ rfl (Row.new' rfl rfl) Try.underlying53 rfl hi) rfl ⟨rfl, (Below.refl _ _).alloc (Nat.le_refl _) _⟩

set_option maxHeartbeats 800000 in
theorem new_yes (s : ByteArray) (hs : s.size = 16) (w : World) :
    Calls Try.prog 55 #[.string s] w fun e w' => e = .returned (.tuple #[.agg (W.cellsOf s.data.toList).toArray, .int .i64 0]) ∧ Below w.heap.size w w' := by
  have hl : s.data.toList.length = 16 := by simpa using hs
  have hi := info16k hl
  have hn : (s.size : Int) = 16 := by omega
  have HM : Hid (Nat.min s.size 16 = 16) := by rw [hs]; rfl
  have HT : Hid (splice (W.cellsOf (List.replicate 16 0)) 0 (W.cellsOf (s.data.toList.take 16)) = W.cellsOf s.data.toList) := by
    rw [List.take_of_length_le (by omega)]
    exact splice_whole (by rw [c8_len, c8_len, hl]; rfl)
  have r0 : Row ((w.alloc (.cells (W.cellsOf (List.replicate 16 0)).toArray 53 (0, 0))).alloc (.cells (W.cellsOf (List.replicate 16 0)).toArray 53 (0, 0))) w.heap.size 53 (W.cellsOf (List.replicate 16 0)) := (Row.new' rfl rfl).alloc _
  have r1 : Row ((w.alloc (.cells (W.cellsOf (List.replicate 16 0)).toArray 53 (0, 0))).alloc (.cells (W.cellsOf (List.replicate 16 0)).toArray 53 (0, 0))) (w.heap.size + 1) 53 (W.cellsOf (List.replicate 16 0)) := Row.new' rfl (by simp)
  have hba : Below w.heap.size w ((w.alloc (.cells (W.cellsOf (List.replicate 16 0)).toArray 53 (0, 0))).alloc (.cells (W.cellsOf (List.replicate 16 0)).toArray 53 (0, 0))) := ((Below.refl _ _).alloc (Nat.le_refl _) _).alloc (by simp) _
  have q1 := r1.setRow (splice (W.cellsOf (List.replicate 16 0)) 0 (W.cellsOf (s.data.toList.take 16)))
  have q0 := r0.setRow_other (show w.heap.size ≠ w.heap.size + 1 by omega) (splice (W.cellsOf (List.replicate 16 0)) 0 (W.cellsOf (s.data.toList.take 16))).toArray
  have hbb := below_row hba (show w.heap.size ≤ w.heap.size + 1 by omega) (splice (W.cellsOf (List.replicate 16 0)) 0 (W.cellsOf (s.data.toList.take 16))).toArray
  rw [HT.out] at q1 q0 hbb
  have HL := Lib.hid hl
  clear hs hl hba
  go_enter Try.func55, Try.ntmps55
  go_wp2_with (first
    | (refine wpList_copyS rfl (.tmp 10) (.tmp 11) 78 9 rfl 5 Try.underlying78 (by kernel_rfl) (w.heap.size + 1) 0 16 16 16 rfl s rfl _ _ r1 HM.out (by rw [c8_len]; decide) ?_; rw [HT.out])
    | refine wpList_load_row rfl 53 (.tmp 4) rfl (w.heap.size + 1) rfl _ _ _ _ q1 Try.underlying53 rfl hi ?_
    | refine wpList_store_row rfl 53 (.tmp 2) (.tmp 13) rfl w.heap.size _ rfl rfl _ _ q0 hi (by rw [List.size_toArray, List.size_toArray, c8_len, c8_len, HL.out]; rfl) (c8_all _) ?_)
  exact bodyPost_ret (results_row_tmp rfl _ _ w.heap.size 53 (W.cellsOf s.data.toList) _ rfl (q0.setRow _) Try.underlying53 rfl hi) rfl ⟨rfl, below_row hbb (by omega) _⟩

end Go.Proofs.Ytbkeodgiflfakaa
