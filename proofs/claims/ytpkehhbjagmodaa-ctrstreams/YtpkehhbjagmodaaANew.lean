/-
  Layer 5: New, Rounds.
-/
import Derived.Test.YtpkehhbjagmodaaAEnc
import Derived.Test.YtpkehhbjagmodaaACopy
import Derived.Test.YtpkehhbjagmodaaSLaws
namespace Go.Proofs.Ytpkehhbjagmodaa
open Go.RowKit
set_option linter.unusedVariables false

set_option maxHeartbeats 800000 in
theorem new_no (s : ByteArray) (hs : s.size ≠ 16) (w : World) :
    Calls Try.prog 12 #[.string s] w fun e w' => e = .returned (.tuple #[.agg (W.cellsOf (List.replicate 16 0)).toArray, .int .i64 4]) ∧ Below w.heap.size w w' := by
  have hi := info16k (b := List.replicate 16 0) rfl
  have hn : ¬ ((s.size : Int) = 16) := by omega
  go_enter Try.func12, Try.ntmps12
  go_wp2_with (first | refine wpList_store_new rfl 26 (.tmp 2) (.tmp 8) rfl w _ (W.cellsOf (List.replicate 16 0)).toArray _ _ rfl rfl rfl hi rfl (c8_all _) ?_)
  exact bodyPost_ret (results_row_tmp rfl _ _ w.heap.size 26 (W.cellsOf (List.replicate 16 0)) _ rfl (Row.new' rfl rfl) Try.underlying26 rfl hi) rfl ⟨rfl, (Below.refl _ _).alloc (Nat.le_refl _) _⟩

set_option maxHeartbeats 800000 in
theorem new_yes (s : ByteArray) (hs : s.size = 16) (w : World) :
    Calls Try.prog 12 #[.string s] w fun e w' => e = .returned (.tuple #[.agg (W.cellsOf s.data.toList).toArray, .int .i64 0]) ∧ Below w.heap.size w w' := by
  have hl : s.data.toList.length = 16 := by simpa using hs
  have hi := info16k hl
  have hn : (s.size : Int) = 16 := by omega
  have HM : Hid (Nat.min s.size 16 = 16) := by rw [hs]; rfl
  have HT : Hid (splice (W.cellsOf (List.replicate 16 0)) 0 (W.cellsOf (s.data.toList.take 16)) = W.cellsOf s.data.toList) := by
    rw [List.take_of_length_le (by omega)]
    exact splice_whole (by rw [c8_len, c8_len, hl]; rfl)
  have r0 : Row ((w.alloc (.cells (W.cellsOf (List.replicate 16 0)).toArray 26 (0, 0))).alloc (.cells (W.cellsOf (List.replicate 16 0)).toArray 26 (0, 0))) w.heap.size 26 (W.cellsOf (List.replicate 16 0)) := (Row.new' rfl rfl).alloc _
  have r1 : Row ((w.alloc (.cells (W.cellsOf (List.replicate 16 0)).toArray 26 (0, 0))).alloc (.cells (W.cellsOf (List.replicate 16 0)).toArray 26 (0, 0))) (w.heap.size + 1) 26 (W.cellsOf (List.replicate 16 0)) := Row.new' rfl (by simp)
  have hba : Below w.heap.size w ((w.alloc (.cells (W.cellsOf (List.replicate 16 0)).toArray 26 (0, 0))).alloc (.cells (W.cellsOf (List.replicate 16 0)).toArray 26 (0, 0))) := ((Below.refl _ _).alloc (Nat.le_refl _) _).alloc (by simp) _
  have q1 := r1.setRow (splice (W.cellsOf (List.replicate 16 0)) 0 (W.cellsOf (s.data.toList.take 16)))
  have q0 := r0.setRow_other (show w.heap.size ≠ w.heap.size + 1 by omega) (splice (W.cellsOf (List.replicate 16 0)) 0 (W.cellsOf (s.data.toList.take 16))).toArray
  have hbb := below_row hba (show w.heap.size ≤ w.heap.size + 1 by omega) (splice (W.cellsOf (List.replicate 16 0)) 0 (W.cellsOf (s.data.toList.take 16))).toArray
  rw [HT.out] at q1 q0 hbb
  have HL := Lib.hid hl
  clear hs hl hba
  go_enter Try.func12, Try.ntmps12
  go_wp2_with (first
    | (refine wpList_copyS rfl (.tmp 10) (.tmp 11) 30 9 rfl 5 Try.underlying30 (by kernel_rfl) (w.heap.size + 1) 0 16 16 16 rfl s rfl _ _ r1 HM.out (by rw [c8_len]; decide) ?_; rw [HT.out])
    | refine wpList_load_row rfl 26 (.tmp 4) rfl (w.heap.size + 1) rfl _ _ _ _ q1 Try.underlying26 rfl hi ?_
    | refine wpList_store_row rfl 26 (.tmp 2) (.tmp 13) rfl w.heap.size _ rfl rfl _ _ q0 hi (by rw [List.size_toArray, List.size_toArray, c8_len, c8_len, HL.out]; rfl) (c8_all _) ?_)
  exact bodyPost_ret (results_row_tmp rfl _ _ w.heap.size 26 (W.cellsOf s.data.toList) _ rfl (q0.setRow _) Try.underlying26 rfl hi) rfl ⟨rfl, below_row hbb (by omega) _⟩

set_option maxHeartbeats 800000 in
theorem rounds_any (k : List UInt8) (hk : k.length = 16) (w : World) :
    Calls Try.prog 15 #[.agg (W.cellsOf k).toArray] w fun e w' => e = .returned (.agg (W.cellsOf (E.rks k 11)).toArray) ∧ Below w.heap.size w w' := by
  have HK := Lib.hid hk
  clear hk
  obtain ⟨box, hbox⟩ : ∃ box, box = E.sbox := ⟨_, rfl⟩
  have CBX : Hid (∀ wx, Calls Try.prog 18 #[] wx fun e w' => e = .returned (.agg (W.cellsOf box).toArray) ∧ Below wx.heap.size wx w') := fun wx => by rw [hbox]; exact box_any wx
  have CKS : Hid (∀ wx, Calls Try.prog 32 #[.agg (W.cellsOf k).toArray, .agg (W.cellsOf box).toArray] wx fun e w' => e = .returned (.agg (W.cellsOf (E.rks k 11)).toArray) ∧ Below wx.heap.size wx w') := fun wx => by rw [hbox]; exact keys_any k HK.out wx
  clear hbox
  have HRKS := Lib.hid (E.rks_length HK.out 11)
  have hiks := info176 HRKS.out
  have hu1 : Try.prog.underlying 23 = some (.array 16 5) := Try.underlying23
  have hi1 := info16' HK.out
  have hzc : Try.zeroCells34 = (W.cellsOf (keyRow k 0)).toArray := by rw [keyRow_zero]; kernel_rfl
  have hsz : (W.cellsOf (keyRow k 0)).toArray.size = (W.cellsOf (E.rks k 11)).toArray.size := by rw [List.size_toArray, List.size_toArray, c8_len, c8_len, keyRow_length HK.out (by decide), HRKS.out]
  obtain ⟨wa, hwa⟩ : ∃ wa, wa = (w.alloc (.cells (W.cellsOf k).toArray 26 (0, 0))).alloc (.cells Try.zeroCells34 34 (0, 0)) := ⟨_, rfl⟩
  have r0 : Row wa w.heap.size 26 (W.cellsOf k) := by rw [hwa]; exact (Row.new' rfl rfl).alloc _
  have r1 : Row wa (w.heap.size + 1) 34 (W.cellsOf (keyRow k 0)) := by rw [hwa]; exact Row.new' hzc (by simp)
  have hba : Below w.heap.size w wa := by rw [hwa]; exact ((Below.refl _ _).alloc (Nat.le_refl _) _).alloc (by simp) _
  have l0 : Hid (∀ wx, Row wx w.heap.size 26 (W.cellsOf k) → wx.rangeAt w.heap.size 0 (W.cellsOf k)) := fun wx h => by have := h.rangeOf 0 16; rwa [List.drop_zero, List.take_of_length_le (by rw [c8_len, HK.out]; decide)] at this
  clear hzc
  go_enter Try.func15, Try.ntmps15
  go_wp2_with fail
  show Code.wp _ _ _ _ ((w.alloc (.cells (W.cellsOf k).toArray 26 (0, 0))).alloc (.cells Try.zeroCells34 34 (0, 0)))
  rw [← hwa]
  clear hwa
  refine wp_region_held_drew (S := fun w' => w'.rangeAt w.heap.size 0 (W.cellsOf k)) (by kernel_rfl) (l0.out _ r0) (fun hHeld => ?_)
  refine take_d 0 (some 3) (.pointer (some ⟨w.heap.size, 0, none⟩)) rfl (by kernel_rfl) (by kernel_rfl) (by kernel_rfl) (fun _ _ _ h => h) (fun oi h => by cases h; exact Or.inl ⟨by rfl, fun w' hS' => by go_simp⟩) hHeld ?_
  try simp only [Act.put, List.setIfInBounds_toArray, List.set_cons_zero, List.set_cons_succ]
  refine take_d 1 (some 4) (.agg (W.cellsOf k).toArray) rfl (by kernel_rfl) (by kernel_rfl) (by kernel_rfl) (fun _ _ _ h => h) (fun oi h => by cases h; exact yieldsIf_load_mid (by rfl) 23 (.tmp 3) rfl w.heap.size 0 rfl (W.cellsOf k) _ (fun w' hS' => hS') hu1 rfl hi1) hHeld ?_
  try simp only [Act.put, List.setIfInBounds_toArray, List.set_cons_zero, List.set_cons_succ]
  refine one_d 2 (some 5) rfl (by kernel_rfl) ?_
  intro o ho hd K hK
  cases ho
  go_simp
  refine (CBX.out _).mono ?_
  rintro e w1 ⟨rfl, bb⟩
  have s0 := Row.below r0.drew bb r0.lt
  have s1 := Row.below r1.drew bb r1.lt
  have sb : Below w.heap.size w w1 := hba.drew.trans (bb.mono hba.size)
  clear bb hHeld hd r0 r1 hba
  refine hK.out _ _ (l0.out _ s0) (fun hHeld => ?_)
  clear hK K
  try simp only [Act.put, List.setIfInBounds_toArray, List.set_cons_zero, List.set_cons_succ]
  refine one_d 3 (some 6) rfl (by kernel_rfl) ?_
  intro o ho hd K hK
  cases ho
  go_simp
  refine (CKS.out _).mono ?_
  rintro e w2 ⟨rfl, bb⟩
  have q0 := Row.below s0 bb s0.lt
  have q1 := Row.below s1 bb s1.lt
  have qb := sb.trans (bb.mono sb.size)
  clear bb hHeld hd s0 s1 sb
  refine hK.out _ _ (l0.out _ q0) (fun hHeld => ?_)
  clear hK K
  try simp only [Act.put, List.setIfInBounds_toArray, List.set_cons_zero, List.set_cons_succ]
  refine one_d 4 none rfl (by kernel_rfl) ?_
  intro o ho hd K hK
  cases ho
  rw [if_pos (by rfl)]
  refine wp_store_row 34 (.tmp 2) (.tmp 6) rfl (w.heap.size + 1) (W.cellsOf (E.rks k 11)).toArray rfl rfl 34 _ q1 hiks hsz (c8_all _) ?_
  have v0 := q0.setRow_other (show w.heap.size ≠ w.heap.size + 1 by omega) (W.cellsOf (E.rks k 11)).toArray
  have v1 := q1.setRow (W.cellsOf (E.rks k 11))
  have vb := below_row qb (show w.heap.size ≤ w.heap.size + 1 by omega) (W.cellsOf (E.rks k 11)).toArray
  refine hK.out _ _ (l0.out _ v0) (fun hHeld => ?_)
  clear hK K hHeld q0 q1 qb l0 hu1 hi1 hsz
  refine wpAnyH_done (by kernel_rfl) ?_ _
  try simp only [Act.put]
  go_wp2_with fail
  exact bodyPost_ret (results_cell_row rfl _ _ (w.heap.size + 1) _ _ _ _ rfl v1 Try.underlying34 rfl hiks) rfl ⟨rfl, vb⟩

end Go.Proofs.Ytpkehhbjagmodaa
