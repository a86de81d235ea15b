/-
  Layer 6: the document's Turn.
-/
import Derived.Test.YtpkehhbjagmodaaCRef
namespace Go.Proofs.Ytpkehhbjagmodaa
open Go.RowKit
set_option linter.unusedVariables false

set_option maxRecDepth 20000 in
set_option maxHeartbeats 2000000 in
theorem refTurn_any (s : ByteArray) (hs : s.size = 16) (m : Nat) (hm : m ≤ 18446744073709551615) (t : ByteArray) (ht : t.size ≤ 100) (w : World) :
    Calls Try.prog 28 #[.string s, .int .u64 (m : Int), .string t] w fun e w' => e = .returned (.string ⟨(C.turnL s.data.toList m t.data.toList).toArray⟩) ∧ Below w.heap.size w w' := by
  have CS : Hid (∀ wx, Calls Try.prog 27 #[.string s, .int .u64 (m : Int), .int .i64 (t.size : Int)] wx fun e w' => e = .returned (.string ⟨(C.streamL s.data.toList m t.size).toArray⟩) ∧ Below wx.heap.size wx w') := fun wx => refStream_any s hs m t.size hm ht wx
  have HX : Hid (∀ i, i < t.size → t.data.toList.getD i 0 ^^^ (C.streamL s.data.toList m t.size).getD i 0 = (C.turnL s.data.toList m t.data.toList).getD i 0) := fun i hi => by
    have hl : t.data.toList.length = t.size := Array.length_toList
    rw [C.turnL_at _ _ _ _ (by rw [hl]; exact hi), hl, UInt8.xor_comm]
  have HTL : Hid ((C.turnL s.data.toList m t.data.toList).length = t.size) := by show _ = _; rw [C.turnL_length]; exact Array.length_toList
  have hsl := C.streamL_length s.data.toList m t.size
  have HSI : Hid (∀ (i : Nat) (wx : World), i < t.size → (Instr.index 9 (.string ⟨(C.streamL s.data.toList m t.size).toArray⟩) (.int .i64 (i : Int))).run Try.prog wx = .ok (.int .u8 (((C.streamL s.data.toList m t.size).getD i 0).toNat : Int)) wx) := fun i wx hi => str_at _ i _ rfl (by rw [mkSize, hsl]; exact hi) wx
  have HTI : Hid (∀ (i : Nat) (wx : World), i < t.size → (Instr.index 9 (.string t) (.int .i64 (i : Int))).run Try.prog wx = .ok (.int .u8 ((t.data.toList.getD i 0).toNat : Int)) wx) := fun i wx hi => str_at t i _ rfl hi wx
  have HMK : Hid (∀ wx : World, (Instr.makeSlice 30 (.int .i64 (t.size : Int)) (.int .i64 (t.size : Int))).run Try.prog wx = .ok (.slice (some ⟨wx.heap.size, 0, none⟩) t.size t.size) (wx.alloc (.cells (W.cellsOf (List.replicate t.size 0)).toArray 5 (0, 0)))) := fun wx => makeB t.size (by omega) wx
  generalize C.turnL s.data.toList m t.data.toList = R at *
  generalize C.streamL s.data.toList m t.size = X at *
  clear hsl hs
  generalize hz : List.replicate t.size (0 : UInt8) = Z at *
  have HZL : Hid (Z.length = t.size) := by show _ = _; rw [← hz]; simp
  clear hz
  go_enter Try.func28, Try.ntmps28
  go_wp2_with fail
  refine (CS.out _).mono ?_
  rintro e w1 ⟨rfl, b1⟩
  have hmk := HMK.out
  have r0 := Row.new' (w := w1) (t := 5) (l := W.cellsOf Z) rfl rfl
  have hb0 := b1.alloc b1.size (.cells (W.cellsOf Z).toArray 5 (0, 0))
  have hg1 : w.heap.size ≤ w1.heap.size := b1.size
  go_wp2
  clear hmk HMK CS b1
  go_loopw [9] (fun iv wq => ∃ i : Nat, i ≤ t.size ∧ iv = .int .i64 i ∧ Row wq w1.heap.size 5 (W.cellsOf (E.fill R Z i)) ∧ Below w.heap.size w wq) (fun iv _ => t.size - (intOf iv).toNat)
  case atStart => exact ⟨0, Nat.zero_le _, rfl, by rw [E.fill_zero]; exact r0, hb0⟩
  case round =>
    clear r0 hb0
    obtain ⟨i, hi, rfl, rR, hb⟩ := hrel
    have hF : R.length = Z.length := by rw [HTL.out, HZL.out]
    by_cases hlt : i < t.size
    · have hsi : (i : Int) < (t.size : Int) := by omega
      have hsi0 : (0 : Int) ≤ (i : Int) := by omega
      have I1 := Lib.hid (fun wx => HTI.out i wx hlt)
      have I2 := Lib.hid (fun wx => HSI.out i wx hlt)
      have cb := (rR.cell i).trans (c8_at (by rw [E.fill_length hF, HZL.out]; exact hlt))
      have fb := rR.frozen i
      have hx := xor8 (t.data.toList.getD i 0) (X.getD i 0)
      rw [HX.out i hlt] at hx
      have rR' := rR.set i (.int .u8 ((R.getD i 0).toNat : Int))
      rw [c8_set, E.fill_step hF (by rw [HZL.out]; exact hlt)] at rR'
      generalize R.getD i 0 = z at *
      generalize t.data.toList.getD i 0 = a at *
      generalize X.getD i 0 = b at *
      clear hF
      go_wp2_with fail
      refine wp_region_held_drew (S := fun w' => True) (by kernel_rfl) trivial (fun hHeld => ?_)
      refine take_d 0 (some 24) (.slice (some ⟨w1.heap.size, 0, none⟩) t.size t.size) rfl (by kernel_rfl) (by kernel_rfl) (by kernel_rfl) (fun _ _ _ h => h) (fun oi h => by cases h; exact Or.inl ⟨by rfl, fun w' hS' => by go_simp⟩) hHeld ?_
      try simp only [Act.put, List.setIfInBounds_toArray, List.set_cons_zero, List.set_cons_succ]
      refine take_d 1 (some 25) (.int .i64 (i : Int)) rfl (by kernel_rfl) (by kernel_rfl) (by kernel_rfl) (fun _ _ _ h => h) (fun oi h => by cases h; exact Or.inl ⟨by rfl, fun w' hS' => by go_simp⟩) hHeld ?_
      try simp only [Act.put, List.setIfInBounds_toArray, List.set_cons_zero, List.set_cons_succ]
      refine take_d 2 (some 26) (.string t) rfl (by kernel_rfl) (by kernel_rfl) (by kernel_rfl) (fun _ _ _ h => h) (fun oi h => by cases h; exact Or.inl ⟨by rfl, fun w' hS' => by go_simp⟩) hHeld ?_
      try simp only [Act.put, List.setIfInBounds_toArray, List.set_cons_zero, List.set_cons_succ]
      refine take_d 3 (some 27) (.int .i64 (i : Int)) rfl (by kernel_rfl) (by kernel_rfl) (by kernel_rfl) (fun _ _ _ h => h) (fun oi h => by cases h; exact Or.inl ⟨by rfl, fun w' hS' => by go_simp⟩) hHeld ?_
      try simp only [Act.put, List.setIfInBounds_toArray, List.set_cons_zero, List.set_cons_succ]
      refine take_d 4 (some 28) (.int .u8 (a.toNat : Int)) rfl (by kernel_rfl) (by kernel_rfl) (by kernel_rfl) (fun _ _ _ h => h) (fun oi h => by cases h; exact Or.inl ⟨by rfl, fun w' hS' => by have c := I1.out w'; go_simp⟩) hHeld ?_
      try simp only [Act.put, List.setIfInBounds_toArray, List.set_cons_zero, List.set_cons_succ]
      refine take_d 5 (some 29) (.string ⟨X.toArray⟩) rfl (by kernel_rfl) (by kernel_rfl) (by kernel_rfl) (fun _ _ _ h => h) (fun oi h => by cases h; exact Or.inl ⟨by rfl, fun w' hS' => by go_simp⟩) hHeld ?_
      try simp only [Act.put, List.setIfInBounds_toArray, List.set_cons_zero, List.set_cons_succ]
      refine take_d 6 (some 30) (.int .i64 (i : Int)) rfl (by kernel_rfl) (by kernel_rfl) (by kernel_rfl) (fun _ _ _ h => h) (fun oi h => by cases h; exact Or.inl ⟨by rfl, fun w' hS' => by go_simp⟩) hHeld ?_
      try simp only [Act.put, List.setIfInBounds_toArray, List.set_cons_zero, List.set_cons_succ]
      refine take_d 7 (some 31) (.int .u8 (b.toNat : Int)) rfl (by kernel_rfl) (by kernel_rfl) (by kernel_rfl) (fun _ _ _ h => h) (fun oi h => by cases h; exact Or.inl ⟨by rfl, fun w' hS' => by have c := I2.out w'; go_simp⟩) hHeld ?_
      try simp only [Act.put, List.setIfInBounds_toArray, List.set_cons_zero, List.set_cons_succ]
      refine take_d 8 (some 32) (.int .u8 (z.toNat : Int)) rfl (by kernel_rfl) (by kernel_rfl) (by kernel_rfl) (fun _ _ _ h => h) (fun oi h => by cases h; exact Or.inl ⟨by rfl, fun w' hS' => by go_simp⟩) hHeld ?_
      try simp only [Act.put, List.setIfInBounds_toArray, List.set_cons_zero, List.set_cons_succ]
      refine take_d 9 (some 33) (.pointer (some ⟨w1.heap.size, i, none⟩)) rfl (by kernel_rfl) (by kernel_rfl) (by kernel_rfl) (fun _ _ _ h => h) (fun oi h => by cases h; exact Or.inl ⟨by rfl, fun w' hS' => by go_simp⟩) hHeld ?_
      try simp only [Act.put, List.setIfInBounds_toArray, List.set_cons_zero, List.set_cons_succ]
      refine one_d 10 none rfl (by kernel_rfl) ?_
      intro o ho' hd K' hK
      cases ho'
      go_simp
      refine hK.out _ _ trivial (fun hHeld => ?_)
      clear hK K' hHeld hd
      refine wpAnyH_done (by kernel_rfl) ?_ _
      try simp only [Act.put]
      go_wp2
      go_roundw
      case rel => exact ⟨i + 1, by omega, by go_num, rR'.drew, (hb.setCell (by simp; omega) _).drew⟩
      case measure => simp [intOf]; omega
    · obtain rfl : i = t.size := by omega
      have hsi : ¬ (t.size : Int) < (t.size : Int) := by omega
      rw [E.fill_full (n := t.size) HTL.out HZL.out] at rR
      have hcv := rowText (n := t.size) HTL.out.symm rR
      clear hF
      go_wp2
      go_ret
      exact ⟨rfl, hb⟩

end Go.Proofs.Ytpkehhbjagmodaa
