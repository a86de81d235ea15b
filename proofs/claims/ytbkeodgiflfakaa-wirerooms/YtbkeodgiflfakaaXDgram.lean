/-
  Layer 9: the bytes of a datagram.
-/
import Derived.Test.YtbkeodgiflfakaaXCalls
import Derived.Test.YtbkeodgiflfakaaATake
namespace Go.Proofs.Ytbkeodgiflfakaa
open Go.RowKit
set_option linter.unusedVariables false
set_option maxRecDepth 20000

set_option maxHeartbeats 2000000 in
theorem dBytes_yes (id n : Nat) (s : ByteArray) (h1 : id ≤ 18446744073709551615) (h2 : n ≤ 18446744073709551615) (hs : 16 ≤ s.size) (hs' : s.size ≤ 496) (w : World) :
    Calls Try.prog 8 #[.agg #[.int .u64 (id : Int), .int .u64 (n : Int), .string s]] w fun e w' => e = .returned (.tuple #[.string ⟨(C.blk id n ++ s.data.toList).toArray⟩, .int .i64 0]) ∧ Below w.heap.size w w' := by
  have CF : Hid (∀ wx, Calls Try.prog 28 #[.int .i64 (16 + (s.size : Int))] wx fun e w' => e = .returned (.int .i64 0) ∧ w' = wx) := fun wx => dFault_ok _ (by omega) (by omega) wx
  have CH : Hid (∀ wx, Calls Try.prog 23 #[.int .u64 (id : Int), .int .u64 (n : Int)] wx fun e w' => e = .returned (.string ⟨(C.blk id n).toArray⟩) ∧ Below wx.heap.size wx w') := fun wx => head_any id n h1 h2 wx
  have HR : Hid ((⟨(C.blk id n ++ s.data.toList).toArray⟩ : ByteArray) = ⟨(C.blk id n).toArray⟩ ++ s) := Go.WideShapes.bytes_inj (by simp)
  have hsz : (⟨(C.blk id n).toArray⟩ : ByteArray).size = 16 := by simp [ByteArray.size, C.blk_length]
  generalize (⟨(C.blk id n ++ s.data.toList).toArray⟩ : ByteArray) = R at *
  generalize (⟨(C.blk id n).toArray⟩ : ByteArray) = hd0 at *
  have r0 : Row (w.alloc (.cells #[.int .u64 (id : Int), .int .u64 (n : Int), .string s] 25 (0, 0))) w.heap.size 25 [.int .u64 (id : Int), .int .u64 (n : Int), .string s] := Row.new' rfl rfl
  have b0 : Below w.heap.size w (w.alloc (.cells #[.int .u64 (id : Int), .int .u64 (n : Int), .string s] 25 (0, 0))) := (Below.refl _ _).alloc (Nat.le_refl _) _
  obtain ⟨wa, hwa⟩ : ∃ wa, wa = w.alloc (.cells #[.int .u64 (id : Int), .int .u64 (n : Int), .string s] 25 (0, 0)) := ⟨_, rfl⟩
  rw [← hwa] at r0 b0
  go_enter Try.func8, Try.ntmps8
  go_wp2_with fail
  refine (CF.out _).mono ?_
  rintro e w1 ⟨rfl, rfl⟩
  rw [← hwa]
  clear hwa
  go_wp2_with fail
  refine wp_region_held_drew (S := fun w' => Row w' w.heap.size 25 [.int .u64 (id : Int), .int .u64 (n : Int), .string s] ∧ Below w.heap.size w w') (by kernel_rfl) (⟨r0.drew, b0.drew⟩) (fun hHeld => ?_)
  refine take_d 0 (some 13) (.pointer (some ⟨w.heap.size, 0, none⟩)) rfl (by kernel_rfl) (by kernel_rfl) (by kernel_rfl) (fun _ _ _ h => h) (fun oi h => by cases h; exact Or.inl ⟨by rfl, fun w' hS' => by go_simp⟩) hHeld ?_
  try simp only [Act.put, List.setIfInBounds_toArray, List.set_cons_zero, List.set_cons_succ]
  refine take_d 1 (some 14) (.int .u64 (id : Int)) rfl (by kernel_rfl) (by kernel_rfl) (by kernel_rfl) (fun _ _ _ h => h) (fun oi h => by cases h; exact Or.inl ⟨by rfl, fun w' hS' => by have c : w'.cell? ⟨w.heap.size, 0, none⟩ = some (.int .u64 (id : Int)) := hS'.1.cell 0; go_simp⟩) hHeld ?_
  try simp only [Act.put, List.setIfInBounds_toArray, List.set_cons_zero, List.set_cons_succ]
  refine take_d 2 (some 15) (.pointer (some ⟨w.heap.size, 1, none⟩)) rfl (by kernel_rfl) (by kernel_rfl) (by kernel_rfl) (fun _ _ _ h => h) (fun oi h => by cases h; exact Or.inl ⟨by rfl, fun w' hS' => by go_simp⟩) hHeld ?_
  try simp only [Act.put, List.setIfInBounds_toArray, List.set_cons_zero, List.set_cons_succ]
  refine take_d 3 (some 16) (.int .u64 (n : Int)) rfl (by kernel_rfl) (by kernel_rfl) (by kernel_rfl) (fun _ _ _ h => h) (fun oi h => by cases h; exact Or.inl ⟨by rfl, fun w' hS' => by have c : w'.cell? ⟨w.heap.size, 1, none⟩ = some (.int .u64 (n : Int)) := hS'.1.cell 1; go_simp⟩) hHeld ?_
  try simp only [Act.put, List.setIfInBounds_toArray, List.set_cons_zero, List.set_cons_succ]
  refine take_d 5 (some 18) (.pointer (some ⟨w.heap.size, 2, none⟩)) rfl (by kernel_rfl) (by kernel_rfl) (by kernel_rfl) (fun _ _ _ h => h) (fun oi h => by cases h; exact Or.inl ⟨by rfl, fun w' hS' => by go_simp⟩) hHeld ?_
  try simp only [Act.put, List.setIfInBounds_toArray, List.set_cons_zero, List.set_cons_succ]
  refine take_d 6 (some 19) (.string s) rfl (by kernel_rfl) (by kernel_rfl) (by kernel_rfl) (fun _ _ _ h => h) (fun oi h => by cases h; exact Or.inl ⟨by rfl, fun w' hS' => by have c : w'.cell? ⟨w.heap.size, 2, none⟩ = some (.string s) := hS'.1.cell 2; go_simp⟩) hHeld ?_
  try simp only [Act.put, List.setIfInBounds_toArray, List.set_cons_zero, List.set_cons_succ]
  refine one_d 4 (some 17) rfl (by kernel_rfl) ?_
  intro o ho hd K hK
  cases ho
  go_simp
  refine (CH.out _).mono ?_
  rintro e w2 ⟨rfl, bb⟩
  have hHeld' := hHeld
  clear hHeld
  have hHeld := hHeld'
  clear hHeld'
  refine hK.out _ _ (⟨hHeld.1.below bb hHeld.1.lt, hHeld.2.trans (bb.mono hHeld.2.size)⟩) (fun hHeld => ?_)
  clear hK K hd bb
  try simp only [Act.put, List.setIfInBounds_toArray, List.set_cons_zero, List.set_cons_succ]
  refine take_d 7 (some 20) (.string (hd0 ++ s)) rfl (by kernel_rfl) (by kernel_rfl) (by kernel_rfl) (fun _ _ _ h => h) (fun oi h => by cases h; exact Or.inl ⟨by rfl, fun w' hS' => by have hq : 16 + s.size ≤ 9223372036854775807 := (by omega); go_simp⟩) hHeld ?_
  try simp only [Act.put, List.setIfInBounds_toArray, List.set_cons_zero, List.set_cons_succ]
  refine take_d 8 (some 2) (.string (hd0 ++ s)) rfl (by kernel_rfl) (by kernel_rfl) (by kernel_rfl) (fun _ _ _ h => h) (fun oi h => by cases h; exact Or.inl ⟨by rfl, fun w' hS' => by go_simp⟩) hHeld ?_
  try simp only [Act.put, List.setIfInBounds_toArray, List.set_cons_zero, List.set_cons_succ]
  refine take_d 9 (some 3) (.int .i64 0) rfl (by kernel_rfl) (by kernel_rfl) (by kernel_rfl) (fun _ _ _ h => h) (fun oi h => by cases h; exact Or.inl ⟨by rfl, fun w' hS' => by go_simp⟩) hHeld ?_
  try simp only [Act.put, List.setIfInBounds_toArray, List.set_cons_zero, List.set_cons_succ]
  refine wpAnyH_done (by kernel_rfl) ?_ _
  try simp only [Act.put]
  have hb := hHeld.2
  go_wp2
  go_ret2
  exact ⟨by rw [HR.out]; rfl, hb⟩

end Go.Proofs.Ytbkeodgiflfakaa
