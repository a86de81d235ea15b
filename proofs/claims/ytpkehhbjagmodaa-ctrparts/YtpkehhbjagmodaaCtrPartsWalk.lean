/-
  Layer 6: the walk of CtrParts: it answers true at every key, number and texts.
-/
import Derived.Test.YtpkehhbjagmodaaCAwake
import Derived.OpenShut
namespace Go.Proofs.Ytpkehhbjagmodaa.CtrPartsW
open Go.RowKit
set_option linter.unusedVariables false

theorem repeatL_zero (n : Nat) : Lib.repeatL [0] n = List.replicate n (0 : UInt8) := by
  induction n with
  | zero => rfl
  | succ n ih => rw [List.replicate_succ, ← ih]; rfl
theorem data_append (s t : ByteArray) : (s ++ t).data.toList = s.data.toList ++ t.data.toList := by simp [ByteArray.data_append]

set_option maxHeartbeats 4000000 in
theorem core (a0 : ByteArray) (m : Nat) (a2 a3 : ByteArray) (w : World) (hm : m ≤ 18446744073709551615) (w0 : a0.size ≤ maxLen) (w2 : a2.size ≤ maxLen) (w3 : a3.size ≤ maxLen) :
    Calls Try.prog 10 #[.string a0, .int .u64 (m : Int), .string a2, .string a3] w fun e w' => e = .returned (.bool true) ∧ Below w.heap.size w w' := by
  unfold maxLen at w0 w2 w3
  go_enter Try.func10, Try.ntmps10
  go_wp2_with fail
  refine (awake6_any _).mono ?_
  rintro e w1 ⟨rfl, hb1⟩
  by_cases hL : a0.size = 16
  case neg =>
    have hn : ¬ ((a0.size : Int) = 16) := by omega
    go_wp2
    go_ret
    exact ⟨rfl, hb1⟩
  case pos =>
  have hn : (a0.size : Int) = 16 := by omega
  by_cases hM : a2.size ≤ 100 ∧ a3.size ≤ 100
  case neg =>
    go_wp2
    all_goals first
      | (exfalso; omega)
      | (go_ret; exact ⟨rfl, hb1⟩)
  case pos =>
  obtain ⟨hx2, hx3⟩ := hM
  have CN : Hid (∀ wx, Calls Try.prog 12 #[.string a0] wx fun e w' => e = .returned (.tuple #[.agg (W.cellsOf a0.data.toList).toArray, .int .i64 0]) ∧ Below wx.heap.size wx w') := fun wx => new_yes a0 hL wx
  have HK : Hid (a0.data.toList.length = 16) := by simpa [Hid] using hL
  generalize a0.data.toList = k at *
  have hs2 : a2.data.toList.length = a2.size := by simp
  have hs3 : a3.data.toList.length = a3.size := by simp
  have hap : (a2 ++ a3).size = a2.size + a3.size := by simp
  have CX : Hid (∀ wx, Calls Try.prog 26 #[.agg (W.cellsOf k).toArray, .int .u64 (m : Int), .string a2] wx fun e w' => e = .returned (.string ⟨(C.turnL k m a2.data.toList).toArray⟩) ∧ Below wx.heap.size wx w') := fun wx => turn_any k m a2 HK.out hm (by omega) wx
  have CY : Hid (∀ wx, Calls Try.prog 26 #[.agg (W.cellsOf k).toArray, .int .u64 (m : Int), .string (a2 ++ a3)] wx fun e w' => e = .returned (.string ⟨(C.turnL k m (a2 ++ a3).data.toList).toArray⟩) ∧ Below wx.heap.size wx w') := fun wx => turn_any k m (a2 ++ a3) HK.out hm (by omega) wx
  have CS : Hid (∀ wx, Calls Try.prog 24 #[.agg (W.cellsOf k).toArray, .int .u64 (m : Int), .int .i64 (a2.size : Int)] wx fun e w' => e = .returned (.tuple #[.string ⟨(C.streamL k m a2.size).toArray⟩, .int .i64 0]) ∧ Below wx.heap.size wx w') := fun wx => stream_yes k m a2.size HK.out hm (by omega) wx
  have CR : Hid (∀ wx, Calls Try.prog 30 #[.string ⟨#[0]⟩, .int .i64 (a2.size : Int)] wx fun e w' => e = .returned (.string ⟨(List.replicate a2.size 0).toArray⟩) ∧ Below wx.heap.size wx w') := fun wx => by
    have := Try.strings_Repeat ⟨#[0]⟩ a2.size wx (by omega) (by show 1 * a2.size ≤ _; omega)
    rw [show (⟨#[0]⟩ : ByteArray).data.toList = [0] from rfl, repeatL_zero] at this
    exact this
  have hrs : (⟨(List.replicate a2.size (0 : UInt8)).toArray⟩ : ByteArray).size = a2.size := by
    show (List.replicate a2.size (0 : UInt8)).toArray.size = _
    rw [List.size_toArray, List.length_replicate]
  have CZ : Hid (∀ wx, Calls Try.prog 26 #[.agg (W.cellsOf k).toArray, .int .u64 (m : Int), .string ⟨(List.replicate a2.size 0).toArray⟩] wx fun e w' => e = .returned (.string ⟨(C.streamL k m a2.size).toArray⟩) ∧ Below wx.heap.size wx w') := fun wx => by
    have := turn_any k m ⟨(List.replicate a2.size 0).toArray⟩ HK.out hm (by rw [hrs]; omega) wx
    rw [show (⟨(List.replicate a2.size (0 : UInt8)).toArray⟩ : ByteArray).data.toList = List.replicate a2.size 0 from rfl, C.turnL_zero] at this
    exact this
  have hyl : (⟨(C.turnL k m (a2 ++ a3).data.toList).toArray⟩ : ByteArray).size = a2.size + a3.size := by
    have : (C.turnL k m (a2 ++ a3).data.toList).length = a2.size + a3.size := by rw [C.turnL_length, data_append, List.length_append, hs2, hs3]
    show (C.turnL k m (a2 ++ a3).data.toList).toArray.size = _
    rw [List.size_toArray, this]
  have CP : Hid (∀ wx, Calls Try.prog 29 #[.string ⟨(C.turnL k m (a2 ++ a3).data.toList).toArray⟩, .string ⟨(C.turnL k m a2.data.toList).toArray⟩] wx fun e w' => e = .returned (.bool true) ∧ w' = wx) := fun wx => by
    have := Try.strings_HasPrefix ⟨(C.turnL k m (a2 ++ a3).data.toList).toArray⟩ ⟨(C.turnL k m a2.data.toList).toArray⟩ wx
    have hp : Lib.hasPrefix (C.turnL k m (a2 ++ a3).data.toList) (C.turnL k m a2.data.toList) = true := by
      have h := C.turnL_append k m a2.data.toList a3.data.toList
      rw [← data_append] at h
      unfold Lib.hasPrefix
      rw [List.isPrefixOf_iff_prefix, ← h]
      exact List.take_prefix _ _
    rw [show (⟨(C.turnL k m (a2 ++ a3).data.toList).toArray⟩ : ByteArray).data.toList = C.turnL k m (a2 ++ a3).data.toList from rfl, show (⟨(C.turnL k m a2.data.toList).toArray⟩ : ByteArray).data.toList = C.turnL k m a2.data.toList from rfl, hp] at this
    exact this
  generalize (⟨(C.turnL k m (a2 ++ a3).data.toList).toArray⟩ : ByteArray) = Y at *
  generalize (⟨(C.turnL k m a2.data.toList).toArray⟩ : ByteArray) = X at *
  generalize (⟨(C.streamL k m a2.size).toArray⟩ : ByteArray) = Zs at *
  generalize (⟨(List.replicate a2.size (0 : UInt8)).toArray⟩ : ByteArray) = Rs at *
  have hik := info16k HK.out
  have hik' : (Try.prog.info? 26).map (·.size) = some (W.cellsOf k).length := by rw [c8_len, HK.out]; kernel_rfl
  have HO0 : Hid ((W.cellsOf (List.replicate 16 0)).toArray.size = (W.cellsOf k).toArray.size) := by rw [List.size_toArray, List.size_toArray, c8_len, c8_len, HK.out]; rfl
  have huk : Try.prog.underlying 26 = some _ := Try.underlying26
  have hsum : a2.size + a3.size ≤ 9223372036854775807 := by omega
  have hwr : IntKind.i64.wrap ((a2.size : Int) + (a3.size : Int)) = (a2.size : Int) + (a3.size : Int) := by rw [IntKind.wrap_i64]; omega
  clear hs2 hs3 hL hap hrs
  go_wp2_with fail
  all_goals first | (exfalso; omega) | skip
  refine (CN.out _).mono ?_
  rintro e w2 ⟨rfl, b2⟩
  have hb2 : Below w.heap.size w w2 := hb1.trans (b2.mono hb1.size)
  have hz2 := hb2.size
  clear b2 hb1
  have r0 : Row (w2.alloc (.cells (W.cellsOf k).toArray 26 (0, 0))) w2.heap.size 26 (W.cellsOf k) := Row.new' rfl rfl
  have rb := hb2.alloc hz2 (.cells (W.cellsOf k).toArray 26 (0, 0))
  go_wp2_with (first | refine wpList_store_new rfl 26 (.tmp 9) (.tmp 31) rfl w2 _ _ _ _ rfl rfl rfl hik HO0.out (c8_all _) ?_)
  generalize w2.alloc (.cells (W.cellsOf k).toArray 26 (0, 0)) = wa at *
  generalize w2.heap.size = g at *
  have l0 : Hid (∀ wx, Row wx g 26 (W.cellsOf k) → wx.rangeAt g 0 (W.cellsOf k)) := fun wx h => by have := h.rangeOf 0 16; rwa [List.drop_zero, List.take_of_length_le (by rw [c8_len, HK.out]; decide)] at this
  refine wp_region_held_drew (S := fun w' => w'.rangeAt g 0 (W.cellsOf k)) (by kernel_rfl) (l0.out _ r0) (fun hHeld => ?_)
  refine take_d 0 (some 33) (.agg (W.cellsOf k).toArray) rfl (by kernel_rfl) (by kernel_rfl) (by kernel_rfl) (fun _ _ _ h => h) (fun oi h => by cases h; exact yieldsIf_load_mid (by rfl) 26 (.tmp 9) rfl g 0 rfl (W.cellsOf k) _ (fun w' hS' => hS') huk rfl hik') hHeld ?_
  try simp only [Act.put, List.setIfInBounds_toArray, List.set_cons_zero, List.set_cons_succ]
  refine take_d 1 (some 34) (.int .u64 (m : Int)) rfl (by kernel_rfl) (by kernel_rfl) (by kernel_rfl) (fun _ _ _ h => h) (fun oi h => by cases h; exact Or.inl ⟨by rfl, fun w' hS' => by go_simp⟩) hHeld ?_
  try simp only [Act.put, List.setIfInBounds_toArray, List.set_cons_zero, List.set_cons_succ]
  refine take_d 2 (some 35) (.string a2) rfl (by kernel_rfl) (by kernel_rfl) (by kernel_rfl) (fun _ _ _ h => h) (fun oi h => by cases h; exact Or.inl ⟨by rfl, fun w' hS' => by go_simp⟩) hHeld ?_
  try simp only [Act.put, List.setIfInBounds_toArray, List.set_cons_zero, List.set_cons_succ]
  refine take_d 4 (some 37) (.agg (W.cellsOf k).toArray) rfl (by kernel_rfl) (by kernel_rfl) (by kernel_rfl) (fun _ _ _ h => h) (fun oi h => by cases h; exact yieldsIf_load_mid (by rfl) 26 (.tmp 9) rfl g 0 rfl (W.cellsOf k) _ (fun w' hS' => hS') huk rfl hik') hHeld ?_
  try simp only [Act.put, List.setIfInBounds_toArray, List.set_cons_zero, List.set_cons_succ]
  refine take_d 5 (some 38) (.int .u64 (m : Int)) rfl (by kernel_rfl) (by kernel_rfl) (by kernel_rfl) (fun _ _ _ h => h) (fun oi h => by cases h; exact Or.inl ⟨by rfl, fun w' hS' => by go_simp⟩) hHeld ?_
  try simp only [Act.put, List.setIfInBounds_toArray, List.set_cons_zero, List.set_cons_succ]
  refine take_d 6 (some 39) (.string a2) rfl (by kernel_rfl) (by kernel_rfl) (by kernel_rfl) (fun _ _ _ h => h) (fun oi h => by cases h; exact Or.inl ⟨by rfl, fun w' hS' => by go_simp⟩) hHeld ?_
  try simp only [Act.put, List.setIfInBounds_toArray, List.set_cons_zero, List.set_cons_succ]
  refine take_d 7 (some 40) (.string a3) rfl (by kernel_rfl) (by kernel_rfl) (by kernel_rfl) (fun _ _ _ h => h) (fun oi h => by cases h; exact Or.inl ⟨by rfl, fun w' hS' => by go_simp⟩) hHeld ?_
  try simp only [Act.put, List.setIfInBounds_toArray, List.set_cons_zero, List.set_cons_succ]
  refine take_d 8 (some 41) (.string (a2 ++ a3)) rfl (by kernel_rfl) (by kernel_rfl) (by kernel_rfl) (fun _ _ _ h => h) (fun oi h => by cases h; exact Or.inl ⟨by rfl, fun w' hS' => by go_simp⟩) hHeld ?_
  try simp only [Act.put, List.setIfInBounds_toArray, List.set_cons_zero, List.set_cons_succ]
  have d0 := r0.drew
  have db := rb.drew
  clear r0 rb
  refine one_d 3 (some 36) rfl (by kernel_rfl) ?_
  intro o ho hd K hK
  cases ho
  go_simp
  refine (CX.out _).mono ?_
  rintro e wA ⟨rfl, bb⟩
  have e0 := Row.below d0 bb d0.lt
  have eb := db.trans (bb.mono db.size)
  clear bb hHeld hd d0 db
  refine hK.out _ _ (l0.out _ e0) (fun hHeld => ?_)
  clear hK K
  try simp only [Act.put, List.setIfInBounds_toArray, List.set_cons_zero, List.set_cons_succ]
  refine one_d 9 (some 42) rfl (by kernel_rfl) ?_
  intro o ho hd K hK
  cases ho
  go_simp
  refine (CY.out _).mono ?_
  rintro e wB ⟨rfl, bb⟩
  have f0 := Row.below e0 bb e0.lt
  have fb := eb.trans (bb.mono eb.size)
  clear bb hHeld hd e0 eb
  refine hK.out _ _ (l0.out _ f0) (fun hHeld => ?_)
  clear hK K
  try simp only [Act.put, List.setIfInBounds_toArray, List.set_cons_zero, List.set_cons_succ]
  refine take_d 10 (some 11) (.string X) rfl (by kernel_rfl) (by kernel_rfl) (by kernel_rfl) (fun _ _ _ h => h) (fun oi h => by cases h; exact Or.inl ⟨by rfl, fun w' hS' => by go_simp⟩) hHeld ?_
  try simp only [Act.put, List.setIfInBounds_toArray, List.set_cons_zero, List.set_cons_succ]
  refine take_d 11 (some 12) (.string Y) rfl (by kernel_rfl) (by kernel_rfl) (by kernel_rfl) (fun _ _ _ h => h) (fun oi h => by cases h; exact Or.inl ⟨by rfl, fun w' hS' => by go_simp⟩) hHeld ?_
  try simp only [Act.put, List.setIfInBounds_toArray, List.set_cons_zero, List.set_cons_succ]
  clear hHeld
  refine wpAnyH_done (by kernel_rfl) ?_ _
  try simp only [Act.put]
  go_wp2_with (first | refine wpList_load_row rfl 26 (.tmp 9) rfl g rfl _ _ _ _ f0 Try.underlying26 rfl hik ?_)
  refine (CS.out _).mono ?_
  rintro e wC ⟨rfl, bC⟩
  have h0 := Row.below f0 bC f0.lt
  have hb := fb.trans (bC.mono fb.size)
  clear bC f0 fb
  go_wp2_with fail
  refine wp_region_held_drew (S := fun w' => w'.rangeAt g 0 (W.cellsOf k)) (by kernel_rfl) (l0.out _ h0) (fun hHeld => ?_)
  refine take_d 0 (some 51) (.int .i64 0) rfl (by kernel_rfl) (by kernel_rfl) (by kernel_rfl) (fun _ _ _ h => h) (fun oi h => by cases h; exact Or.inl ⟨by rfl, fun w' hS' => by go_simp⟩) hHeld ?_
  try simp only [Act.put, List.setIfInBounds_toArray, List.set_cons_zero, List.set_cons_succ]
  refine take_d 1 (some 52) (.bool true) rfl (by kernel_rfl) (by kernel_rfl) (by kernel_rfl) (fun _ _ _ h => h) (fun oi h => by cases h; exact Or.inl ⟨by rfl, fun w' hS' => by go_simp⟩) hHeld ?_
  try simp only [Act.put, List.setIfInBounds_toArray, List.set_cons_zero, List.set_cons_succ]
  refine take_d 2 (some 53) (.bool true) rfl (by kernel_rfl) (by kernel_rfl) (by kernel_rfl) (fun _ _ _ h => h) (fun oi h => by cases h; exact Or.inl ⟨by rfl, fun w' hS' => by go_simp⟩) hHeld ?_
  try simp only [Act.put, List.setIfInBounds_toArray, List.set_cons_zero, List.set_cons_succ]
  refine take_d 3 (some 54) (.int .i64 0) rfl (by kernel_rfl) (by kernel_rfl) (by kernel_rfl) (fun _ _ _ h => h) (fun oi h => by cases h; exact Or.inl ⟨by rfl, fun w' hS' => by go_simp⟩) hHeld ?_
  try simp only [Act.put, List.setIfInBounds_toArray, List.set_cons_zero, List.set_cons_succ]
  refine take_d 4 (some 55) (.bool true) rfl (by kernel_rfl) (by kernel_rfl) (by kernel_rfl) (fun _ _ _ h => h) (fun oi h => by cases h; exact Or.inl ⟨by rfl, fun w' hS' => by go_simp⟩) hHeld ?_
  try simp only [Act.put, List.setIfInBounds_toArray, List.set_cons_zero, List.set_cons_succ]
  refine take_d 5 (some 56) (.bool true) rfl (by kernel_rfl) (by kernel_rfl) (by kernel_rfl) (fun _ _ _ h => h) (fun oi h => by cases h; exact Or.inl ⟨by rfl, fun w' hS' => by go_simp⟩) hHeld ?_
  try simp only [Act.put, List.setIfInBounds_toArray, List.set_cons_zero, List.set_cons_succ]
  refine take_d 6 (some 57) (.bool true) rfl (by kernel_rfl) (by kernel_rfl) (by kernel_rfl) (fun _ _ _ h => h) (fun oi h => by cases h; exact Or.inl ⟨by rfl, fun w' hS' => by go_simp⟩) hHeld ?_
  try simp only [Act.put, List.setIfInBounds_toArray, List.set_cons_zero, List.set_cons_succ]
  refine take_d 7 (some 58) (.string Y) rfl (by kernel_rfl) (by kernel_rfl) (by kernel_rfl) (fun _ _ _ h => h) (fun oi h => by cases h; exact Or.inl ⟨by rfl, fun w' hS' => by go_simp⟩) hHeld ?_
  try simp only [Act.put, List.setIfInBounds_toArray, List.set_cons_zero, List.set_cons_succ]
  refine take_d 8 (some 59) (.int .i64 (Y.size : Int)) rfl (by kernel_rfl) (by kernel_rfl) (by kernel_rfl) (fun _ _ _ h => h) (fun oi h => by cases h; exact Or.inl ⟨by rfl, fun w' hS' => by go_simp⟩) hHeld ?_
  try simp only [Act.put, List.setIfInBounds_toArray, List.set_cons_zero, List.set_cons_succ]
  refine take_d 9 (some 60) (.string a2) rfl (by kernel_rfl) (by kernel_rfl) (by kernel_rfl) (fun _ _ _ h => h) (fun oi h => by cases h; exact Or.inl ⟨by rfl, fun w' hS' => by go_simp⟩) hHeld ?_
  try simp only [Act.put, List.setIfInBounds_toArray, List.set_cons_zero, List.set_cons_succ]
  refine take_d 10 (some 61) (.int .i64 (a2.size : Int)) rfl (by kernel_rfl) (by kernel_rfl) (by kernel_rfl) (fun _ _ _ h => h) (fun oi h => by cases h; exact Or.inl ⟨by rfl, fun w' hS' => by go_simp⟩) hHeld ?_
  try simp only [Act.put, List.setIfInBounds_toArray, List.set_cons_zero, List.set_cons_succ]
  refine take_d 11 (some 62) (.string a3) rfl (by kernel_rfl) (by kernel_rfl) (by kernel_rfl) (fun _ _ _ h => h) (fun oi h => by cases h; exact Or.inl ⟨by rfl, fun w' hS' => by go_simp⟩) hHeld ?_
  try simp only [Act.put, List.setIfInBounds_toArray, List.set_cons_zero, List.set_cons_succ]
  refine take_d 12 (some 63) (.int .i64 (a3.size : Int)) rfl (by kernel_rfl) (by kernel_rfl) (by kernel_rfl) (fun _ _ _ h => h) (fun oi h => by cases h; exact Or.inl ⟨by rfl, fun w' hS' => by go_simp⟩) hHeld ?_
  try simp only [Act.put, List.setIfInBounds_toArray, List.set_cons_zero, List.set_cons_succ]
  refine take_d 13 (some 64) (.int .i64 ((a2.size : Int) + (a3.size : Int))) rfl (by kernel_rfl) (by kernel_rfl) (by kernel_rfl) (fun _ _ _ h => h) (fun oi h => by cases h; exact Or.inl ⟨by rfl, fun w' hS' => by go_simp⟩) hHeld ?_
  try simp only [Act.put, List.setIfInBounds_toArray, List.set_cons_zero, List.set_cons_succ]
  refine take_d 14 (some 65) (.bool true) rfl (by kernel_rfl) (by kernel_rfl) (by kernel_rfl) (fun _ _ _ h => h) (fun oi h => by cases h; exact Or.inl ⟨by rfl, fun w' hS' => by go_simp⟩) hHeld ?_
  try simp only [Act.put, List.setIfInBounds_toArray, List.set_cons_zero, List.set_cons_succ]
  refine take_d 15 (some 66) (.bool true) rfl (by kernel_rfl) (by kernel_rfl) (by kernel_rfl) (fun _ _ _ h => h) (fun oi h => by cases h; exact Or.inl ⟨by rfl, fun w' hS' => by go_simp⟩) hHeld ?_
  try simp only [Act.put, List.setIfInBounds_toArray, List.set_cons_zero, List.set_cons_succ]
  refine take_d 16 (some 67) (.bool true) rfl (by kernel_rfl) (by kernel_rfl) (by kernel_rfl) (fun _ _ _ h => h) (fun oi h => by cases h; exact Or.inl ⟨by rfl, fun w' hS' => by go_simp⟩) hHeld ?_
  try simp only [Act.put, List.setIfInBounds_toArray, List.set_cons_zero, List.set_cons_succ]
  refine take_d 17 (some 68) (.string Y) rfl (by kernel_rfl) (by kernel_rfl) (by kernel_rfl) (fun _ _ _ h => h) (fun oi h => by cases h; exact Or.inl ⟨by rfl, fun w' hS' => by go_simp⟩) hHeld ?_
  try simp only [Act.put, List.setIfInBounds_toArray, List.set_cons_zero, List.set_cons_succ]
  refine take_d 18 (some 69) (.string X) rfl (by kernel_rfl) (by kernel_rfl) (by kernel_rfl) (fun _ _ _ h => h) (fun oi h => by cases h; exact Or.inl ⟨by rfl, fun w' hS' => by go_simp⟩) hHeld ?_
  try simp only [Act.put, List.setIfInBounds_toArray, List.set_cons_zero, List.set_cons_succ]
  refine one_d 19 (some 70) rfl (by kernel_rfl) ?_
  intro o ho hd K hK
  cases ho
  go_simp
  refine (CP.out _).mono ?_
  rintro e wq ⟨rfl, rfl⟩
  refine hK.out _ _ hHeld (fun hHeld => ?_)
  clear hK K hd
  try simp only [Act.put, List.setIfInBounds_toArray, List.set_cons_zero, List.set_cons_succ]
  refine take_d 20 (some 71) (.bool true) rfl (by kernel_rfl) (by kernel_rfl) (by kernel_rfl) (fun _ _ _ h => h) (fun oi h => by cases h; exact Or.inl ⟨by rfl, fun w' hS' => by go_simp⟩) hHeld ?_
  try simp only [Act.put, List.setIfInBounds_toArray, List.set_cons_zero, List.set_cons_succ]
  refine take_d 21 (some 72) (.bool true) rfl (by kernel_rfl) (by kernel_rfl) (by kernel_rfl) (fun _ _ _ h => h) (fun oi h => by cases h; exact Or.inl ⟨by rfl, fun w' hS' => by go_simp⟩) hHeld ?_
  try simp only [Act.put, List.setIfInBounds_toArray, List.set_cons_zero, List.set_cons_succ]
  refine take_d 22 (some 73) (.agg (W.cellsOf k).toArray) rfl (by kernel_rfl) (by kernel_rfl) (by kernel_rfl) (fun _ _ _ h => h) (fun oi h => by cases h; exact yieldsIf_load_mid (by rfl) 26 (.tmp 9) rfl g 0 rfl (W.cellsOf k) _ (fun w' hS' => hS') huk rfl hik') hHeld ?_
  try simp only [Act.put, List.setIfInBounds_toArray, List.set_cons_zero, List.set_cons_succ]
  refine take_d 23 (some 74) (.int .u64 (m : Int)) rfl (by kernel_rfl) (by kernel_rfl) (by kernel_rfl) (fun _ _ _ h => h) (fun oi h => by cases h; exact Or.inl ⟨by rfl, fun w' hS' => by go_simp⟩) hHeld ?_
  try simp only [Act.put, List.setIfInBounds_toArray, List.set_cons_zero, List.set_cons_succ]
  refine take_d 24 (some 75) (.string a2) rfl (by kernel_rfl) (by kernel_rfl) (by kernel_rfl) (fun _ _ _ h => h) (fun oi h => by cases h; exact Or.inl ⟨by rfl, fun w' hS' => by go_simp⟩) hHeld ?_
  try simp only [Act.put, List.setIfInBounds_toArray, List.set_cons_zero, List.set_cons_succ]
  refine take_d 25 (some 76) (.int .i64 (a2.size : Int)) rfl (by kernel_rfl) (by kernel_rfl) (by kernel_rfl) (fun _ _ _ h => h) (fun oi h => by cases h; exact Or.inl ⟨by rfl, fun w' hS' => by go_simp⟩) hHeld ?_
  try simp only [Act.put, List.setIfInBounds_toArray, List.set_cons_zero, List.set_cons_succ]
  refine take_d 28 (some 79) (.string Zs) rfl (by kernel_rfl) (by kernel_rfl) (by kernel_rfl) (fun _ _ _ h => h) (fun oi h => by cases h; exact Or.inl ⟨by rfl, fun w' hS' => by go_simp⟩) hHeld ?_
  try simp only [Act.put, List.setIfInBounds_toArray, List.set_cons_zero, List.set_cons_succ]
  have i0 := h0.drew
  have ib := hb.drew
  clear h0 hb
  refine one_d 26 (some 77) rfl (by kernel_rfl) ?_
  intro o ho hd K hK
  cases ho
  go_simp
  refine (CR.out _).mono ?_
  rintro e wD ⟨rfl, bb⟩
  have j0 := Row.below i0 bb i0.lt
  have jb := ib.trans (bb.mono ib.size)
  clear bb hHeld hd i0 ib
  refine hK.out _ _ (l0.out _ j0) (fun hHeld => ?_)
  clear hK K
  try simp only [Act.put, List.setIfInBounds_toArray, List.set_cons_zero, List.set_cons_succ]
  refine one_d 27 (some 78) rfl (by kernel_rfl) ?_
  intro o ho hd K hK
  cases ho
  go_simp
  refine (CZ.out _).mono ?_
  rintro e wE ⟨rfl, bb⟩
  have n0 := Row.below j0 bb j0.lt
  have nb := jb.trans (bb.mono jb.size)
  clear bb hHeld hd j0 jb
  refine hK.out _ _ (l0.out _ n0) (fun hHeld => ?_)
  clear hK K
  try simp only [Act.put, List.setIfInBounds_toArray, List.set_cons_zero, List.set_cons_succ]
  refine take_d 29 (some 80) (.bool true) rfl (by kernel_rfl) (by kernel_rfl) (by kernel_rfl) (fun _ _ _ h => h) (fun oi h => by cases h; exact Or.inl ⟨by rfl, fun w' hS' => by go_simp⟩) hHeld ?_
  try simp only [Act.put, List.setIfInBounds_toArray, List.set_cons_zero, List.set_cons_succ]
  refine take_d 30 (some 81) (.bool true) rfl (by kernel_rfl) (by kernel_rfl) (by kernel_rfl) (fun _ _ _ h => h) (fun oi h => by cases h; exact Or.inl ⟨by rfl, fun w' hS' => by go_simp⟩) hHeld ?_
  try simp only [Act.put, List.setIfInBounds_toArray, List.set_cons_zero, List.set_cons_succ]
  refine take_d 31 (some 8) (.bool true) rfl (by kernel_rfl) (by kernel_rfl) (by kernel_rfl) (fun _ _ _ h => h) (fun oi h => by cases h; exact Or.inl ⟨by rfl, fun w' hS' => by go_simp⟩) hHeld ?_
  try simp only [Act.put, List.setIfInBounds_toArray, List.set_cons_zero, List.set_cons_succ]
  clear hHeld
  refine wpAnyH_done (by kernel_rfl) ?_ _
  try simp only [Act.put]
  go_wp2
  go_ret
  exact ⟨rfl, nb⟩

theorem walk (a0 : ByteArray) (a1 : Int) (a2 : ByteArray) (a3 : ByteArray) (w : World) (w0 : a0.size ≤ maxLen) (w1 : (Lit.int .u64 a1).wf = true) (w2 : a2.size ≤ maxLen) (w3 : a3.size ≤ maxLen) :
    Calls Try.prog 10 #[.string a0, .int .u64 a1, .string a2, .string a3] w fun e w' => e = .returned (.bool true) ∧ Below w.heap.size w w' := by
  obtain ⟨h1, h2⟩ := bounds_u64 w1
  obtain ⟨m, rfl⟩ := Int.eq_ofNat_of_zero_le h1
  exact core a0 m a2 a3 w (by omega) w0 w2 w3

end Go.Proofs.Ytpkehhbjagmodaa.CtrPartsW
