/-
  Layer 6: the walk of CtrLonger: it answers true at every key, number, lengths and texts.
-/
import Derived.Test.YtpkehhbjagmodaaCAwake
import Derived.OpenShut
namespace Go.Proofs.Ytpkehhbjagmodaa.CtrLongerW
open Go.RowKit
set_option linter.unusedVariables false

theorem xor4 (a b c : UInt8) : (a ^^^ b) ^^^ (a ^^^ c) = b ^^^ c := by
  rw [UInt8.xor_comm a b, UInt8.xor_assoc, ← UInt8.xor_assoc a a c]; simp
theorem mk_at (l : List UInt8) (i : Nat) (h : i < (⟨l.toArray⟩ : ByteArray).size) : (⟨l.toArray⟩ : ByteArray)[i] = l.getD i 0 := by
  have h' : i < l.length := by simpa [ByteArray.size] using h
  rw [← byteAt _ i h]

set_option maxHeartbeats 4000000 in
theorem core (a0 : ByteArray) (m n q : Nat) (a4 a5 : ByteArray) (w : World) (hm : m ≤ 18446744073709551615) (hn : n ≤ 255) (hq : q ≤ 255) (w0 : a0.size ≤ maxLen) (w4 : a4.size ≤ maxLen) (w5 : a5.size ≤ maxLen) :
    Calls Try.prog 8 #[.string a0, .int .u64 (m : Int), .int .u8 (n : Int), .int .u8 (q : Int), .string a4, .string a5] w fun e w' => e = .returned (.bool true) ∧ Below w.heap.size w w' := by
  unfold maxLen at w0 w4 w5
  go_enter Try.func8, Try.ntmps8
  go_wp2_with fail
  refine (awake6_any _).mono ?_
  rintro e w1 ⟨rfl, hb1⟩
  by_cases hL : a0.size = 16
  case neg =>
    go_wp2_with fail
    refine (new_no a0 hL _).mono ?_
    rintro e w2 ⟨rfl, b2⟩
    have hb2 := hb1.trans (b2.mono hb1.size)
    have hiz := info16k (b := List.replicate 16 0) rfl
    have hbz := hb2.alloc hb2.size (.cells (W.cellsOf (List.replicate 16 0)).toArray 26 (0, 0))
    generalize hcz : W.cellsOf (List.replicate 16 0) = cz at *
    have haz : cz.toArray.all (·.oneCell') = true := by rw [← hcz]; exact c8_all _
    have hsz : ∀ z : Array Value, z = (W.cellsOf (List.replicate 16 0)).toArray → z.size = cz.toArray.size := fun z hz => by rw [hz, hcz]
    go_wp2_with (first | refine wpList_store_new rfl 26 (.tmp 13) (.tmp 27) rfl w2 _ _ _ _ rfl rfl rfl hiz (hsz _ rfl) haz ?_)
    go_ret
    exact ⟨rfl, hbz⟩
  case pos =>
  have CN : Hid (∀ wx, Calls Try.prog 12 #[.string a0] wx fun e w' => e = .returned (.tuple #[.agg (W.cellsOf a0.data.toList).toArray, .int .i64 0]) ∧ Below wx.heap.size wx w') := fun wx => new_yes a0 hL wx
  have HK : Hid (a0.data.toList.length = 16) := by simpa [Hid] using hL
  generalize a0.data.toList = k at *
  have hik := info16k HK.out
  have hik' : (Try.prog.info? 26).map (·.size) = some (W.cellsOf k).length := by rw [c8_len, HK.out]; kernel_rfl
  have HO0 : Hid ((W.cellsOf (List.replicate 16 0)).toArray.size = (W.cellsOf k).toArray.size) := by rw [List.size_toArray, List.size_toArray, c8_len, c8_len, HK.out]; rfl
  have huk : Try.prog.underlying 26 = some _ := Try.underlying26
  go_wp2_with fail
  refine (CN.out _).mono ?_
  rintro e w2 ⟨rfl, b2⟩
  have hb2 : Below w.heap.size w w2 := hb1.trans (b2.mono hb1.size)
  have hz2 := hb2.size
  clear b2 hb1
  have r0 : Row (w2.alloc (.cells (W.cellsOf k).toArray 26 (0, 0))) w2.heap.size 26 (W.cellsOf k) := Row.new' rfl rfl
  have rb := hb2.alloc hz2 (.cells (W.cellsOf k).toArray 26 (0, 0))
  by_cases hM : a4.size ≤ 100 ∧ a5.size ≤ 100
  case neg =>
    go_wp2_with (first | refine wpList_store_new rfl 26 (.tmp 13) (.tmp 27) rfl w2 _ _ _ _ rfl rfl rfl hik HO0.out (c8_all _) ?_)
    all_goals first
      | (exfalso; omega)
      | (go_ret; exact ⟨rfl, rb⟩)
  case pos =>
  obtain ⟨hx4, hx5⟩ := hM
  have hs4 : a4.data.toList.length = a4.size := by simp
  have hs5 : a5.data.toList.length = a5.size := by simp
  have CA : Hid (∀ wx, Calls Try.prog 24 #[.agg (W.cellsOf k).toArray, .int .u64 (m : Int), .int .i64 (n : Int)] wx fun e w' => e = .returned (.tuple #[.string ⟨(C.streamL k m n).toArray⟩, .int .i64 0]) ∧ Below wx.heap.size wx w') := fun wx => stream_yes k m n HK.out hm (by omega) wx
  have CB : Hid (∀ wx, Calls Try.prog 24 #[.agg (W.cellsOf k).toArray, .int .u64 (m : Int), .int .i64 ((n : Int) + (q : Int))] wx fun e w' => e = .returned (.tuple #[.string ⟨(C.streamL k m (n + q)).toArray⟩, .int .i64 0]) ∧ Below wx.heap.size wx w') := fun wx => by
    have := stream_yes k m (n + q) HK.out hm (by omega) wx
    rw [show ((n + q : Nat) : Int) = (n : Int) + (q : Int) from by omega] at this
    exact this
  have CX : Hid (∀ wx, Calls Try.prog 26 #[.agg (W.cellsOf k).toArray, .int .u64 (m : Int), .string a4] wx fun e w' => e = .returned (.string ⟨(C.turnL k m a4.data.toList).toArray⟩) ∧ Below wx.heap.size wx w') := fun wx => turn_any k m a4 HK.out hm (by omega) wx
  have CY : Hid (∀ wx, Calls Try.prog 26 #[.agg (W.cellsOf k).toArray, .int .u64 (m : Int), .string a5] wx fun e w' => e = .returned (.string ⟨(C.turnL k m a5.data.toList).toArray⟩) ∧ Below wx.heap.size wx w') := fun wx => turn_any k m a5 HK.out hm (by omega) wx
  have CP : Hid (∀ wx, Calls Try.prog 29 #[.string ⟨(C.streamL k m (n + q)).toArray⟩, .string ⟨(C.streamL k m n).toArray⟩] wx fun e w' => e = .returned (.bool true) ∧ w' = wx) := fun wx => by
    have := Try.strings_HasPrefix ⟨(C.streamL k m (n + q)).toArray⟩ ⟨(C.streamL k m n).toArray⟩ wx
    have hp : Lib.hasPrefix (C.streamL k m (n + q)) (C.streamL k m n) = true := by
      unfold Lib.hasPrefix
      rw [List.isPrefixOf_iff_prefix, ← C.streamL_take k m n q]
      exact List.take_prefix _ _
    rw [show (⟨(C.streamL k m (n + q)).toArray⟩ : ByteArray).data.toList = C.streamL k m (n + q) from rfl, show (⟨(C.streamL k m n).toArray⟩ : ByteArray).data.toList = C.streamL k m n from rfl, hp] at this
    exact this
  have hxl : (⟨(C.turnL k m a4.data.toList).toArray⟩ : ByteArray).size = a4.size := by
    show (C.turnL k m a4.data.toList).toArray.size = _
    rw [List.size_toArray, C.turnL_length, hs4]
  have hyl : (⟨(C.turnL k m a5.data.toList).toArray⟩ : ByteArray).size = a5.size := by
    show (C.turnL k m a5.data.toList).toArray.size = _
    rw [List.size_toArray, C.turnL_length, hs5]
  have HXR : Hid (∀ i (h4 : i < a4.size) (h5 : i < a5.size) (hx : i < (⟨(C.turnL k m a4.data.toList).toArray⟩ : ByteArray).size) (hy : i < (⟨(C.turnL k m a5.data.toList).toArray⟩ : ByteArray).size), (⟨(C.turnL k m a4.data.toList).toArray⟩ : ByteArray)[i] ^^^ (⟨(C.turnL k m a5.data.toList).toArray⟩ : ByteArray)[i] = a4[i] ^^^ a5[i]) := fun i h4 h5 hx hy => by
    rw [mk_at _ i hx, mk_at _ i hy, C.turnL_at _ _ _ _ (by rw [hs4]; exact h4), C.turnL_at _ _ _ _ (by rw [hs5]; exact h5), hs4, hs5, C.streamL_getD k m a4.size a5.size i h4 h5, xor4, byteAt a4 i h4, byteAt a5 i h5]
  generalize (⟨(C.turnL k m a4.data.toList).toArray⟩ : ByteArray) = X at *
  generalize (⟨(C.turnL k m a5.data.toList).toArray⟩ : ByteArray) = Y at *
  generalize (⟨(C.streamL k m n).toArray⟩ : ByteArray) = SA at *
  generalize (⟨(C.streamL k m (n + q)).toArray⟩ : ByteArray) = SB at *
  clear hs4 hs5 hL
  go_wp2_with (first | refine wpList_store_new rfl 26 (.tmp 13) (.tmp 27) rfl w2 _ _ _ _ rfl rfl rfl hik HO0.out (c8_all _) ?_ | refine wpList_load_row rfl 26 (.tmp 13) rfl w2.heap.size rfl _ _ _ _ r0 Try.underlying26 rfl hik ?_)
  all_goals first | (exfalso; omega) | skip
  generalize w2.alloc (.cells (W.cellsOf k).toArray 26 (0, 0)) = wa at *
  generalize w2.heap.size = g at *
  have l0 : Hid (∀ wx, Row wx g 26 (W.cellsOf k) → wx.rangeAt g 0 (W.cellsOf k)) := fun wx h => by have := h.rangeOf 0 16; rwa [List.drop_zero, List.take_of_length_le (by rw [c8_len, HK.out]; decide)] at this
  refine (CA.out _).mono ?_
  rintro e w3 ⟨rfl, b3⟩
  have r3 := Row.below r0 b3 r0.lt
  have rb3 := rb.trans (b3.mono rb.size)
  clear b3 r0 rb
  go_wp2_with (first | refine wpList_load_row rfl 26 (.tmp 13) rfl g rfl _ _ _ _ r3 Try.underlying26 rfl hik ?_)
  refine (CB.out _).mono ?_
  rintro e w4 ⟨rfl, b4⟩
  have r4 := Row.below r3 b4 r3.lt
  have rb4 := rb3.trans (b4.mono rb3.size)
  clear b4 r3 rb3
  go_wp2_with fail
  refine wp_region_held_drew (S := fun w' => w'.rangeAt g 0 (W.cellsOf k)) (by kernel_rfl) (l0.out _ r4) (fun hHeld => ?_)
  refine take_d 0 (some 58) (.agg (W.cellsOf k).toArray) rfl (by kernel_rfl) (by kernel_rfl) (by kernel_rfl) (fun _ _ _ h => h) (fun oi h => by cases h; exact yieldsIf_load_mid (by rfl) 26 (.tmp 13) rfl g 0 rfl (W.cellsOf k) _ (fun w' hS' => hS') huk rfl hik') hHeld ?_
  try simp only [Act.put, List.setIfInBounds_toArray, List.set_cons_zero, List.set_cons_succ]
  refine take_d 1 (some 59) (.int .u64 (m : Int)) rfl (by kernel_rfl) (by kernel_rfl) (by kernel_rfl) (fun _ _ _ h => h) (fun oi h => by cases h; exact Or.inl ⟨by rfl, fun w' hS' => by go_simp⟩) hHeld ?_
  try simp only [Act.put, List.setIfInBounds_toArray, List.set_cons_zero, List.set_cons_succ]
  refine take_d 2 (some 60) (.string a4) rfl (by kernel_rfl) (by kernel_rfl) (by kernel_rfl) (fun _ _ _ h => h) (fun oi h => by cases h; exact Or.inl ⟨by rfl, fun w' hS' => by go_simp⟩) hHeld ?_
  try simp only [Act.put, List.setIfInBounds_toArray, List.set_cons_zero, List.set_cons_succ]
  refine take_d 4 (some 62) (.agg (W.cellsOf k).toArray) rfl (by kernel_rfl) (by kernel_rfl) (by kernel_rfl) (fun _ _ _ h => h) (fun oi h => by cases h; exact yieldsIf_load_mid (by rfl) 26 (.tmp 13) rfl g 0 rfl (W.cellsOf k) _ (fun w' hS' => hS') huk rfl hik') hHeld ?_
  try simp only [Act.put, List.setIfInBounds_toArray, List.set_cons_zero, List.set_cons_succ]
  refine take_d 5 (some 63) (.int .u64 (m : Int)) rfl (by kernel_rfl) (by kernel_rfl) (by kernel_rfl) (fun _ _ _ h => h) (fun oi h => by cases h; exact Or.inl ⟨by rfl, fun w' hS' => by go_simp⟩) hHeld ?_
  try simp only [Act.put, List.setIfInBounds_toArray, List.set_cons_zero, List.set_cons_succ]
  refine take_d 6 (some 64) (.string a5) rfl (by kernel_rfl) (by kernel_rfl) (by kernel_rfl) (fun _ _ _ h => h) (fun oi h => by cases h; exact Or.inl ⟨by rfl, fun w' hS' => by go_simp⟩) hHeld ?_
  try simp only [Act.put, List.setIfInBounds_toArray, List.set_cons_zero, List.set_cons_succ]
  have d0 := r4.drew
  have db := rb4.drew
  clear r4 rb4
  refine one_d 3 (some 61) rfl (by kernel_rfl) ?_
  intro o ho hd K hK
  cases ho
  go_simp
  refine (CX.out _).mono ?_
  rintro e wA ⟨rfl, bb⟩
  have e0 := Row.below d0 bb d0.lt
  have eb := db.trans (bb.mono db.size)
  clear bb hHeld hd d0 db
  refine hK.out _ _ (l0.out _ e0) (fun hHeld => ?_)
  clear hK K
  try simp only [Act.put, List.setIfInBounds_toArray, List.set_cons_zero, List.set_cons_succ]
  refine one_d 7 (some 65) rfl (by kernel_rfl) ?_
  intro o ho hd K hK
  cases ho
  go_simp
  refine (CY.out _).mono ?_
  rintro e wB ⟨rfl, bb⟩
  have f0 := Row.below e0 bb e0.lt
  have fb := eb.trans (bb.mono eb.size)
  clear bb hHeld hd e0 eb
  refine hK.out _ _ (l0.out _ f0) (fun hHeld => ?_)
  clear hK K
  try simp only [Act.put, List.setIfInBounds_toArray, List.set_cons_zero, List.set_cons_succ]
  refine take_d 8 (some 19) (.string X) rfl (by kernel_rfl) (by kernel_rfl) (by kernel_rfl) (fun _ _ _ h => h) (fun oi h => by cases h; exact Or.inl ⟨by rfl, fun w' hS' => by go_simp⟩) hHeld ?_
  try simp only [Act.put, List.setIfInBounds_toArray, List.set_cons_zero, List.set_cons_succ]
  refine take_d 9 (some 20) (.string Y) rfl (by kernel_rfl) (by kernel_rfl) (by kernel_rfl) (fun _ _ _ h => h) (fun oi h => by cases h; exact Or.inl ⟨by rfl, fun w' hS' => by go_simp⟩) hHeld ?_
  try simp only [Act.put, List.setIfInBounds_toArray, List.set_cons_zero, List.set_cons_succ]
  clear hHeld
  refine wpAnyH_done (by kernel_rfl) ?_ _
  try simp only [Act.put]
  go_wp2_with fail
  refine (CP.out _).mono ?_
  rintro e w9 ⟨rfl, rfl⟩
  clear CA CB CX CY CP CN l0 f0 hik hik' huk
  go_wp2
  go_loopw [21, 90] (fun _ iv wr => ∃ i : Nat, i ≤ a4.size ∧ i ≤ a5.size ∧ iv = .int .i64 i ∧ Below w.heap.size w wr) (fun _ iv _ => a4.size - (intOf iv).toNat)
  case atStart => exact ⟨0, Nat.zero_le _, Nat.zero_le _, rfl, fb⟩
  case round =>
    clear fb
    obtain ⟨i, hi4, hi5, rfl, rb⟩ := hrel
    by_cases hlt : i < a4.size ∧ i < a5.size
    · obtain ⟨h4, h5⟩ := hlt
      have hX : i < X.size := by rw [hxl]; exact h4
      have hY : i < Y.size := by rw [hyl]; exact h5
      have e := HXR.out i h4 h5 hX hY
      have x1 := xor8 X[i] Y[i]
      have x2 := xor8 a4[i] a5[i]
      rw [e] at x1
      have hlt' : (i : Int) < min (a4.size : Int) (a5.size : Int) := by omega
      have hX' : (i : Int) < X.size := by omega
      have hY' : (i : Int) < Y.size := by omega
      have h4' : (i : Int) < a4.size := by omega
      have h5' : (i : Int) < a5.size := by omega
      clear e hxl hyl
      go_wp2
      go_region
      go_wp2
      go_roundw
      case rel => exact ⟨i + 1, by omega, by omega, by go_num, rb.drew⟩
      case measure => simp [intOf]; omega
    · have hlt' : ¬ ((i : Int) < min (a4.size : Int) (a5.size : Int)) := by omega
      go_wp2
      go_ret
      exact ⟨rfl, rb⟩

theorem walk (a0 : ByteArray) (a1 : Int) (a2 : Int) (a3 : Int) (a4 : ByteArray) (a5 : ByteArray) (w : World) (w0 : a0.size ≤ maxLen) (w1 : (Lit.int .u64 a1).wf = true) (w2 : (Lit.int .u8 a2).wf = true) (w3 : (Lit.int .u8 a3).wf = true) (w4 : a4.size ≤ maxLen) (w5 : a5.size ≤ maxLen) :
    Calls Try.prog 8 #[.string a0, .int .u64 a1, .int .u8 a2, .int .u8 a3, .string a4, .string a5] w fun e w' => e = .returned (.bool true) ∧ Below w.heap.size w w' := by
  obtain ⟨h1, h1'⟩ := bounds_u64 w1
  obtain ⟨h2, h2'⟩ := bounds_u8 w2
  obtain ⟨h3, h3'⟩ := bounds_u8 w3
  obtain ⟨m, rfl⟩ := Int.eq_ofNat_of_zero_le h1
  obtain ⟨n, rfl⟩ := Int.eq_ofNat_of_zero_le h2
  obtain ⟨q, rfl⟩ := Int.eq_ofNat_of_zero_le h3
  exact core a0 m n q a4 a5 w (by omega) (by omega) (by omega) w0 w4 w5

end Go.Proofs.Ytpkehhbjagmodaa.CtrLongerW
