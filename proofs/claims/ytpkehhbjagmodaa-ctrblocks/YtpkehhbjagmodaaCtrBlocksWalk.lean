/-
  Layer 6: the walk of CtrBlocks: it answers true at every key and numbers.
-/
import Derived.Test.YtpkehhbjagmodaaCAwake
import Derived.OpenShut
namespace Go.Proofs.Ytpkehhbjagmodaa.CtrBlocksW
open Go.RowKit
set_option linter.unusedVariables false

theorem rowTextT {w : World} {g t : Nat} {l : List UInt8} {n : Nat} (hn : n = l.length) (h : Row w g t (W.cellsOf l)) : (convert 30 9 (.slice (some ⟨g, 0, none⟩) n n)).run Try.prog w = .ok (.string ⟨l.toArray⟩) w := by
  subst hn
  exact run_convert_bytes_back (P := Try.prog) w 30 9 5 ⟨g, 0, none⟩ l.length l Try.underlying30 Try.underlying5 Try.underlying9 (fun t ht => by
    have e : (⟨g, 0, none⟩ : Addr).add t = ⟨g, t, none⟩ := by unfold Addr.add; split <;> simp_all
    rw [e, h.cell, c8_at ht]; simp [List.getD_eq_getElem?_getD, ht])
theorem last_block (k : List UInt8) (m i : Nat) : (C.streamL k m (16 * (i + 1))).drop (16 * i) = E.enc k (C.blk m i) := by
  have h := C.streamL_block k m (16 * (i + 1)) i (by omega)
  have e : min 16 (16 * (i + 1) - 16 * i) = 16 := by omega
  rw [e, List.take_of_length_le (by rw [List.length_drop, C.streamL_length]; omega), List.take_of_length_le (by rw [E.enc_length]; decide)] at h
  exact h

set_option maxHeartbeats 4000000 in
theorem core (a0 : ByteArray) (m i : Nat) (w : World) (hm : m ≤ 18446744073709551615) (hi : i ≤ 255) (w0 : a0.size ≤ maxLen) :
    Calls Try.prog 9 #[.string a0, .int .u64 (m : Int), .int .u8 (i : Int)] w fun e w' => e = .returned (.bool true) ∧ Below w.heap.size w w' := by
  unfold maxLen at w0
  go_enter Try.func9, Try.ntmps9
  go_wp2_with fail
  refine (awake6_any _).mono ?_
  rintro e w1 ⟨rfl, hb1⟩
  by_cases hL : a0.size = 16
  case neg =>
    go_wp2_with fail
    refine (new_no a0 hL _).mono ?_
    rintro e w2 ⟨rfl, b2⟩
    have hb2 := hb1.trans (b2.mono hb1.size)
    have hiz := info16k (b := List.replicate 16 0) rfl
    have hbz := hb2.alloc hb2.size (.cells (W.cellsOf (List.replicate 16 0)).toArray 26 (0, 0))
    generalize hcz : W.cellsOf (List.replicate 16 0) = cz at *
    have haz : cz.toArray.all (·.oneCell') = true := by rw [← hcz]; exact c8_all _
    have hsz : ∀ z : Array Value, z = (W.cellsOf (List.replicate 16 0)).toArray → z.size = cz.toArray.size := fun z hz => by rw [hz, hcz]
    go_wp2_with (first | refine wpList_store_new rfl 26 (.tmp 7) (.tmp 18) rfl w2 _ _ _ _ rfl rfl rfl hiz (hsz _ rfl) haz ?_)
    go_ret
    exact ⟨rfl, hbz⟩
  case pos =>
  have CN : Hid (∀ wx, Calls Try.prog 12 #[.string a0] wx fun e w' => e = .returned (.tuple #[.agg (W.cellsOf a0.data.toList).toArray, .int .i64 0]) ∧ Below wx.heap.size wx w') := fun wx => new_yes a0 hL wx
  have HK : Hid (a0.data.toList.length = 16) := by simpa [Hid] using hL
  generalize a0.data.toList = k at *
  have hik := info16k HK.out
  have hik' : (Try.prog.info? 26).map (·.size) = some (W.cellsOf k).length := by rw [c8_len, HK.out]; kernel_rfl
  have HO0 : Hid ((W.cellsOf (List.replicate 16 0)).toArray.size = (W.cellsOf k).toArray.size) := by rw [List.size_toArray, List.size_toArray, c8_len, c8_len, HK.out]; rfl
  have huk : Try.prog.underlying 26 = some _ := Try.underlying26
  go_wp2_with fail
  refine (CN.out _).mono ?_
  rintro e w2 ⟨rfl, b2⟩
  have hb2 : Below w.heap.size w w2 := hb1.trans (b2.mono hb1.size)
  have hz2 := hb2.size
  clear b2 hb1
  have r0 : Row (w2.alloc (.cells (W.cellsOf k).toArray 26 (0, 0))) w2.heap.size 26 (W.cellsOf k) := Row.new' rfl rfl
  have rb := hb2.alloc hz2 (.cells (W.cellsOf k).toArray 26 (0, 0))
  have CS : Hid (∀ wx, Calls Try.prog 24 #[.agg (W.cellsOf k).toArray, .int .u64 (m : Int), .int .i64 (16 * ((i : Int) + 1))] wx fun e w' => e = .returned (.tuple #[.string ⟨(C.streamL k m (16 * (i + 1))).toArray⟩, .int .i64 0]) ∧ Below wx.heap.size wx w') := fun wx => by
    have := stream_yes k m (16 * (i + 1)) HK.out hm (by omega) wx
    rw [show ((16 * (i + 1) : Nat) : Int) = 16 * ((i : Int) + 1) from by omega] at this
    exact this
  have CB : Hid (∀ wx, Calls Try.prog 23 #[.int .u64 (m : Int), .int .u64 (i : Int)] wx fun e w' => e = .returned (.agg (W.cellsOf (C.blk m i)).toArray) ∧ Below wx.heap.size wx w') := fun wx => block_any m i hm (by omega) wx
  have CE : Hid (∀ wx, Calls Try.prog 16 #[.agg (W.cellsOf k).toArray, .agg (W.cellsOf (C.blk m i)).toArray] wx fun e w' => e = .returned (.agg (W.cellsOf (E.enc k (C.blk m i))).toArray) ∧ Below wx.heap.size wx w') := fun wx => enc_any k (C.blk m i) HK.out (C.blk_length m i) wx
  have HEL := Lib.hid (E.enc_length k (C.blk m i))
  have hie := info16 HEL.out
  have hze : (W.cellsOf (List.replicate 16 0)).toArray.size = (W.cellsOf (E.enc k (C.blk m i))).toArray.size := by rw [List.size_toArray, List.size_toArray, c8_len, c8_len, HEL.out]; rfl
  have hss : (⟨(C.streamL k m (16 * (i + 1))).toArray⟩ : ByteArray).size = 16 * (i + 1) := by
    show (C.streamL k m (16 * (i + 1))).toArray.size = _
    rw [List.size_toArray, C.streamL_length]
  have HLB := Lib.hid (last_block k m i)
  have hwi1 : IntKind.i64.wrap ((i : Int) + 1) = (i : Int) + 1 := by rw [IntKind.wrap_i64]; omega
  have hwi2 : IntKind.i64.wrap (16 * ((i : Int) + 1)) = 16 * ((i : Int) + 1) := by rw [IntKind.wrap_i64]; omega
  have hwi3 : IntKind.i64.wrap (16 * ((i : Int) + 1) - 16) = 16 * (i : Int) := by rw [IntKind.wrap_i64]; omega
  have hwi4 : IntKind.u64.wrap (i : Int) = (i : Int) := by rw [IntKind.wrap_u64]; omega
  have HSL : Hid (∀ wx : World, (Instr.slice 9 (.string ⟨(C.streamL k m (16 * (i + 1))).toArray⟩) (some (.int .i64 (16 * (i : Int)))) none none).run Try.prog wx = .ok (.string ⟨(E.enc k (C.blk m i)).toArray⟩) wx) := fun wx => by
    rw [run_slice_string_from_if wx 9 _ .i64 _ Try.underlying9, hss, if_pos ⟨by omega, by omega⟩]
    have e : (⟨(C.streamL k m (16 * (i + 1))).toArray⟩ : ByteArray).extract (16 * (i : Int)).toNat (16 * (i + 1)) = ⟨(E.enc k (C.blk m i)).toArray⟩ := by
      rw [show (16 * (i : Int)).toNat = 16 * i from by omega]
      apply ByteArray.ext
      rw [ByteArray.data_extract]
      apply Array.toList_inj.1
      simp only [Array.toList_extract, List.extract_eq_take_drop]
      rw [List.take_of_length_le (by rw [List.length_drop, C.streamL_length]; omega)]
      exact HLB.out
    rw [e]
  clear hL
  go_wp2_with (first | refine wpList_store_new rfl 26 (.tmp 7) (.tmp 18) rfl w2 _ _ _ _ rfl rfl rfl hik HO0.out (c8_all _) ?_ | refine wpList_load_row rfl 26 (.tmp 7) rfl w2.heap.size rfl _ _ _ _ r0 Try.underlying26 rfl hik ?_)
  generalize w2.alloc (.cells (W.cellsOf k).toArray 26 (0, 0)) = wa at *
  generalize w2.heap.size = g at *
  have l0 : Hid (∀ wx, Row wx g 26 (W.cellsOf k) → wx.rangeAt g 0 (W.cellsOf k)) := fun wx h => by have := h.rangeOf 0 16; rwa [List.drop_zero, List.take_of_length_le (by rw [c8_len, HK.out]; decide)] at this
  refine (CS.out _).mono ?_
  rintro e w3 ⟨rfl, b3⟩
  have r3 := Row.below r0 b3 r0.lt
  have rb3 := rb.trans (b3.mono rb.size)
  have hg3 : w.heap.size ≤ g := hz2
  clear b3 r0 rb
  go_wp2_with fail
  refine wp_region_held_drew (S := fun w' => w'.rangeAt g 0 (W.cellsOf k)) (by kernel_rfl) (l0.out _ r3) (fun hHeld => ?_)
  refine take_d 0 (some 33) (.agg (W.cellsOf k).toArray) rfl (by kernel_rfl) (by kernel_rfl) (by kernel_rfl) (fun _ _ _ h => h) (fun oi h => by cases h; exact yieldsIf_load_mid (by rfl) 26 (.tmp 7) rfl g 0 rfl (W.cellsOf k) _ (fun w' hS' => hS') huk rfl hik') hHeld ?_
  try simp only [Act.put, List.setIfInBounds_toArray, List.set_cons_zero, List.set_cons_succ]
  refine take_d 1 (some 34) (.int .u64 (m : Int)) rfl (by kernel_rfl) (by kernel_rfl) (by kernel_rfl) (fun _ _ _ h => h) (fun oi h => by cases h; exact Or.inl ⟨by rfl, fun w' hS' => by go_simp⟩) hHeld ?_
  try simp only [Act.put, List.setIfInBounds_toArray, List.set_cons_zero, List.set_cons_succ]
  refine take_d 2 (some 35) (.int .u8 (i : Int)) rfl (by kernel_rfl) (by kernel_rfl) (by kernel_rfl) (fun _ _ _ h => h) (fun oi h => by cases h; exact Or.inl ⟨by rfl, fun w' hS' => by go_simp⟩) hHeld ?_
  try simp only [Act.put, List.setIfInBounds_toArray, List.set_cons_zero, List.set_cons_succ]
  refine take_d 3 (some 36) (.int .u64 (i : Int)) rfl (by kernel_rfl) (by kernel_rfl) (by kernel_rfl) (fun _ _ _ h => h) (fun oi h => by cases h; exact Or.inl ⟨by rfl, fun w' hS' => by go_simp⟩) hHeld ?_
  try simp only [Act.put, List.setIfInBounds_toArray, List.set_cons_zero, List.set_cons_succ]
  have d0 := r3.drew
  have db := rb3.drew
  clear r3 rb3
  refine two_d 4 6 rfl rfl (by kernel_rfl) ?_ ?_
  · intro K hK
    go_simp
    refine (CB.out _).mono ?_
    rintro e wA ⟨rfl, bb⟩
    have e0 := Row.below d0 bb d0.lt
    have eb := db.trans (bb.mono db.size)
    clear bb hHeld
    refine hK.out _ _ (l0.out _ e0) (fun hHeld => ?_)
    clear hK K
    try simp only [Act.put, List.setIfInBounds_toArray, List.set_cons_zero, List.set_cons_succ]
    refine two_d 5 6 rfl rfl (by kernel_rfl) ?_ ?_
    · intro K hK
      go_simp
      refine (CE.out _).mono ?_
      rintro e wB ⟨rfl, bb⟩
      have f0 := Row.below e0 bb e0.lt
      have fb := eb.trans (bb.mono eb.size)
      clear bb hHeld
      refine hK.out _ _ (l0.out _ f0) (fun hHeld => ?_)
      clear hK K
      try simp only [Act.put, List.setIfInBounds_toArray, List.set_cons_zero, List.set_cons_succ]
      refine one_d 6 (some 12) rfl (by kernel_rfl) ?_
      intro o ho hd
      cases ho
      intro K hK
      go_simp
      have hz := f0.lt
      have g0 := f0.alloc (.cells (W.cellsOf (List.replicate 16 0)).toArray 23 (0, 0))
      have g2 : Row (wB.alloc (.cells (W.cellsOf (List.replicate 16 0)).toArray 23 (0, 0))) wB.heap.size 23 (W.cellsOf (List.replicate 16 0)) := Row.new' rfl rfl
      have gb := fb.alloc fb.size (.cells (W.cellsOf (List.replicate 16 0)).toArray 23 (0, 0))
      have hgB : g < wB.heap.size := hz
      clear hHeld hz
      refine hK.out _ _ (l0.out _ g0) (fun hHeld => ?_)
      clear hK K
      try simp only [Act.put, List.setIfInBounds_toArray, List.set_cons_zero, List.set_cons_succ]
      refine one_d 7 none rfl (by kernel_rfl) ?_
      intro o ho hd K hK
      cases ho
      rw [if_pos (by rfl)]
      refine wp_store_row 23 (.tmp 12) (.tmp 38) rfl wB.heap.size (W.cellsOf (E.enc k (C.blk m i))).toArray rfl rfl 23 _ g2 hie hze (c8_all _) ?_
      have v0 := g0.setRow_other (show g ≠ wB.heap.size by omega) (W.cellsOf (E.enc k (C.blk m i))).toArray
      have v2 := g2.setRow (W.cellsOf (E.enc k (C.blk m i)))
      have vb := below_row gb (show w.heap.size ≤ wB.heap.size by omega) (W.cellsOf (E.enc k (C.blk m i))).toArray
      refine hK.out _ _ (l0.out _ v0) (fun hHeld => ?_)
      clear hK K hHeld g0 g2 gb
      refine wpAnyH_done (by kernel_rfl) ?_ _
      try simp only [Act.put]
      generalize hEB : E.enc k (C.blk m i) = eb at *
      generalize C.streamL k m (16 * (i + 1)) = ss at *
      go_wp2_with fail
      refine wp_region_held_drew (S := fun w' => Row w' (wB.heap.size) 23 (W.cellsOf eb)) (by kernel_rfl) v2.drew (fun hHeld => ?_)
      refine take_d 0 (some 39) (.int .i64 0) rfl (by kernel_rfl) (by kernel_rfl) (by kernel_rfl) (fun _ _ _ h => h) (fun oi h => by cases h; exact Or.inl ⟨by rfl, fun w' hS' => by go_simp⟩) hHeld ?_
      try simp only [Act.put, List.setIfInBounds_toArray, List.set_cons_zero, List.set_cons_succ]
      refine take_d 1 (some 40) (.bool true) rfl (by kernel_rfl) (by kernel_rfl) (by kernel_rfl) (fun _ _ _ h => h) (fun oi h => by cases h; exact Or.inl ⟨by rfl, fun w' hS' => by go_simp⟩) hHeld ?_
      try simp only [Act.put, List.setIfInBounds_toArray, List.set_cons_zero, List.set_cons_succ]
      refine take_d 2 (some 41) (.bool true) rfl (by kernel_rfl) (by kernel_rfl) (by kernel_rfl) (fun _ _ _ h => h) (fun oi h => by cases h; exact Or.inl ⟨by rfl, fun w' hS' => by go_simp⟩) hHeld ?_
      try simp only [Act.put, List.setIfInBounds_toArray, List.set_cons_zero, List.set_cons_succ]
      refine take_d 3 (some 42) (.string ⟨ss.toArray⟩) rfl (by kernel_rfl) (by kernel_rfl) (by kernel_rfl) (fun _ _ _ h => h) (fun oi h => by cases h; exact Or.inl ⟨by rfl, fun w' hS' => by go_simp⟩) hHeld ?_
      try simp only [Act.put, List.setIfInBounds_toArray, List.set_cons_zero, List.set_cons_succ]
      refine take_d 4 (some 43) (.int .i64 ((i : Int) + 1)) rfl (by kernel_rfl) (by kernel_rfl) (by kernel_rfl) (fun _ _ _ h => h) (fun oi h => by cases h; exact Or.inl ⟨by rfl, fun w' hS' => by go_simp⟩) hHeld ?_
      try simp only [Act.put, List.setIfInBounds_toArray, List.set_cons_zero, List.set_cons_succ]
      refine take_d 5 (some 44) (.int .i64 (16 * ((i : Int) + 1))) rfl (by kernel_rfl) (by kernel_rfl) (by kernel_rfl) (fun _ _ _ h => h) (fun oi h => by cases h; exact Or.inl ⟨by rfl, fun w' hS' => by go_simp⟩) hHeld ?_
      try simp only [Act.put, List.setIfInBounds_toArray, List.set_cons_zero, List.set_cons_succ]
      refine take_d 6 (some 45) (.int .i64 (16 * (i : Int))) rfl (by kernel_rfl) (by kernel_rfl) (by kernel_rfl) (fun _ _ _ h => h) (fun oi h => by cases h; exact Or.inl ⟨by rfl, fun w' hS' => by go_simp⟩) hHeld ?_
      try simp only [Act.put, List.setIfInBounds_toArray, List.set_cons_zero, List.set_cons_succ]
      have hsl := HSL.out
      refine take_d 7 (some 46) (.string ⟨eb.toArray⟩) rfl (by kernel_rfl) (by kernel_rfl) (by kernel_rfl) (fun _ _ _ h => h) (fun oi h => by cases h; exact Or.inl ⟨by rfl, fun w' hS' => by go_simp⟩) hHeld ?_
      try simp only [Act.put, List.setIfInBounds_toArray, List.set_cons_zero, List.set_cons_succ]
      clear hsl
      refine take_d 8 (some 47) (.slice (some ⟨wB.heap.size, 0, none⟩) 16 16) rfl (by kernel_rfl) (by kernel_rfl) (by kernel_rfl) (fun _ _ _ h => h) (fun oi h => by cases h; exact Or.inl ⟨by rfl, fun w' hS' => by go_simp⟩) hHeld ?_
      try simp only [Act.put, List.setIfInBounds_toArray, List.set_cons_zero, List.set_cons_succ]
      refine take_d 9 (some 48) (.string ⟨eb.toArray⟩) rfl (by kernel_rfl) (by kernel_rfl) (by kernel_rfl) (fun _ _ _ h => h) (fun oi h => by cases h; exact Or.inl ⟨by rfl, fun w' hS' => by have hcv := rowTextT (n := 16) HEL.out.symm hS'; go_simp⟩) hHeld ?_
      try simp only [Act.put, List.setIfInBounds_toArray, List.set_cons_zero, List.set_cons_succ]
      refine take_d 10 (some 49) (.bool true) rfl (by kernel_rfl) (by kernel_rfl) (by kernel_rfl) (fun _ _ _ h => h) (fun oi h => by cases h; exact Or.inl ⟨by rfl, fun w' hS' => by go_simp⟩) hHeld ?_
      try simp only [Act.put, List.setIfInBounds_toArray, List.set_cons_zero, List.set_cons_succ]
      refine take_d 11 (some 50) (.bool true) rfl (by kernel_rfl) (by kernel_rfl) (by kernel_rfl) (fun _ _ _ h => h) (fun oi h => by cases h; exact Or.inl ⟨by rfl, fun w' hS' => by go_simp⟩) hHeld ?_
      try simp only [Act.put, List.setIfInBounds_toArray, List.set_cons_zero, List.set_cons_succ]
      refine take_d 12 (some 6) (.bool true) rfl (by kernel_rfl) (by kernel_rfl) (by kernel_rfl) (fun _ _ _ h => h) (fun oi h => by cases h; exact Or.inl ⟨by rfl, fun w' hS' => by go_simp⟩) hHeld ?_
      try simp only [Act.put, List.setIfInBounds_toArray, List.set_cons_zero, List.set_cons_succ]
      clear hHeld
      refine wpAnyH_done (by kernel_rfl) ?_ _
      try simp only [Act.put]
      go_wp2
      go_ret
      exact ⟨rfl, vb.drew⟩
    · intro K hK
      go_simp
      have hz := e0.lt
      have f0 := e0.alloc (.cells (W.cellsOf (List.replicate 16 0)).toArray 23 (0, 0))
      have f2 : Row (wA.alloc (.cells (W.cellsOf (List.replicate 16 0)).toArray 23 (0, 0))) wA.heap.size 23 (W.cellsOf (List.replicate 16 0)) := Row.new' rfl rfl
      have fb := eb.alloc eb.size (.cells (W.cellsOf (List.replicate 16 0)).toArray 23 (0, 0))
      have hgB : g < wA.heap.size := hz
      clear hHeld hz
      refine hK.out _ _ (l0.out _ f0) (fun hHeld => ?_)
      clear hK K
      try simp only [Act.put, List.setIfInBounds_toArray, List.set_cons_zero, List.set_cons_succ]
      refine one_d 5 (some 38) rfl (by kernel_rfl) ?_
      intro o ho hd
      cases ho
      intro K hK
      go_simp
      refine (CE.out _).mono ?_
      rintro e wB ⟨rfl, bb⟩
      have g0 := Row.below f0 bb f0.lt
      have g2 := Row.below f2 bb f2.lt
      have gb := fb.trans (bb.mono fb.size)
      clear bb hHeld
      refine hK.out _ _ (l0.out _ g0) (fun hHeld => ?_)
      clear hK K
      try simp only [Act.put, List.setIfInBounds_toArray, List.set_cons_zero, List.set_cons_succ]
      refine one_d 7 none rfl (by kernel_rfl) ?_
      intro o ho hd K hK
      cases ho
      rw [if_pos (by rfl)]
      refine wp_store_row 23 (.tmp 12) (.tmp 38) rfl wA.heap.size (W.cellsOf (E.enc k (C.blk m i))).toArray rfl rfl 23 _ g2 hie hze (c8_all _) ?_
      have v0 := g0.setRow_other (show g ≠ wA.heap.size by omega) (W.cellsOf (E.enc k (C.blk m i))).toArray
      have v2 := g2.setRow (W.cellsOf (E.enc k (C.blk m i)))
      have vb := below_row gb (show w.heap.size ≤ wA.heap.size by omega) (W.cellsOf (E.enc k (C.blk m i))).toArray
      refine hK.out _ _ (l0.out _ v0) (fun hHeld => ?_)
      clear hK K hHeld g0 g2 gb
      refine wpAnyH_done (by kernel_rfl) ?_ _
      try simp only [Act.put]
      generalize hEB : E.enc k (C.blk m i) = eb at *
      generalize C.streamL k m (16 * (i + 1)) = ss at *
      go_wp2_with fail
      refine wp_region_held_drew (S := fun w' => Row w' (wA.heap.size) 23 (W.cellsOf eb)) (by kernel_rfl) v2.drew (fun hHeld => ?_)
      refine take_d 0 (some 39) (.int .i64 0) rfl (by kernel_rfl) (by kernel_rfl) (by kernel_rfl) (fun _ _ _ h => h) (fun oi h => by cases h; exact Or.inl ⟨by rfl, fun w' hS' => by go_simp⟩) hHeld ?_
      try simp only [Act.put, List.setIfInBounds_toArray, List.set_cons_zero, List.set_cons_succ]
      refine take_d 1 (some 40) (.bool true) rfl (by kernel_rfl) (by kernel_rfl) (by kernel_rfl) (fun _ _ _ h => h) (fun oi h => by cases h; exact Or.inl ⟨by rfl, fun w' hS' => by go_simp⟩) hHeld ?_
      try simp only [Act.put, List.setIfInBounds_toArray, List.set_cons_zero, List.set_cons_succ]
      refine take_d 2 (some 41) (.bool true) rfl (by kernel_rfl) (by kernel_rfl) (by kernel_rfl) (fun _ _ _ h => h) (fun oi h => by cases h; exact Or.inl ⟨by rfl, fun w' hS' => by go_simp⟩) hHeld ?_
      try simp only [Act.put, List.setIfInBounds_toArray, List.set_cons_zero, List.set_cons_succ]
      refine take_d 3 (some 42) (.string ⟨ss.toArray⟩) rfl (by kernel_rfl) (by kernel_rfl) (by kernel_rfl) (fun _ _ _ h => h) (fun oi h => by cases h; exact Or.inl ⟨by rfl, fun w' hS' => by go_simp⟩) hHeld ?_
      try simp only [Act.put, List.setIfInBounds_toArray, List.set_cons_zero, List.set_cons_succ]
      refine take_d 4 (some 43) (.int .i64 ((i : Int) + 1)) rfl (by kernel_rfl) (by kernel_rfl) (by kernel_rfl) (fun _ _ _ h => h) (fun oi h => by cases h; exact Or.inl ⟨by rfl, fun w' hS' => by go_simp⟩) hHeld ?_
      try simp only [Act.put, List.setIfInBounds_toArray, List.set_cons_zero, List.set_cons_succ]
      refine take_d 5 (some 44) (.int .i64 (16 * ((i : Int) + 1))) rfl (by kernel_rfl) (by kernel_rfl) (by kernel_rfl) (fun _ _ _ h => h) (fun oi h => by cases h; exact Or.inl ⟨by rfl, fun w' hS' => by go_simp⟩) hHeld ?_
      try simp only [Act.put, List.setIfInBounds_toArray, List.set_cons_zero, List.set_cons_succ]
      refine take_d 6 (some 45) (.int .i64 (16 * (i : Int))) rfl (by kernel_rfl) (by kernel_rfl) (by kernel_rfl) (fun _ _ _ h => h) (fun oi h => by cases h; exact Or.inl ⟨by rfl, fun w' hS' => by go_simp⟩) hHeld ?_
      try simp only [Act.put, List.setIfInBounds_toArray, List.set_cons_zero, List.set_cons_succ]
      have hsl := HSL.out
      refine take_d 7 (some 46) (.string ⟨eb.toArray⟩) rfl (by kernel_rfl) (by kernel_rfl) (by kernel_rfl) (fun _ _ _ h => h) (fun oi h => by cases h; exact Or.inl ⟨by rfl, fun w' hS' => by go_simp⟩) hHeld ?_
      try simp only [Act.put, List.setIfInBounds_toArray, List.set_cons_zero, List.set_cons_succ]
      clear hsl
      refine take_d 8 (some 47) (.slice (some ⟨wA.heap.size, 0, none⟩) 16 16) rfl (by kernel_rfl) (by kernel_rfl) (by kernel_rfl) (fun _ _ _ h => h) (fun oi h => by cases h; exact Or.inl ⟨by rfl, fun w' hS' => by go_simp⟩) hHeld ?_
      try simp only [Act.put, List.setIfInBounds_toArray, List.set_cons_zero, List.set_cons_succ]
      refine take_d 9 (some 48) (.string ⟨eb.toArray⟩) rfl (by kernel_rfl) (by kernel_rfl) (by kernel_rfl) (fun _ _ _ h => h) (fun oi h => by cases h; exact Or.inl ⟨by rfl, fun w' hS' => by have hcv := rowTextT (n := 16) HEL.out.symm hS'; go_simp⟩) hHeld ?_
      try simp only [Act.put, List.setIfInBounds_toArray, List.set_cons_zero, List.set_cons_succ]
      refine take_d 10 (some 49) (.bool true) rfl (by kernel_rfl) (by kernel_rfl) (by kernel_rfl) (fun _ _ _ h => h) (fun oi h => by cases h; exact Or.inl ⟨by rfl, fun w' hS' => by go_simp⟩) hHeld ?_
      try simp only [Act.put, List.setIfInBounds_toArray, List.set_cons_zero, List.set_cons_succ]
      refine take_d 11 (some 50) (.bool true) rfl (by kernel_rfl) (by kernel_rfl) (by kernel_rfl) (fun _ _ _ h => h) (fun oi h => by cases h; exact Or.inl ⟨by rfl, fun w' hS' => by go_simp⟩) hHeld ?_
      try simp only [Act.put, List.setIfInBounds_toArray, List.set_cons_zero, List.set_cons_succ]
      refine take_d 12 (some 6) (.bool true) rfl (by kernel_rfl) (by kernel_rfl) (by kernel_rfl) (fun _ _ _ h => h) (fun oi h => by cases h; exact Or.inl ⟨by rfl, fun w' hS' => by go_simp⟩) hHeld ?_
      try simp only [Act.put, List.setIfInBounds_toArray, List.set_cons_zero, List.set_cons_succ]
      clear hHeld
      refine wpAnyH_done (by kernel_rfl) ?_ _
      try simp only [Act.put]
      go_wp2
      go_ret
      exact ⟨rfl, vb.drew⟩
  · intro K hK
    go_simp
    have hz := d0.lt
    have e0 := d0.alloc (.cells (W.cellsOf (List.replicate 16 0)).toArray 23 (0, 0))
    have e2 : Row (w3.drew.alloc (.cells (W.cellsOf (List.replicate 16 0)).toArray 23 (0, 0))) w3.heap.size 23 (W.cellsOf (List.replicate 16 0)) := Row.new' rfl rfl
    have eb := db.alloc db.size (.cells (W.cellsOf (List.replicate 16 0)).toArray 23 (0, 0))
    have hgB : g < w3.heap.size := hz
    clear hHeld hz
    refine hK.out _ _ (l0.out _ e0) (fun hHeld => ?_)
    clear hK K
    try simp only [Act.put, List.setIfInBounds_toArray, List.set_cons_zero, List.set_cons_succ]
    refine one_d 4 (some 37) rfl (by kernel_rfl) ?_
    intro o ho hd
    cases ho
    intro K hK
    go_simp
    refine (CB.out _).mono ?_
    rintro e wA ⟨rfl, bb⟩
    have f0 := Row.below e0 bb e0.lt
    have f2 := Row.below e2 bb e2.lt
    have fb := eb.trans (bb.mono eb.size)
    clear bb hHeld
    refine hK.out _ _ (l0.out _ f0) (fun hHeld => ?_)
    clear hK K
    try simp only [Act.put, List.setIfInBounds_toArray, List.set_cons_zero, List.set_cons_succ]
    refine one_d 5 (some 38) rfl (by kernel_rfl) ?_
    intro o ho hd
    cases ho
    intro K hK
    go_simp
    refine (CE.out _).mono ?_
    rintro e wB ⟨rfl, bb⟩
    have g0 := Row.below f0 bb f0.lt
    have g2 := Row.below f2 bb f2.lt
    have gb := fb.trans (bb.mono fb.size)
    clear bb hHeld
    refine hK.out _ _ (l0.out _ g0) (fun hHeld => ?_)
    clear hK K
    try simp only [Act.put, List.setIfInBounds_toArray, List.set_cons_zero, List.set_cons_succ]
    refine one_d 7 none rfl (by kernel_rfl) ?_
    intro o ho hd K hK
    cases ho
    rw [if_pos (by rfl)]
    refine wp_store_row 23 (.tmp 12) (.tmp 38) rfl w3.heap.size (W.cellsOf (E.enc k (C.blk m i))).toArray rfl rfl 23 _ g2 hie hze (c8_all _) ?_
    have v0 := g0.setRow_other (show g ≠ w3.heap.size by omega) (W.cellsOf (E.enc k (C.blk m i))).toArray
    have v2 := g2.setRow (W.cellsOf (E.enc k (C.blk m i)))
    have vb := below_row gb (show w.heap.size ≤ w3.heap.size by omega) (W.cellsOf (E.enc k (C.blk m i))).toArray
    refine hK.out _ _ (l0.out _ v0) (fun hHeld => ?_)
    clear hK K hHeld g0 g2 gb
    refine wpAnyH_done (by kernel_rfl) ?_ _
    try simp only [Act.put]
    generalize hEB : E.enc k (C.blk m i) = eb at *
    generalize C.streamL k m (16 * (i + 1)) = ss at *
    go_wp2_with fail
    refine wp_region_held_drew (S := fun w' => Row w' (w3.heap.size) 23 (W.cellsOf eb)) (by kernel_rfl) v2.drew (fun hHeld => ?_)
    refine take_d 0 (some 39) (.int .i64 0) rfl (by kernel_rfl) (by kernel_rfl) (by kernel_rfl) (fun _ _ _ h => h) (fun oi h => by cases h; exact Or.inl ⟨by rfl, fun w' hS' => by go_simp⟩) hHeld ?_
    try simp only [Act.put, List.setIfInBounds_toArray, List.set_cons_zero, List.set_cons_succ]
    refine take_d 1 (some 40) (.bool true) rfl (by kernel_rfl) (by kernel_rfl) (by kernel_rfl) (fun _ _ _ h => h) (fun oi h => by cases h; exact Or.inl ⟨by rfl, fun w' hS' => by go_simp⟩) hHeld ?_
    try simp only [Act.put, List.setIfInBounds_toArray, List.set_cons_zero, List.set_cons_succ]
    refine take_d 2 (some 41) (.bool true) rfl (by kernel_rfl) (by kernel_rfl) (by kernel_rfl) (fun _ _ _ h => h) (fun oi h => by cases h; exact Or.inl ⟨by rfl, fun w' hS' => by go_simp⟩) hHeld ?_
    try simp only [Act.put, List.setIfInBounds_toArray, List.set_cons_zero, List.set_cons_succ]
    refine take_d 3 (some 42) (.string ⟨ss.toArray⟩) rfl (by kernel_rfl) (by kernel_rfl) (by kernel_rfl) (fun _ _ _ h => h) (fun oi h => by cases h; exact Or.inl ⟨by rfl, fun w' hS' => by go_simp⟩) hHeld ?_
    try simp only [Act.put, List.setIfInBounds_toArray, List.set_cons_zero, List.set_cons_succ]
    refine take_d 4 (some 43) (.int .i64 ((i : Int) + 1)) rfl (by kernel_rfl) (by kernel_rfl) (by kernel_rfl) (fun _ _ _ h => h) (fun oi h => by cases h; exact Or.inl ⟨by rfl, fun w' hS' => by go_simp⟩) hHeld ?_
    try simp only [Act.put, List.setIfInBounds_toArray, List.set_cons_zero, List.set_cons_succ]
    refine take_d 5 (some 44) (.int .i64 (16 * ((i : Int) + 1))) rfl (by kernel_rfl) (by kernel_rfl) (by kernel_rfl) (fun _ _ _ h => h) (fun oi h => by cases h; exact Or.inl ⟨by rfl, fun w' hS' => by go_simp⟩) hHeld ?_
    try simp only [Act.put, List.setIfInBounds_toArray, List.set_cons_zero, List.set_cons_succ]
    refine take_d 6 (some 45) (.int .i64 (16 * (i : Int))) rfl (by kernel_rfl) (by kernel_rfl) (by kernel_rfl) (fun _ _ _ h => h) (fun oi h => by cases h; exact Or.inl ⟨by rfl, fun w' hS' => by go_simp⟩) hHeld ?_
    try simp only [Act.put, List.setIfInBounds_toArray, List.set_cons_zero, List.set_cons_succ]
    have hsl := HSL.out
    refine take_d 7 (some 46) (.string ⟨eb.toArray⟩) rfl (by kernel_rfl) (by kernel_rfl) (by kernel_rfl) (fun _ _ _ h => h) (fun oi h => by cases h; exact Or.inl ⟨by rfl, fun w' hS' => by go_simp⟩) hHeld ?_
    try simp only [Act.put, List.setIfInBounds_toArray, List.set_cons_zero, List.set_cons_succ]
    clear hsl
    refine take_d 8 (some 47) (.slice (some ⟨w3.heap.size, 0, none⟩) 16 16) rfl (by kernel_rfl) (by kernel_rfl) (by kernel_rfl) (fun _ _ _ h => h) (fun oi h => by cases h; exact Or.inl ⟨by rfl, fun w' hS' => by go_simp⟩) hHeld ?_
    try simp only [Act.put, List.setIfInBounds_toArray, List.set_cons_zero, List.set_cons_succ]
    refine take_d 9 (some 48) (.string ⟨eb.toArray⟩) rfl (by kernel_rfl) (by kernel_rfl) (by kernel_rfl) (fun _ _ _ h => h) (fun oi h => by cases h; exact Or.inl ⟨by rfl, fun w' hS' => by have hcv := rowTextT (n := 16) HEL.out.symm hS'; go_simp⟩) hHeld ?_
    try simp only [Act.put, List.setIfInBounds_toArray, List.set_cons_zero, List.set_cons_succ]
    refine take_d 10 (some 49) (.bool true) rfl (by kernel_rfl) (by kernel_rfl) (by kernel_rfl) (fun _ _ _ h => h) (fun oi h => by cases h; exact Or.inl ⟨by rfl, fun w' hS' => by go_simp⟩) hHeld ?_
    try simp only [Act.put, List.setIfInBounds_toArray, List.set_cons_zero, List.set_cons_succ]
    refine take_d 11 (some 50) (.bool true) rfl (by kernel_rfl) (by kernel_rfl) (by kernel_rfl) (fun _ _ _ h => h) (fun oi h => by cases h; exact Or.inl ⟨by rfl, fun w' hS' => by go_simp⟩) hHeld ?_
    try simp only [Act.put, List.setIfInBounds_toArray, List.set_cons_zero, List.set_cons_succ]
    refine take_d 12 (some 6) (.bool true) rfl (by kernel_rfl) (by kernel_rfl) (by kernel_rfl) (fun _ _ _ h => h) (fun oi h => by cases h; exact Or.inl ⟨by rfl, fun w' hS' => by go_simp⟩) hHeld ?_
    try simp only [Act.put, List.setIfInBounds_toArray, List.set_cons_zero, List.set_cons_succ]
    clear hHeld
    refine wpAnyH_done (by kernel_rfl) ?_ _
    try simp only [Act.put]
    go_wp2
    go_ret
    exact ⟨rfl, vb.drew⟩

theorem walk (a0 : ByteArray) (a1 : Int) (a2 : Int) (w : World) (w0 : a0.size ≤ maxLen) (w1 : (Lit.int .u64 a1).wf = true) (w2 : (Lit.int .u8 a2).wf = true) :
    Calls Try.prog 9 #[.string a0, .int .u64 a1, .int .u8 a2] w fun e w' => e = .returned (.bool true) ∧ Below w.heap.size w w' := by
  obtain ⟨h1, h1'⟩ := bounds_u64 w1
  obtain ⟨h2, h2'⟩ := bounds_u8 w2
  obtain ⟨m, rfl⟩ := Int.eq_ofNat_of_zero_le h1
  obtain ⟨i, rfl⟩ := Int.eq_ofNat_of_zero_le h2
  exact core a0 m i w (by omega) (by omega) w0

end Go.Proofs.Ytpkehhbjagmodaa.CtrBlocksW
