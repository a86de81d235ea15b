/-
  Layer 6: Block.
-/
import Derived.Test.YtbkeodgiflfakaaCPlain
import Derived.Test.YtbkeodgiflfakaaACopy
import Derived.Test.YtbkeodgiflfakaaAMix
import Derived.Test.YtbkeodgiflfakaaAMem
import Derived.Test.YtbkeodgiflfakaaPut
namespace Go.Proofs.Ytbkeodgiflfakaa
open Go.RowKit
set_option linter.unusedVariables false
set_option maxRecDepth 20000

/-- .. as one step of a region that draws. -/
theorem step_copyS {P : Program} {ops : Array Oper} {o : Oper} {a : Act} {w : World} {K : Act → World → Prop} {Q : Exit → Act → World → Prop} {E : Prop} (hgd : o.guard = none) (d x : Operand) (dT sT : TypeId)
    (ho : o.op = .call { callee := .builtin .copy, args := #[d, x], argTypes := #[dT, sT] }) (elem : TypeId) (hu : P.underlying dT = some (.slice elem)) (hs : (P.info? elem).map (·.size) = some 1)
    (g off dLen dCap k : Nat) (hd : a.eval d = .slice (some ⟨g, off, none⟩) dLen dCap) (s : ByteArray) (hx : a.eval x = .string s) (cur : List Value) (t : TypeId) (hg : Row w g t cur) (hk : Nat.min s.size dLen = k) (hfit : off + k ≤ cur.length)
    (h : ∀ w', Hid (Row w' g t (splice cur off (W.cellsOf (s.data.toList.take k)))) → Below g w w' → K (a.put o.dst (goInt k)) w') :
    if Region.wanted o (yielded ops a.tmps) = true then Oper.wp P o a w K Q else E := by
  have hw : Region.wanted o (yielded ops a.tmps) = true := by simp [Region.wanted, hgd]
  rw [if_pos hw]
  exact wp_copyS d x dT sT ho elem hu hs g off dLen dCap k hd s hx cur t hg hk hfit (h _ (hg.setRow _) (below_row (Below.refl _ _) (Nat.le_refl _) _))

set_option maxHeartbeats 1000000 in
theorem block_any (n c : Nat) (hn : n ≤ 18446744073709551615) (hc : c ≤ 18446744073709551615) (w : World) :
    Calls Try.prog 65 #[.int .u64 (n : Int), .int .u64 (c : Int)] w fun e w' => e = .returned (.agg (W.cellsOf (C.blk n c)).toArray) ∧ Below w.heap.size w w' := by
  have CP1 : Hid (∀ wx, Calls Try.prog 33 #[.int .u64 (n : Int), .int .i64 8] wx fun e w' => e = .returned (.string ⟨(W.putL n 8).toArray⟩) ∧ Below wx.heap.size wx w') := fun wx => put_any n 8 (by omega) (by omega) wx
  have CP2 : Hid (∀ wx, Calls Try.prog 33 #[.int .u64 (c : Int), .int .i64 8] wx fun e w' => e = .returned (.string ⟨(W.putL c 8).toArray⟩) ∧ Below wx.heap.size wx w') := fun wx => put_any c 8 (by omega) (by omega) wx
  have hl1 : (W.putL n 8).length = 8 := W.putL_length n 8
  have hl2 : (W.putL c 8).length = 8 := W.putL_length c 8
  have HBL : Hid (C.blk n c = W.putL n 8 ++ W.putL c 8) := rfl
  have HL := Lib.hid (C.blk_length n c)
  have hi := info16 (C.blk_length n c)
  generalize C.blk n c = b at *
  generalize W.putL n 8 = x at *
  generalize W.putL c 8 = y at *
  have HM1 : Hid (Nat.min (⟨x.toArray⟩ : ByteArray).size 16 = 8) := by
    have : (⟨x.toArray⟩ : ByteArray).size = 8 := by simp [ByteArray.size, hl1]
    show Nat.min _ _ = _; rw [this]; rfl
  have HM2 : Hid (Nat.min (⟨y.toArray⟩ : ByteArray).size 8 = 8) := by
    have : (⟨y.toArray⟩ : ByteArray).size = 8 := by simp [ByteArray.size, hl2]
    show Nat.min _ _ = _; rw [this]; rfl
  have HS1 : Hid (splice (W.cellsOf (List.replicate 16 0)) 0 (W.cellsOf ((⟨x.toArray⟩ : ByteArray).data.toList.take 8)) = W.cellsOf (x ++ List.replicate 8 0)) := by
    show splice (W.cellsOf (List.replicate 16 0)) 0 (W.cellsOf (x.take 8)) = _
    rw [List.take_of_length_le (by omega), c8_splice]
    unfold splice
    rw [hl1]; rfl
  have HS2 : Hid (splice (W.cellsOf (x ++ List.replicate 8 0)) 8 (W.cellsOf ((⟨y.toArray⟩ : ByteArray).data.toList.take 8)) = W.cellsOf b) := by
    show splice (W.cellsOf (x ++ List.replicate 8 0)) 8 (W.cellsOf (y.take 8)) = _
    rw [List.take_of_length_le (by omega), c8_splice, HBL.out]
    unfold splice
    rw [hl2, List.take_append_of_le_length (by omega), List.take_of_length_le (by omega), List.drop_eq_nil_of_le (by simp [hl1]), List.append_nil]
  have HX : Hid (8 + 8 ≤ (W.cellsOf (x ++ List.replicate 8 0)).length) := by
    show 8 + 8 ≤ _
    rw [c8_len, List.length_append, hl1, List.length_replicate]; decide
  clear hl1 hl2 HBL hn hc
  obtain ⟨wa, hwa⟩ : ∃ wa, wa = (w.alloc (.cells (W.cellsOf (List.replicate 16 0)).toArray 51 (0, 0))).alloc (.cells (W.cellsOf (List.replicate 16 0)).toArray 51 (0, 0)) := ⟨_, rfl⟩
  have r0 : Row wa w.heap.size 51 (W.cellsOf (List.replicate 16 0)) := by rw [hwa]; exact (Row.new' rfl rfl).alloc _
  have r1 : Row wa (w.heap.size + 1) 51 (W.cellsOf (List.replicate 16 0)) := by rw [hwa]; exact Row.new' rfl (by simp)
  have hba : Below w.heap.size w wa := by rw [hwa]; exact ((Below.refl _ _).alloc (Nat.le_refl _) _).alloc (by simp) _
  go_enter Try.func65, Try.ntmps65
  go_wp2_with fail
  show Code.wp _ _ _ _ ((w.alloc (.cells (W.cellsOf (List.replicate 16 0)).toArray 51 (0, 0))).alloc (.cells (W.cellsOf (List.replicate 16 0)).toArray 51 (0, 0)))
  rw [← hwa]
  clear hwa
  go_region_held3 (fun _ => True) (trivial) (first
    | (go_at_call 33; refine (CP1.out _).mono ?_; rintro e w1 ⟨rfl, b1⟩; have p0 := Row.below r0.drew b1 r0.lt; have p1 := Row.below r1.drew b1 r1.lt; have hb1 : Below w.heap.size w w1 := (hba.drew).trans (b1.mono hba.size); clear b1)
    | (refine step_copyS rfl (.tmp 6) (.tmp 8) 78 9 rfl 5 Try.underlying78 (by kernel_rfl) (w.heap.size + 1) 0 16 16 8 rfl _ rfl _ _ p1 HM1.out (by rw [c8_len]; decide) ?_; intro w2 h2 b2))
  have q1 : Row w2 (w.heap.size + 1) 51 (W.cellsOf (x ++ List.replicate 8 0)) := by have := h2.out; rw [HS1.out] at this; exact this
  have q0 := p0.below b2 (by omega)
  have hb2 : Below w.heap.size w w2 := hb1.trans (b2.mono (by omega))
  clear h2 b2 p0 p1 hb1 r0 r1 hba HS1 HM1 CP1
  go_wp2_with fail
  go_region_held3 (fun _ => True) (trivial) (first
    | (go_at_call 33; refine (CP2.out _).mono ?_; rintro e w3 ⟨rfl, b3⟩; have s0 := Row.below q0.drew b3 q0.lt; have s1 := Row.below q1.drew b3 q1.lt; have hb3 : Below w.heap.size w w3 := (hb2.drew).trans (b3.mono hb2.size); clear b3)
    | (refine step_copyS rfl (.tmp 10) (.tmp 12) 78 9 rfl 5 Try.underlying78 (by kernel_rfl) (w.heap.size + 1) 8 8 8 8 rfl _ rfl _ _ s1 HM2.out HX.out ?_; intro w4 h4 b4))
  have v1 : Row w4 (w.heap.size + 1) 51 (W.cellsOf b) := by have := h4.out; rw [HS2.out] at this; exact this
  have v0 := s0.below b4 (by omega)
  have hb4 : Below w.heap.size w w4 := hb3.trans (b4.mono (by omega))
  clear h4 b4 s0 s1 hb3 q0 q1 hb2
  go_wp2_with (first | refine wpList_load_row rfl 51 _ rfl (w.heap.size + 1) rfl _ _ _ _ v1 Try.underlying51 rfl hi ?_ | refine wpList_store_row rfl 51 (.tmp 4) (.tmp 14) rfl w.heap.size _ rfl rfl _ _ v0 hi (by rw [List.size_toArray, List.size_toArray, c8_len, c8_len, HL.out]; rfl) (c8_all _) ?_)
  exact bodyPost_ret (results_cell_row rfl _ _ w.heap.size _ _ _ _ rfl (v0.setRow (W.cellsOf b)) Try.underlying51 rfl hi) rfl ⟨rfl, below_row hb4 (Nat.le_refl _) _⟩

end Go.Proofs.Ytbkeodgiflfakaa
