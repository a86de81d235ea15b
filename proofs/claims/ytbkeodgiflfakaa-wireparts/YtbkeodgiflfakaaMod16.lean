/-
  Several texts in one module: CBlock, CStream, CTurn.
-/
import Derived.Test.YtbkeodgiflfakaaMod1
import Derived.Test.YtbkeodgiflfakaaMod15
import Derived.Test.YtbkeodgiflfakaaMod8
import Derived.Test.YtbkeodgiflfakaaMod2
import Derived.Laws.IdiomStrings
/-
  Layer 6: Block.
-/
namespace Go.Proofs.Ytbkeodgiflfakaa
open Go.RowKit
set_option linter.unusedVariables false
set_option maxRecDepth 20000

/-- .. as one step of a region that draws. -/
theorem step_copyS {P : Program} {ops : Array Oper} {o : Oper} {a : Act} {w : World} {K : Act → World → Prop} {Q : Exit → Act → World → Prop} {E : Prop} (hgd : o.guard = none) (d x : Operand) (dT sT : TypeId)
    (ho : o.op = .call { callee := .builtin .copy, args := #[d, x], argTypes := #[dT, sT] }) (elem : TypeId) (hu : P.underlying dT = some (.slice elem)) (hs : (P.info? elem).map (·.size) = some 1)
    (g off dLen dCap k : Nat) (hd : a.eval d = .slice (some ⟨g, off, none⟩) dLen dCap) (s : ByteArray) (hx : a.eval x = .string s) (cur : List Value) (t : TypeId) (hg : Row w g t cur) (hk : Nat.min s.size dLen = k) (hfit : off + k ≤ cur.length)
    (h : ∀ w', Hid (Row w' g t (splice cur off (W.cellsOf (s.data.toList.take k)))) → Below g w w' → K (a.put o.dst (goInt k)) w') :
    if Region.wanted o (yielded ops a.tmps) = true then Oper.wp P o a w K Q else E := by
  have hw : Region.wanted o (yielded ops a.tmps) = true := by simp [Region.wanted, hgd]
  rw [if_pos hw]
  exact wp_copyS d x dT sT ho elem hu hs g off dLen dCap k hd s hx cur t hg hk hfit (h _ (hg.setRow _) (below_row (Below.refl _ _) (Nat.le_refl _) _))

set_option maxHeartbeats 1000000 in
theorem block_any (n c : Nat) (hn : n ≤ 18446744073709551615) (hc : c ≤ 18446744073709551615) (w : World) :
    Calls Try.prog 65 #[.int .u64 (n : Int), .int .u64 (c : Int)] w fun e w' => e = .returned (.agg (W.cellsOf (C.blk n c)).toArray) ∧ Below w.heap.size w w' := by
  have CP1 : Hid (∀ wx, Calls Try.prog 33 #[.int .u64 (n : Int), .int .i64 8] wx fun e w' => e = .returned (.string ⟨(W.putL n 8).toArray⟩) ∧ Below wx.heap.size wx w') := fun wx => put_any n 8 (by omega) (by omega) wx
  have CP2 : Hid (∀ wx, Calls Try.prog 33 #[.int .u64 (c : Int), .int .i64 8] wx fun e w' => e = .returned (.string ⟨(W.putL c 8).toArray⟩) ∧ Below wx.heap.size wx w') := fun wx => put_any c 8 (by omega) (by omega) wx
  have hl1 : (W.putL n 8).length = 8 := W.putL_length n 8
  have hl2 : (W.putL c 8).length = 8 := W.putL_length c 8
  have HBL : Hid (C.blk n c = W.putL n 8 ++ W.putL c 8) := rfl
  have HL := Lib.hid (C.blk_length n c)
  have hi := info16 (C.blk_length n c)
  generalize C.blk n c = b at *
  generalize W.putL n 8 = x at *
  generalize W.putL c 8 = y at *
  have HM1 : Hid (Nat.min (⟨x.toArray⟩ : ByteArray).size 16 = 8) := by
    have : (⟨x.toArray⟩ : ByteArray).size = 8 := by simp [ByteArray.size, hl1]
    show Nat.min _ _ = _; rw [this]; rfl
  have HM2 : Hid (Nat.min (⟨y.toArray⟩ : ByteArray).size 8 = 8) := by
    have : (⟨y.toArray⟩ : ByteArray).size = 8 := by simp [ByteArray.size, hl2]
    show Nat.min _ _ = _; rw [this]; rfl
  have HS1 : Hid (splice (W.cellsOf (List.replicate 16 0)) 0 (W.cellsOf ((⟨x.toArray⟩ : ByteArray).data.toList.take 8)) = W.cellsOf (x ++ List.replicate 8 0)) := by
    show splice (W.cellsOf (List.replicate 16 0)) 0 (W.cellsOf (x.take 8)) = _
    rw [List.take_of_length_le (by omega), c8_splice]
    unfold splice
    rw [hl1]; rfl
  have HS2 : Hid (splice (W.cellsOf (x ++ List.replicate 8 0)) 8 (W.cellsOf ((⟨y.toArray⟩ : ByteArray).data.toList.take 8)) = W.cellsOf b) := by
    show splice (W.cellsOf (x ++ List.replicate 8 0)) 8 (W.cellsOf (y.take 8)) = _
    rw [List.take_of_length_le (by omega), c8_splice, HBL.out]
    unfold splice
    rw [hl2, List.take_append_of_le_length (by omega), List.take_of_length_le (by omega), List.drop_eq_nil_of_le (by simp [hl1]), List.append_nil]
  have HX : Hid (8 + 8 ≤ (W.cellsOf (x ++ List.replicate 8 0)).length) := by
    show 8 + 8 ≤ _
    rw [c8_len, List.length_append, hl1, List.length_replicate]; decide
  clear hl1 hl2 HBL hn hc
  obtain ⟨wa, hwa⟩ : ∃ wa, wa = (w.alloc (.cells (W.cellsOf (List.replicate 16 0)).toArray 51 (0, 0))).alloc (.cells (W.cellsOf (List.replicate 16 0)).toArray 51 (0, 0)) := ⟨_, rfl⟩
  have r0 : Row wa w.heap.size 51 (W.cellsOf (List.replicate 16 0)) := by rw [hwa]; exact (Row.new' rfl rfl).alloc _
  have r1 : Row wa (w.heap.size + 1) 51 (W.cellsOf (List.replicate 16 0)) := by rw [hwa]; exact Row.new' rfl (by simp)
  have hba : Below w.heap.size w wa := by rw [hwa]; exact ((Below.refl _ _).alloc (Nat.le_refl _) _).alloc (by simp) _
  go_enter Try.func65, Try.ntmps65
  go_wp2_with fail
  show Code.wp _ _ _ _ ((w.alloc (.cells (W.cellsOf (List.replicate 16 0)).toArray 51 (0, 0))).alloc (.cells (W.cellsOf (List.replicate 16 0)).toArray 51 (0, 0)))
  rw [← hwa]
  clear hwa
  go_region_held3 (fun _ => True) (trivial) (first
    | (go_at_call 33; refine (CP1.out _).mono ?_; rintro e w1 ⟨rfl, b1⟩; have p0 := Row.below r0.drew b1 r0.lt; have p1 := Row.below r1.drew b1 r1.lt; have hb1 : Below w.heap.size w w1 := (hba.drew).trans (b1.mono hba.size); clear b1)
    | (refine step_copyS rfl (.tmp 6) (.tmp 8) 78 9 rfl 5 Try.underlying78 (by kernel_rfl) (w.heap.size + 1) 0 16 16 8 rfl _ rfl _ _ p1 HM1.out (by rw [c8_len]; decide) ?_; intro w2 h2 b2))
  have q1 : Row w2 (w.heap.size + 1) 51 (W.cellsOf (x ++ List.replicate 8 0)) := by have := h2.out; rw [HS1.out] at this; exact this
  have q0 := p0.below b2 (by omega)
  have hb2 : Below w.heap.size w w2 := hb1.trans (b2.mono (by omega))
  clear h2 b2 p0 p1 hb1 r0 r1 hba HS1 HM1 CP1
  go_wp2_with fail
  go_region_held3 (fun _ => True) (trivial) (first
    | (go_at_call 33; refine (CP2.out _).mono ?_; rintro e w3 ⟨rfl, b3⟩; have s0 := Row.below q0.drew b3 q0.lt; have s1 := Row.below q1.drew b3 q1.lt; have hb3 : Below w.heap.size w w3 := (hb2.drew).trans (b3.mono hb2.size); clear b3)
    | (refine step_copyS rfl (.tmp 10) (.tmp 12) 78 9 rfl 5 Try.underlying78 (by kernel_rfl) (w.heap.size + 1) 8 8 8 8 rfl _ rfl _ _ s1 HM2.out HX.out ?_; intro w4 h4 b4))
  have v1 : Row w4 (w.heap.size + 1) 51 (W.cellsOf b) := by have := h4.out; rw [HS2.out] at this; exact this
  have v0 := s0.below b4 (by omega)
  have hb4 : Below w.heap.size w w4 := hb3.trans (b4.mono (by omega))
  clear h4 b4 s0 s1 hb3 q0 q1 hb2
  go_wp2_with (first | refine wpList_load_row rfl 51 _ rfl (w.heap.size + 1) rfl _ _ _ _ v1 Try.underlying51 rfl hi ?_ | refine wpList_store_row rfl 51 (.tmp 4) (.tmp 14) rfl w.heap.size _ rfl rfl _ _ v0 hi (by rw [List.size_toArray, List.size_toArray, c8_len, c8_len, HL.out]; rfl) (c8_all _) ?_)
  exact bodyPost_ret (results_cell_row rfl _ _ w.heap.size _ _ _ _ rfl (v0.setRow (W.cellsOf b)) Try.underlying51 rfl hi) rfl ⟨rfl, below_row hb4 (Nat.le_refl _) _⟩

end Go.Proofs.Ytbkeodgiflfakaa

/-
  Layer 6: stream.
-/
namespace Go.Proofs.Ytbkeodgiflfakaa
open Go.RowKit
set_option linter.unusedVariables false
set_option maxRecDepth 20000

def slen : Value → Nat
  | .slice _ n _ => n
  | _ => 0

theorem makeB (n : Nat) (hn : n ≤ 65536) (w : World) : (Instr.makeSlice 78 (.int .i64 (n : Int)) (.int .i64 (n : Int))).run Try.prog w = .ok (.slice (some ⟨w.heap.size, 0, none⟩) n n) (w.alloc (.cells (W.cellsOf (List.replicate n 0)).toArray 5 (0, 0))) := by
  obtain ⟨i0, hi, hz0, hz1, hz2⟩ := info_parts infoByte
  have h := run_makeSlice (P := Try.prog) w 78 5 i0 (.int .u8 0) Try.underlying78 hi hz0 .i64 .i64 n n (by omega) (Int.le_refl _) (by rw [hz1]; simp; omega) (by rw [hz2]; omega) (by omega)
  rw [h, Int.toNat_natCast, hz1, Nat.mul_one]
  have e : madeCells (Value.int .u8 0).cells n = (W.cellsOf (List.replicate n 0)).toArray := by
    apply Array.ext'
    have h1 := toList_madeCells_one (Value.int .u8 0) n
    show (madeCells #[Value.int .u8 0] n).toList = _
    rw [h1]; simp [W.cellsOf]
  rw [e]

set_option maxHeartbeats 4000000 in
theorem stream_any (k : List UInt8) (m n : Nat) (hk : k.length = 16) (hm : m ≤ 18446744073709551615) (hn : n ≤ 65536) (w : World) :
    Calls Try.prog 56 #[.agg (W.cellsOf k).toArray, .int .u64 (m : Int), .int .i64 (n : Int)] w fun e w' => e = .returned (.slice (some ⟨w.heap.size + 1, 0, none⟩) n n) ∧ Row w' (w.heap.size + 1) 5 (W.cellsOf (C.streamL k m n)) ∧ Below w.heap.size w w' := by
  have HK := Lib.hid hk
  clear hk
  have hik := info16k HK.out
  have hik' : (Try.prog.info? 53).map (·.size) = some (W.cellsOf k).length := by rw [c8_len, HK.out]; kernel_rfl
  have HZL : Hid ((List.replicate n (0 : UInt8)).length = n) := List.length_replicate
  have HFL := Lib.hid (C.streamL_length k m n)
  have HF : Hid ((C.streamL k m n).length = (List.replicate n (0 : UInt8)).length) := by
    show _ = _
    exact HFL.out.trans HZL.out.symm
  have HFull := Lib.hid (E.fill_full HFL.out HZL.out)
  have mk := makeB n hn
  have l0 : Hid (∀ wx, Row wx w.heap.size 53 (W.cellsOf k) → wx.rangeAt w.heap.size 0 (W.cellsOf k)) := fun wx h => by have := h.rangeOf 0 16; rwa [List.drop_zero, List.take_of_length_le (by rw [c8_len, HK.out]; decide)] at this
  have huk : Try.prog.underlying 53 = some _ := Try.underlying53
  go_enter Try.func56, Try.ntmps56
  go_wp2
  clear mk
  go_loopw [8, 9, 10] (fun cv rv _ wr => ∃ j o : Nat, 16 * j ≤ n + 15 ∧ cv = .int .u64 j ∧ rv = .slice (some ⟨w.heap.size + 1, o, none⟩) (n - min (16 * j) n) (n - min (16 * j) n) ∧ (16 * j < n → o = 16 * j) ∧ Row wr w.heap.size 53 (W.cellsOf k) ∧ Row wr (w.heap.size + 1) 5 (W.cellsOf (E.fill (C.streamL k m n) (List.replicate n 0) (min (16 * j) n))) ∧ Below w.heap.size w wr) (fun _ rv _ _ => slen rv)
  case atStart =>
    refine ⟨0, 0, by omega, rfl, ?_, fun _ => rfl, (Row.new' rfl rfl).alloc _, ?_, ((Below.refl _ _).alloc (Nat.le_refl _) _).alloc (by simp) _⟩
    · have e : n - min (16 * 0) n = n := by omega
      rw [e]
    · have e : min (16 * 0) n = 0 := by omega
      rw [e, E.fill_zero]; exact Row.new' rfl (by simp)
  case round =>
    obtain ⟨j, o, hj, rfl, hrv, ho, r0, r1, rb⟩ := hrel
    by_cases hlt : 16 * j < n
    · obtain rfl := ho hlt
      have hmin : min (16 * j) n = 16 * j := by omega
      obtain ⟨L, hL⟩ : ∃ L, L = n - 16 * j := ⟨_, rfl⟩
      rw [hmin, ← hL] at hrv
      rw [hmin] at r1
      subst hrv
      have hLp : (0 : Int) < L := by omega
      obtain ⟨c, hc⟩ : ∃ c, c = min 16 L := ⟨_, rfl⟩
      have hcL : (c : Int) ≤ L := by omega
      have hj64 : j ≤ 18446744073709551615 := by omega
      have CB : Hid (∀ wx, Calls Try.prog 65 #[.int .u64 (m : Int), .int .u64 (j : Int)] wx fun e w' => e = .returned (.agg (W.cellsOf (C.blk m j)).toArray) ∧ Below wx.heap.size wx w') := fun wx => block_any m j hm hj64 wx
      have CE : Hid (∀ wx, Calls Try.prog 64 #[.agg (W.cellsOf k).toArray, .agg (W.cellsOf (C.blk m j)).toArray] wx fun e w' => e = .returned (.agg (W.cellsOf (E.enc k (C.blk m j))).toArray) ∧ Below wx.heap.size wx w') := fun wx => enc_any k (C.blk m j) HK.out (C.blk_length m j) wx
      have HEL := Lib.hid (E.enc_length k (C.blk m j))
      have hie := info16 HEL.out
      have hze : (W.cellsOf (List.replicate 16 0)).toArray.size = (W.cellsOf (E.enc k (C.blk m j))).toArray.size := by rw [List.size_toArray, List.size_toArray, c8_len, c8_len, HEL.out]; rfl
      have HCL : Hid ((W.cellsOf ((E.enc k (C.blk m j)).take c)).length = c) := by
        show _ = _
        rw [c8_len, List.length_take, HEL.out]; omega
      have HN : Hid ((W.cellsOf ((E.enc k (C.blk m j)).take c)).length = Nat.min 16 L) := by
        exact HCL.out.trans hc
      have HSR : Hid (∀ (i : Nat) v, (W.cellsOf ((E.enc k (C.blk m j)).take c))[i]? = some v → (W.cellsOf (E.enc k (C.blk m j)))[0 + i]? = some v) := by
        intro i v hi
        rw [Nat.zero_add]
        simp only [W.cellsOf, List.getElem?_map, List.getElem?_take] at hi ⊢
        split at hi
        · exact hi
        · simp at hi
      have HFT : Hid (16 * j + (W.cellsOf ((E.enc k (C.blk m j)).take c)).length ≤ (W.cellsOf (E.fill (C.streamL k m n) (List.replicate n 0) (16 * j))).length) := by
        show _ ≤ _
        rw [HCL.out, c8_len, E.fill_length HF.out, HZL.out]; omega
      have HSP : Hid (splice (W.cellsOf (E.fill (C.streamL k m n) (List.replicate n 0) (16 * j))) (16 * j) (W.cellsOf ((E.enc k (C.blk m j)).take c)) = W.cellsOf (E.fill (C.streamL k m n) (List.replicate n 0) (min (16 * (j + 1)) n))) := by
        show _ = _
        rw [c8_splice]
        congr 1
        have hb := C.streamL_block k m n j hlt
        have e1 : min 16 (n - 16 * j) = c := by omega
        rw [e1] at hb
        have e2 : min (16 * (j + 1)) n = 16 * j + c := by omega
        have e3 : ((E.enc k (C.blk m j)).take c).length = c := by rw [List.length_take, HEL.out]; omega
        rw [e2]
        generalize (E.enc k (C.blk m j)).take c = X at hb e3
        have e4 : ((C.streamL k m n).take (16 * j)).length = 16 * j := by rw [List.length_take, HFL.out]; omega
        have e5 : (C.streamL k m n).take (16 * j + c) = (C.streamL k m n).take (16 * j) ++ X := by rw [List.take_add, hb]
        have e6 : ((C.streamL k m n).take (16 * j)).drop (16 * j + c) = [] := List.drop_eq_nil_of_le (by omega)
        have e7 : ((C.streamL k m n).take (16 * j)).take (16 * j) = (C.streamL k m n).take (16 * j) := List.take_of_length_le (by omega)
        unfold splice E.fill
        rw [e5, e3, List.take_append_of_le_length (by omega), e7, List.drop_append, e6, e4, List.nil_append, List.drop_drop, List.append_assoc, show 16 * j + (16 * j + c - 16 * j) = 16 * j + c from by omega]
      have HLh := Lib.hid hL
      have HCh := Lib.hid hc
      have hcz : (0 : Int) ≤ c := by omega
      clear hL hc
      go_wp2_with fail
      refine wp_region_held_drew (S := fun w' => w'.rangeAt w.heap.size 0 (W.cellsOf k)) (by kernel_rfl) (l0.out _ r0) (fun hHeld => ?_)
      refine take_d 0 (some 19) (.agg (W.cellsOf k).toArray) rfl (by kernel_rfl) (by kernel_rfl) (by kernel_rfl) (fun _ _ _ h => h) (fun oi h => by cases h; exact yieldsIf_load_mid (by rfl) 53 (.tmp 3) rfl w.heap.size 0 rfl (W.cellsOf k) _ (fun w' hS' => hS') huk rfl hik') hHeld ?_
      try simp only [Act.put, List.setIfInBounds_toArray, List.set_cons_zero, List.set_cons_succ]
      refine take_d 1 (some 20) (.int .u64 (m : Int)) rfl (by kernel_rfl) (by kernel_rfl) (by kernel_rfl) (fun _ _ _ h => h) (fun oi h => by cases h; exact Or.inl ⟨by rfl, fun w' hS' => by go_simp⟩) hHeld ?_
      try simp only [Act.put, List.setIfInBounds_toArray, List.set_cons_zero, List.set_cons_succ]
      refine take_d 2 (some 21) (.int .u64 (j : Int)) rfl (by kernel_rfl) (by kernel_rfl) (by kernel_rfl) (fun _ _ _ h => h) (fun oi h => by cases h; exact Or.inl ⟨by rfl, fun w' hS' => by go_simp⟩) hHeld ?_
      try simp only [Act.put, List.setIfInBounds_toArray, List.set_cons_zero, List.set_cons_succ]
      have d0 := r0.drew
      have d1 := r1.drew
      have db := rb.drew
      have hdr : wr.drew.heap.size = wr.heap.size := rfl
      clear r0 r1 rb hmin ho
      refine two_d 3 5 rfl rfl (by kernel_rfl) ?_ ?_
      · intro K hK
        go_simp
        refine (CB.out _).mono ?_
        rintro e wA ⟨rfl, bb⟩
        have e0 := Row.below d0 bb d0.lt
        have e1 := Row.below d1 bb d1.lt
        have eb := db.trans (bb.mono db.size)
        clear bb hHeld
        refine hK.out _ _ (l0.out _ e0) (fun hHeld => ?_)
        clear hK K
        try simp only [Act.put, List.setIfInBounds_toArray, List.set_cons_zero, List.set_cons_succ]
        refine two_d 4 5 rfl rfl (by kernel_rfl) ?_ ?_
        · intro K hK
          go_simp
          refine (CE.out _).mono ?_
          rintro e wB ⟨rfl, bb⟩
          have f0 := Row.below e0 bb e0.lt
          have f1 := Row.below e1 bb e1.lt
          have fb := eb.trans (bb.mono eb.size)
          clear bb hHeld
          refine hK.out _ _ (l0.out _ f0) (fun hHeld => ?_)
          clear hK K
          try simp only [Act.put, List.setIfInBounds_toArray, List.set_cons_zero, List.set_cons_succ]
          refine one_d 5 (some 10) rfl (by kernel_rfl) ?_
          intro o ho hd
          cases ho
          intro K hK
          go_simp
          have hz := f1.lt
          have g0 := f0.alloc (.cells (W.cellsOf (List.replicate 16 0)).toArray 51 (0, 0))
          have g1 := f1.alloc (.cells (W.cellsOf (List.replicate 16 0)).toArray 51 (0, 0))
          have g2 : Row (wB.alloc (.cells (W.cellsOf (List.replicate 16 0)).toArray 51 (0, 0))) wB.heap.size 51 (W.cellsOf (List.replicate 16 0)) := Row.new' rfl rfl
          have gb := fb.alloc fb.size (.cells (W.cellsOf (List.replicate 16 0)).toArray 51 (0, 0))
          have hgB : w.heap.size + 1 < wB.heap.size := hz
          clear hHeld hz
          refine hK.out _ _ (l0.out _ g0) (fun hHeld => ?_)
          clear hK K
          try simp only [Act.put, List.setIfInBounds_toArray, List.set_cons_zero, List.set_cons_succ]
          refine one_d 6 none rfl (by kernel_rfl) ?_
          intro o ho hd K hK
          cases ho
          rw [if_pos (by rfl)]
          refine wp_store_row 51 (.tmp 10) (.tmp 23) rfl wB.heap.size (W.cellsOf (E.enc k (C.blk m j))).toArray rfl rfl 51 _ g2 hie hze (c8_all _) ?_
          have v0 := g0.setRow_other (show w.heap.size ≠ wB.heap.size by omega) (W.cellsOf (E.enc k (C.blk m j))).toArray
          have v1 := g1.setRow_other (show w.heap.size + 1 ≠ wB.heap.size by omega) (W.cellsOf (E.enc k (C.blk m j))).toArray
          have v2 := g2.setRow (W.cellsOf (E.enc k (C.blk m j)))
          have vb := below_row gb (show w.heap.size ≤ wB.heap.size by omega) (W.cellsOf (E.enc k (C.blk m j))).toArray
          refine hK.out _ _ (l0.out _ v0) (fun hHeld => ?_)
          clear hK K hHeld g0 g1 g2 gb
          refine wpAnyH_done (by kernel_rfl) ?_ _
          try simp only [Act.put]
          go_wp2_with (first | (refine wpList_copy_splice rfl (.tmp 25) (.tmp 26) 78 78 rfl 5 Try.underlying78 (by kernel_rfl) _ _ _ _ _ _ rfl rfl (w.heap.size + 1) (16 * j) _ 5 v1 (W.cellsOf ((E.enc k (C.blk m j)).take c)) HN.out (fun _ => ⟨rfl, _, rfl, v2.srcAt HSR.out⟩) HFT.out (c8_one _) (w.heap.size + 1) _ (Below.refl _ _) (Nat.le_refl _) ?_; intro w8 h8 b8; rw [HCL.out]))
          have x1 : Row w8 (w.heap.size + 1) 5 (W.cellsOf (E.fill (C.streamL k m n) (List.replicate n 0) (min (16 * (j + 1)) n))) := by have := h8.out; rw [HSP.out] at this; exact this
          have x0 := Row.below v0 b8 (by omega)
          have xb : Below w.heap.size w w8 := vb.trans (b8.mono (by omega))
          clear h8 b8 v0 v1 v2 vb
          go_roundw
          case rel =>
            have hL := HLh.out
            have hc := HCh.out
            by_cases hla : L = c
            · refine ⟨j + 1, 16 * j, by omega, by go_num, ?_, by omega, x0, x1, xb⟩
              have e1 : n - min (16 * (j + 1)) n = 0 := by omega
              rw [e1, hla]
              simp
            · refine ⟨j + 1, 16 * (j + 1), by omega, by go_num, ?_, by omega, x0, x1, xb⟩
              have e1 : n - min (16 * (j + 1)) n = L - c := by omega
              have e2 : 16 * j + c = 16 * (j + 1) := by omega
              rw [e1]
              simp [hla, e2]
          case measure =>
            have hL := HLh.out
            have hc := HCh.out
            simp [slen]; omega
        · intro K hK
          go_simp
          have hz := e1.lt
          have f0 := e0.alloc (.cells (W.cellsOf (List.replicate 16 0)).toArray 51 (0, 0))
          have f1 := e1.alloc (.cells (W.cellsOf (List.replicate 16 0)).toArray 51 (0, 0))
          have f2 : Row (wA.alloc (.cells (W.cellsOf (List.replicate 16 0)).toArray 51 (0, 0))) wA.heap.size 51 (W.cellsOf (List.replicate 16 0)) := Row.new' rfl rfl
          have fb := eb.alloc eb.size (.cells (W.cellsOf (List.replicate 16 0)).toArray 51 (0, 0))
          have hgB : w.heap.size + 1 < wA.heap.size := hz
          clear hHeld hz
          refine hK.out _ _ (l0.out _ f0) (fun hHeld => ?_)
          clear hK K
          try simp only [Act.put, List.setIfInBounds_toArray, List.set_cons_zero, List.set_cons_succ]
          refine one_d 4 (some 23) rfl (by kernel_rfl) ?_
          intro o ho hd
          cases ho
          intro K hK
          go_simp
          refine (CE.out _).mono ?_
          rintro e wB ⟨rfl, bb⟩
          have g0 := Row.below f0 bb f0.lt
          have g1 := Row.below f1 bb f1.lt
          have g2 := Row.below f2 bb f2.lt
          have gb := fb.trans (bb.mono fb.size)
          clear bb hHeld
          refine hK.out _ _ (l0.out _ g0) (fun hHeld => ?_)
          clear hK K
          try simp only [Act.put, List.setIfInBounds_toArray, List.set_cons_zero, List.set_cons_succ]
          refine one_d 6 none rfl (by kernel_rfl) ?_
          intro o ho hd K hK
          cases ho
          rw [if_pos (by rfl)]
          refine wp_store_row 51 (.tmp 10) (.tmp 23) rfl wA.heap.size (W.cellsOf (E.enc k (C.blk m j))).toArray rfl rfl 51 _ g2 hie hze (c8_all _) ?_
          have v0 := g0.setRow_other (show w.heap.size ≠ wA.heap.size by omega) (W.cellsOf (E.enc k (C.blk m j))).toArray
          have v1 := g1.setRow_other (show w.heap.size + 1 ≠ wA.heap.size by omega) (W.cellsOf (E.enc k (C.blk m j))).toArray
          have v2 := g2.setRow (W.cellsOf (E.enc k (C.blk m j)))
          have vb := below_row gb (show w.heap.size ≤ wA.heap.size by omega) (W.cellsOf (E.enc k (C.blk m j))).toArray
          refine hK.out _ _ (l0.out _ v0) (fun hHeld => ?_)
          clear hK K hHeld g0 g1 g2 gb
          refine wpAnyH_done (by kernel_rfl) ?_ _
          try simp only [Act.put]
          go_wp2_with (first | (refine wpList_copy_splice rfl (.tmp 25) (.tmp 26) 78 78 rfl 5 Try.underlying78 (by kernel_rfl) _ _ _ _ _ _ rfl rfl (w.heap.size + 1) (16 * j) _ 5 v1 (W.cellsOf ((E.enc k (C.blk m j)).take c)) HN.out (fun _ => ⟨rfl, _, rfl, v2.srcAt HSR.out⟩) HFT.out (c8_one _) (w.heap.size + 1) _ (Below.refl _ _) (Nat.le_refl _) ?_; intro w8 h8 b8; rw [HCL.out]))
          have x1 : Row w8 (w.heap.size + 1) 5 (W.cellsOf (E.fill (C.streamL k m n) (List.replicate n 0) (min (16 * (j + 1)) n))) := by have := h8.out; rw [HSP.out] at this; exact this
          have x0 := Row.below v0 b8 (by omega)
          have xb : Below w.heap.size w w8 := vb.trans (b8.mono (by omega))
          clear h8 b8 v0 v1 v2 vb
          go_roundw
          case rel =>
            have hL := HLh.out
            have hc := HCh.out
            by_cases hla : L = c
            · refine ⟨j + 1, 16 * j, by omega, by go_num, ?_, by omega, x0, x1, xb⟩
              have e1 : n - min (16 * (j + 1)) n = 0 := by omega
              rw [e1, hla]
              simp
            · refine ⟨j + 1, 16 * (j + 1), by omega, by go_num, ?_, by omega, x0, x1, xb⟩
              have e1 : n - min (16 * (j + 1)) n = L - c := by omega
              have e2 : 16 * j + c = 16 * (j + 1) := by omega
              rw [e1]
              simp [hla, e2]
          case measure =>
            have hL := HLh.out
            have hc := HCh.out
            simp [slen]; omega
      · intro K hK
        go_simp
        have hz := d1.lt
        have e0 := d0.alloc (.cells (W.cellsOf (List.replicate 16 0)).toArray 51 (0, 0))
        have e1 := d1.alloc (.cells (W.cellsOf (List.replicate 16 0)).toArray 51 (0, 0))
        have e2 : Row (wr.drew.alloc (.cells (W.cellsOf (List.replicate 16 0)).toArray 51 (0, 0))) wr.heap.size 51 (W.cellsOf (List.replicate 16 0)) := Row.new' rfl rfl
        have eb := db.alloc db.size (.cells (W.cellsOf (List.replicate 16 0)).toArray 51 (0, 0))
        have hgB : w.heap.size + 1 < wr.heap.size := hz
        clear hHeld hz
        refine hK.out _ _ (l0.out _ e0) (fun hHeld => ?_)
        clear hK K
        try simp only [Act.put, List.setIfInBounds_toArray, List.set_cons_zero, List.set_cons_succ]
        refine one_d 3 (some 22) rfl (by kernel_rfl) ?_
        intro o ho hd
        cases ho
        intro K hK
        go_simp
        refine (CB.out _).mono ?_
        rintro e wA ⟨rfl, bb⟩
        have f0 := Row.below e0 bb e0.lt
        have f1 := Row.below e1 bb e1.lt
        have f2 := Row.below e2 bb e2.lt
        have fb := eb.trans (bb.mono eb.size)
        clear bb hHeld
        refine hK.out _ _ (l0.out _ f0) (fun hHeld => ?_)
        clear hK K
        try simp only [Act.put, List.setIfInBounds_toArray, List.set_cons_zero, List.set_cons_succ]
        refine one_d 4 (some 23) rfl (by kernel_rfl) ?_
        intro o ho hd
        cases ho
        intro K hK
        go_simp
        refine (CE.out _).mono ?_
        rintro e wB ⟨rfl, bb⟩
        have g0 := Row.below f0 bb f0.lt
        have g1 := Row.below f1 bb f1.lt
        have g2 := Row.below f2 bb f2.lt
        have gb := fb.trans (bb.mono fb.size)
        clear bb hHeld
        refine hK.out _ _ (l0.out _ g0) (fun hHeld => ?_)
        clear hK K
        try simp only [Act.put, List.setIfInBounds_toArray, List.set_cons_zero, List.set_cons_succ]
        refine one_d 6 none rfl (by kernel_rfl) ?_
        intro o ho hd K hK
        cases ho
        rw [if_pos (by rfl)]
        refine wp_store_row 51 (.tmp 10) (.tmp 23) rfl wr.heap.size (W.cellsOf (E.enc k (C.blk m j))).toArray rfl rfl 51 _ g2 hie hze (c8_all _) ?_
        have v0 := g0.setRow_other (show w.heap.size ≠ wr.heap.size by omega) (W.cellsOf (E.enc k (C.blk m j))).toArray
        have v1 := g1.setRow_other (show w.heap.size + 1 ≠ wr.heap.size by omega) (W.cellsOf (E.enc k (C.blk m j))).toArray
        have v2 := g2.setRow (W.cellsOf (E.enc k (C.blk m j)))
        have vb := below_row gb (show w.heap.size ≤ wr.heap.size by omega) (W.cellsOf (E.enc k (C.blk m j))).toArray
        refine hK.out _ _ (l0.out _ v0) (fun hHeld => ?_)
        clear hK K hHeld g0 g1 g2 gb
        refine wpAnyH_done (by kernel_rfl) ?_ _
        try simp only [Act.put]
        go_wp2_with (first | (refine wpList_copy_splice rfl (.tmp 25) (.tmp 26) 78 78 rfl 5 Try.underlying78 (by kernel_rfl) _ _ _ _ _ _ rfl rfl (w.heap.size + 1) (16 * j) _ 5 v1 (W.cellsOf ((E.enc k (C.blk m j)).take c)) HN.out (fun _ => ⟨rfl, _, rfl, v2.srcAt HSR.out⟩) HFT.out (c8_one _) (w.heap.size + 1) _ (Below.refl _ _) (Nat.le_refl _) ?_; intro w8 h8 b8; rw [HCL.out]))
        have x1 : Row w8 (w.heap.size + 1) 5 (W.cellsOf (E.fill (C.streamL k m n) (List.replicate n 0) (min (16 * (j + 1)) n))) := by have := h8.out; rw [HSP.out] at this; exact this
        have x0 := Row.below v0 b8 (by omega)
        have xb : Below w.heap.size w w8 := vb.trans (b8.mono (by omega))
        clear h8 b8 v0 v1 v2 vb
        go_roundw
        case rel =>
          have hL := HLh.out
          have hc := HCh.out
          by_cases hla : L = c
          · refine ⟨j + 1, 16 * j, by omega, by go_num, ?_, by omega, x0, x1, xb⟩
            have e1 : n - min (16 * (j + 1)) n = 0 := by omega
            rw [e1, hla]
            simp
          · refine ⟨j + 1, 16 * (j + 1), by omega, by go_num, ?_, by omega, x0, x1, xb⟩
            have e1 : n - min (16 * (j + 1)) n = L - c := by omega
            have e2 : 16 * j + c = 16 * (j + 1) := by omega
            rw [e1]
            simp [hla, e2]
        case measure =>
          have hL := HLh.out
          have hc := HCh.out
          simp [slen]; omega
    · have hmin : min (16 * j) n = n := by omega
      have hz : n - n = 0 := by omega
      rw [hmin, hz] at hrv
      rw [hmin, HFull.out] at r1
      subst hrv
      go_wp2
      go_ret
      exact ⟨rfl, r1, rb⟩

end Go.Proofs.Ytbkeodgiflfakaa

/-
  Layer 6: Stream, Turn.
-/
namespace Go.Proofs.Ytbkeodgiflfakaa
open Go.RowKit
set_option linter.unusedVariables false
set_option maxRecDepth 20000

theorem rowText {w : World} {g : Nat} {l : List UInt8} {n : Nat} (hn : n = l.length) (h : Row w g 5 (W.cellsOf l)) : (convert 78 9 (.slice (some ⟨g, 0, none⟩) n n)).run Try.prog w = .ok (.string ⟨l.toArray⟩) w := by
  subst hn
  exact run_convert_bytes_back (P := Try.prog) w 78 9 5 ⟨g, 0, none⟩ l.length l Try.underlying78 Try.underlying5 Try.underlying9 (fun t ht => by
    have e : (⟨g, 0, none⟩ : Addr).add t = ⟨g, t, none⟩ := by unfold Addr.add; split <;> simp_all
    rw [e, h.cell, c8_at ht]; simp [List.getD_eq_getElem?_getD, ht])

set_option maxHeartbeats 1000000 in
theorem stream_no (k : List UInt8) (m : Nat) (n : Int) (hk : k.length = 16) (hn : n < 0 ∨ 65536 < n) (w : World) :
    Calls Try.prog 83 #[.agg (W.cellsOf k).toArray, .int .u64 (m : Int), .int .i64 n] w fun e w' => e = .returned (.tuple #[.string ⟨#[]⟩, .int .i64 7]) ∧ Below w.heap.size w w' := by
  go_enter Try.func83, Try.ntmps83
  rcases hn with hn | hn
  · go_wp2
    go_ret2
    exact ⟨rfl, (Below.refl _ _).alloc (Nat.le_refl _) _⟩
  · have h0 : ¬ n < 0 := by omega
    go_wp2
    go_ret2
    exact ⟨rfl, (Below.refl _ _).alloc (Nat.le_refl _) _⟩

set_option maxHeartbeats 1000000 in
theorem stream_yes (k : List UInt8) (m n : Nat) (hk : k.length = 16) (hm : m ≤ 18446744073709551615) (hn : n ≤ 65536) (w : World) :
    Calls Try.prog 83 #[.agg (W.cellsOf k).toArray, .int .u64 (m : Int), .int .i64 (n : Int)] w fun e w' => e = .returned (.tuple #[.string ⟨(C.streamL k m n).toArray⟩, .int .i64 0]) ∧ Below w.heap.size w w' := by
  have CS : Hid (∀ wx, Calls Try.prog 56 #[.agg (W.cellsOf k).toArray, .int .u64 (m : Int), .int .i64 (n : Int)] wx fun e w' => e = .returned (.slice (some ⟨wx.heap.size + 1, 0, none⟩) n n) ∧ Row w' (wx.heap.size + 1) 5 (W.cellsOf (C.streamL k m n)) ∧ Below wx.heap.size wx w') := fun wx => stream_any k m n hk hm hn wx
  have hik := info16k hk
  have HL := Lib.hid (C.streamL_length k m n)
  have h1 : ¬ ((n : Int) < 0) := by omega
  have h2 : ¬ (65536 < (n : Int)) := by omega
  generalize C.streamL k m n = F at *
  clear hn hk hm
  have r0 : Row (w.alloc (.cells (W.cellsOf k).toArray 53 (0, 0))) w.heap.size 53 (W.cellsOf k) := Row.new' rfl rfl
  go_enter Try.func83, Try.ntmps83
  go_wp2_with (first | refine wpList_load_row rfl 53 (.tmp 3) rfl w.heap.size rfl _ _ _ _ r0 Try.underlying53 rfl hik ?_)
  refine (CS.out _).mono ?_
  rintro e w1 ⟨rfl, r1, b1⟩
  have hb1 : Below w.heap.size w w1 := ((Below.refl _ _).alloc (Nat.le_refl _) _).trans (b1.mono (by simp))
  have hsz : (w.alloc (.cells (W.cellsOf k).toArray 53 (0, 0))).heap.size = w.heap.size + 1 := by simp
  rw [hsz] at r1
  have hcv := rowText HL.out.symm r1
  clear b1 r0 r1 h1 h2 hsz
  go_wp2
  go_ret2
  exact ⟨rfl, hb1⟩

theorem byteAt (s : ByteArray) (i : Nat) (h : i < s.size) : s.data.toList.getD i 0 = s[i] := by
  have h' : i < s.data.toList.length := by simpa using h
  rw [List.getD_eq_getElem?_getD, List.getElem?_eq_getElem h', Option.getD_some]
  simp
  rfl

set_option maxHeartbeats 1000000 in
theorem turn_any (k : List UInt8) (m : Nat) (s : ByteArray) (hk : k.length = 16) (hm : m ≤ 18446744073709551615) (hn : s.size ≤ 65536) (w : World) :
    Calls Try.prog 42 #[.agg (W.cellsOf k).toArray, .int .u64 (m : Int), .string s] w fun e w' => e = .returned (.string ⟨(C.turnL k m s.data.toList).toArray⟩) ∧ Below w.heap.size w w' := by
  have CS : Hid (∀ wx, Calls Try.prog 56 #[.agg (W.cellsOf k).toArray, .int .u64 (m : Int), .int .i64 (s.size : Int)] wx fun e w' => e = .returned (.slice (some ⟨wx.heap.size + 1, 0, none⟩) s.size s.size) ∧ Row w' (wx.heap.size + 1) 5 (W.cellsOf (C.streamL k m s.size)) ∧ Below wx.heap.size wx w') := fun wx => stream_any k m s.size hk hm hn wx
  have hik := info16k hk
  have hsl : s.data.toList.length = s.size := by simp
  have HFL := Lib.hid (C.streamL_length k m s.size)
  have HTL : Hid ((C.turnL k m s.data.toList).length = s.size) := by
    show _ = _
    rw [C.turnL_length, hsl]
  have HF : Hid ((C.turnL k m s.data.toList).length = (C.streamL k m s.size).length) := HTL.out.trans HFL.out.symm
  have HFull := Lib.hid (E.fill_full HTL.out HFL.out)
  have HAT : Hid (∀ i (h : i < s.size), (C.turnL k m s.data.toList).getD i 0 = (C.streamL k m s.size).getD i 0 ^^^ s[i]) := fun i h => by
    rw [C.turnL_at _ _ _ _ (by rw [hsl]; exact h), hsl, byteAt s i h]
  generalize C.turnL k m s.data.toList = T at *
  generalize C.streamL k m s.size = F at *
  clear hk hm hsl
  have r0 : Row (w.alloc (.cells (W.cellsOf k).toArray 53 (0, 0))) w.heap.size 53 (W.cellsOf k) := Row.new' rfl rfl
  go_enter Try.func42, Try.ntmps42
  go_wp2_with (first | refine wpList_load_row rfl 53 (.tmp 3) rfl w.heap.size rfl _ _ _ _ r0 Try.underlying53 rfl hik ?_)
  refine (CS.out _).mono ?_
  rintro e w1 ⟨rfl, r1, b1⟩
  have hb1 : Below w.heap.size w w1 := ((Below.refl _ _).alloc (Nat.le_refl _) _).trans (b1.mono (by simp))
  have hsz : (w.alloc (.cells (W.cellsOf k).toArray 53 (0, 0))).heap.size = w.heap.size + 1 := by simp
  rw [hsz] at r1
  clear b1 r0 hsz
  go_wp2
  go_loopw [8, 16] (fun _ iv wr => ∃ i : Nat, i ≤ s.size ∧ iv = .int .i64 i ∧ Row wr (w.heap.size + 1 + 1) 5 (W.cellsOf (E.fill T F i)) ∧ Below w.heap.size w wr) (fun _ iv _ => s.size - (intOf iv).toNat)
  case atStart => exact ⟨0, Nat.zero_le _, rfl, by rw [E.fill_zero]; exact r1, hb1⟩
  case round =>
    clear r1 hb1
    obtain ⟨i, hi, rfl, r1, rb⟩ := hrel
    by_cases hlt : i < s.size
    · have hs : (i : Int) < s.size := by omega
      have hfl : i < F.length := by rw [HFL.out]; exact hlt
      have c1 := (r1.cell i).trans (c8_at (by rw [E.fill_length HF.out]; exact hfl))
      rw [E.fill_at HF.out hfl] at c1
      have f1 := r1.frozen i
      have hx := xor8 (F.getD i 0) s[i]
      rw [← HAT.out i hlt] at hx
      have r1' := r1.set i (.int .u8 ((T.getD i 0).toNat : Int))
      rw [c8_set, E.fill_step HF.out hfl] at r1'
      generalize T.getD i 0 = z at *
      generalize F.getD i 0 = y at *
      go_wp2
      go_region
      go_wp2
      go_roundw
      case rel => exact ⟨i + 1, by omega, by go_num, r1'.drew, (rb.setCell (by simp; omega) _).drew⟩
      case measure => simp [intOf]; omega
    · obtain rfl : i = s.size := by omega
      rw [HFull.out] at r1
      have hcv := rowText HTL.out.symm r1
      go_wp2
      go_ret
      exact ⟨rfl, rb⟩

end Go.Proofs.Ytbkeodgiflfakaa
