/-
  Several texts in one module: RText3, CBlock, CStream, CTurn, CRef, CRefT.
-/
import Derived.Test.YtjkaignfomlflaaGreatMod6
import Derived.Test.YtjkaignfomlflaaGreatMod13
import Derived.Test.YtjkaignfomlflaaGreatMod1
import Derived.Test.YtjkaignfomlflaaGreatMod11
import Derived.Test.YtjkaignfomlflaaGreatMod7
import Derived.Test.YtjkaignfomlflaaGreatMod15
import Derived.Laws.IdiomStrings
/-
  Layer 3: the document's own Text.
-/
namespace Go.Proofs.YtjkaignfomlflaaGreat
open Go.RowKit
set_option linter.unusedVariables false
set_option maxRecDepth 20000

theorem make32 (w : World) : (Instr.makeSlice 49 (.int .i64 32) (.int .i64 32)).run Tryz.prog w = .ok (.slice (some ⟨w.heap.size, 0, none⟩) 32 32) (w.alloc (.cells (W.cellsOf (List.replicate 32 0)).toArray 5 (0, 0))) := by kernel_rfl

theorem bytesOf_at : ∀ (h : List Nat) (k : Nat), k < 4 * h.length → (S.bytesOf h)[k]? = some (UInt8.ofNat (h.getD (k / 4) 0 / 256 ^ (3 - k % 4)))
  | [], k, hk => by simp at hk
  | x :: t, k, hk => by
    by_cases h4 : k < 4
    · have hc : k = 0 ∨ k = 1 ∨ k = 2 ∨ k = 3 := by omega
      rcases hc with rfl | rfl | rfl | rfl <;> rfl
    · obtain ⟨k', rfl⟩ : ∃ k', k = k' + 4 := ⟨k - 4, by omega⟩
      rw [show S.bytesOf (x :: t) = W.putL x 4 ++ S.bytesOf t from rfl, List.getElem?_append_right (by rw [W.putL_length]; omega), W.putL_length, Nat.add_sub_cancel, bytesOf_at t k' (by simp at hk; omega), show (k' + 4) / 4 = k' / 4 + 1 from by omega, show (k' + 4) % 4 = k' % 4 from by omega]
      rfl
theorem bytesOf_length : ∀ (h : List Nat), (S.bytesOf h).length = 4 * h.length
  | [] => rfl
  | x :: t => by
    rw [show S.bytesOf (x :: t) = W.putL x 4 ++ S.bytesOf t from rfl, List.length_append, W.putL_length, bytesOf_length t]
    simp; omega

/-- So many bytes already laid into a fresh row. -/
def outRow (l : List UInt8) (k : Nat) : List UInt8 := l.take k ++ List.replicate (32 - k) 0
theorem outRow_length (l : List UInt8) (hl : l.length = 32) (k : Nat) (hk : k ≤ 32) : (outRow l k).length = 32 := by simp [outRow, hl]; omega
theorem outRow_step (l : List UInt8) (hl : l.length = 32) (k : Nat) (hk : k < 32) (c : UInt8) (hc : l[k]? = some c) : (outRow l k).set k c = outRow l (k + 1) := by
  have h1 : (l.take k).length = k := by simp; omega
  have h2 : l[k] = c := by rw [List.getElem?_eq_getElem (by omega)] at hc; exact Option.some.inj hc
  unfold outRow
  rw [List.set_append_right _ _ (by omega), h1, Nat.sub_self, show 32 - k = (32 - (k + 1)) + 1 from by omega, List.replicate_succ, List.set_cons_zero, List.take_succ_eq_append_getElem (i := k) (by omega), h2, List.append_assoc]
  simp
theorem outRow_full (l : List UInt8) (hl : l.length = 32) : outRow l 32 = l := by simp [outRow, hl, List.take_of_length_le]
theorem cellsOf_put (l : List UInt8) (k : Nat) (c : UInt8) : (W.cellsOf l).set k (.int .u8 (c.toNat : Int)) = W.cellsOf (l.set k c) := by simp [W.cellsOf, List.map_set]

theorem rowBack {w : World} {g : Nat} {l : List UInt8} {n : Nat} (hn : n = l.length) (h : Row w g 5 (W.cellsOf l)) : (convert 49 9 (.slice (some ⟨g, 0, none⟩) n n)).run Tryz.prog w = .ok (.string ⟨l.toArray⟩) w := by
  subst hn
  exact run_convert_bytes_back (P := Tryz.prog) w 49 9 5 ⟨g, 0, none⟩ l.length l Tryz.underlying49 Tryz.underlying5 Tryz.underlying9 (fun t ht => by
    have e : (⟨g, 0, none⟩ : Addr).add t = ⟨g, t, none⟩ := by unfold Addr.add; split <;> simp_all
    rw [e, h.cell]
    simp [W.cellsOf, ht])

set_option maxHeartbeats 2000000 in
theorem refText_any (s : ByteArray) (hs : s.size ≤ 1000000) (w : World) :
    Calls Tryz.prog 35 #[.string s] w fun e w' => e = .returned (.string ⟨(S.sumL s.data.toList).toArray⟩) ∧ Below w.heap.size w w' := by
  obtain ⟨m, hm⟩ : ∃ m, m = s.data.toList := ⟨_, rfl⟩
  have hml : m.length = s.size := by rw [hm]; simp
  have hpl := S.padL_length m
  have hpm := S.padL_mod m
  have hno := S.noughts_le m.length
  obtain ⟨N, hN⟩ : ∃ N, N = (S.padL m).length / 64 := ⟨_, rfl⟩
  have hpl2 : (S.padL m).length = 64 * N := by omega
  have hNb : N ≤ 20000 := by omega
  obtain ⟨p, hp⟩ : ∃ p : ByteArray, p = ⟨(S.padL m).toArray⟩ := ⟨_, rfl⟩
  have hpd : p.data.toList = S.padL m := by rw [hp]
  have hps : p.size = 64 * N := by rw [hp]; simp [ByteArray.size]; exact hpl2
  have HM := Lib.hid hm
  have HP := Lib.hid hp
  have HPD := Lib.hid hpd
  have HSZ := Lib.hid hps
  have HNN := Lib.hid hN
  rw [← hm]
  have mk32 := make32
  clear hpl hpm hno hN hpl2 hp hpd hps hml hm
  go_enter Tryz.func35, Tryz.ntmps35
  go_wp2_with fail
  refine (refPad_any s hs _).mono ?_
  rintro e w1 ⟨rfl, b1⟩
  rw [← HM.out, ← HP.out]
  go_wp2_with fail
  refine (refStart_any _).mono ?_
  rintro e w2 ⟨rfl, rs, b2⟩
  have b2' := b1.trans (b2.mono b1.size)
  clear b1 b2
  obtain ⟨g0, hg0⟩ : ∃ g0, g0 = w1.heap.size := ⟨_, rfl⟩
  rw [← hg0] at rs ⊢
  clear hg0
  go_wp2
  go_loopw [4, 5] (fun hv av wx => ∃ gh k : Nat, k ≤ N ∧ av = .int .i64 ((64 * k : Nat) : Int) ∧ hv = .slice (some ⟨gh, 0, none⟩) 8 8 ∧ Row wx gh 88 (u32s (S.blocks (S.padL m) S.start k)) ∧ Below w.heap.size w wx) (fun _ av _ => 64 * N - (intOf av).toNat)
  case atStart => exact ⟨g0, 0, Nat.zero_le _, rfl, rfl, rs, b2'⟩
  case round =>
    clear rs b2'
    obtain ⟨gh, k, hk, rfl, rfl, r4, hb⟩ := hrel
    have l8 : (S.blocks (S.padL m) S.start k).length = 8 := S.blocks_length S.start_length k
    have o8 : S.Ok (S.blocks (S.padL m) S.start k) := S.blocks_ok S.start_ok k
    by_cases hlt : k < N
    · have HBS : Hid (S.blocks (S.padL m) S.start (k + 1) = S.stepL (S.blocks (S.padL m) S.start k) (((S.padL m).drop (64 * k)).take 64)) := rfl
      obtain ⟨n, hn⟩ : ∃ n, n = 64 * k := ⟨_, rfl⟩
      have ex : (p.extract n (n + 64)).data.toList = ((S.padL m).drop (64 * k)).take 64 := by
        rw [ByteArray.data_extract]
        simp only [Array.toList_extract, List.extract_eq_take_drop]
        rw [show n + 64 - n = 64 from by omega, HPD.out, hn]
      have es : (p.extract n (n + 64)).size = 64 := by rw [ByteArray.size_extract, HSZ.out]; omega
      rw [← ex] at HBS
      have cS := fun w r => refStep_any gh (S.blocks (S.padL m) S.start k) (p.extract n (n + 64)) l8 o8 es w r
      rw [← HBS.out] at cS
      have CS := Lib.hid cS
      rw [← hn]
      have hlt2 : (n : Int) < (p.size : Int) := by rw [HSZ.out]; omega
      have hle2 : (n : Int) + 64 ≤ (p.size : Int) := by rw [HSZ.out]; omega
      have hnb : n ≤ 2000000 := by omega
      have HNK := Lib.hid hn
      clear cS hn ex es HBS l8 o8
      go_wp2_with fail
      refine (CS.out _ r4).mono ?_
      rintro e w3 ⟨g3, rfl, r3, b3⟩
      have hb3 : Below w.heap.size w w3 := hb.trans (b3.mono hb.size)
      clear b3 CS
      go_wp2
      go_roundw
      case rel => exact ⟨g3, k + 1, by omega, by rw [HNK.out]; go_num, rfl, r3, hb3⟩
      case measure => have := HNK.out; simp [intOf]; omega
    · obtain rfl : k = N := by omega
      have hout : S.bytesOf (S.blocks (S.padL m) S.start k) = S.sumL m := by unfold S.sumL S.wordsOf; rw [← HNN.out]
      have HO := Lib.hid hout
      generalize S.blocks (S.padL m) S.start k = h at *
      obtain ⟨l, hl⟩ : ∃ l, l = S.bytesOf h := ⟨_, rfl⟩
      have hll : l.length = 32 := by rw [hl, bytesOf_length, l8]
      have hat := bytesOf_at h
      rw [← hl] at hat HO
      rw [l8] at hat
      have HAT := Lib.hid hat
      have HLL := Lib.hid hll
      have L8 := Lib.hid l8
      have hps : (p.size : Int) = ((64 * k : Nat) : Int) := by rw [HSZ.out]
      obtain ⟨go, hgo⟩ : ∃ go, go = wr.heap.size := ⟨_, rfl⟩
      have za : gh < go := by rw [hgo]; exact r4.lt
      have zo : w.heap.size ≤ go := by rw [hgo]; exact hb.size
      have ro0 : Row (wr.alloc (.cells (W.cellsOf (List.replicate 32 0)).toArray 5 (0, 0))) go 5 (W.cellsOf (outRow l 0)) := Row.new' rfl hgo
      have rh0 := r4.alloc (.cells (W.cellsOf (List.replicate 32 0)).toArray 5 (0, 0))
      have bl0 := hb.alloc hb.size (.cells (W.cellsOf (List.replicate 32 0)).toArray 5 (0, 0))
      clear hat hll l8 hl hout r4
      go_wp2
      rw [← hgo]
      clear hgo hb
      go_loopw [7] (fun iv wx => ∃ i : Nat, i ≤ 32 ∧ iv = .int .i64 i ∧ Row wx gh 88 (u32s h) ∧ Row wx go 5 (W.cellsOf (outRow l i)) ∧ Below w.heap.size w wx) (fun iv _ => 32 - (intOf iv).toNat)
      case atStart => exact ⟨0, Nat.zero_le _, rfl, rh0, ro0, bl0⟩
      case round =>
        clear rh0 ro0 bl0
        obtain ⟨i, hi, rfl, rh, ro, hb⟩ := hrel
        by_cases hlt : i < 32
        · obtain ⟨d, hd⟩ : ∃ d, d = i / 4 := ⟨_, rfl⟩
          obtain ⟨r, hr⟩ : ∃ r, r = i % 4 := ⟨_, rfl⟩
          have ch := (rh.cell d).trans (u32s_at (by rw [L8.out]; omega))
          have co := (ro.cell i).trans (cellsOf_at (by rw [outRow_length l HLL.out i hi]; exact hlt))
          have fo := ro.frozen i
          have hat := HAT.out i (by omega)
          rw [← hd, ← hr] at hat
          have hox := o8.getD d
          generalize h.getD d 0 = x at ch hat hox
          have HST := Lib.hid (outRow_step l HLL.out i hlt _ hat)
          obtain ⟨q, hq⟩ : ∃ q, q = 24 - 8 * r := ⟨_, rfl⟩
          have e1 : (i : Int) / 4 = (d : Int) := by omega
          have e2 : (i : Int) % 4 = (r : Int) := by omega
          have e3 : (24 : Int) - 8 * (r : Int) = (q : Int) := by omega
          have bd : (d : Int) < 8 := by omega
          have bi : (i : Int) < 32 := by omega
          have HD := Lib.hid hd
          have HRR := Lib.hid hr
          have HQ := Lib.hid hq
          have hq24 : q ≤ 24 := by omega
          clear hat hd hr hq
          go_wp2
          go_roundw
          case rel =>
            refine ⟨i + 1, by omega, by go_num, rh.other (by omega) _, ?_, hb.setCell (by simp; omega) _⟩
            rw [← HST.out, ← cellsOf_put]
            have ev : ((x : Int) / 2 ^ q) % 256 = ((UInt8.ofNat (x / 256 ^ (3 - r))).toNat : Int) := by
              rw [HQ.out, show 24 - 8 * r = 8 * (3 - r) from by omega, byte_at, UInt8.toNat_ofNat']
            rw [ev]
            exact ro.set i _
          case measure => simp [intOf]; omega
        · obtain rfl : i = 32 := by omega
          rw [outRow_full l HLL.out] at ro
          have hback := rowBack (n := 32) HLL.out.symm ro
          go_wp2
          go_ret
          exact ⟨by rw [HO.out]; rfl, hb⟩

end Go.Proofs.YtjkaignfomlflaaGreat

/-
  Layer 6: Block.
-/
namespace Go.Proofs.YtjkaignfomlflaaGreat
open Go.RowKit
set_option linter.unusedVariables false
set_option maxRecDepth 20000

/-- .. as one step of a region that draws. -/
theorem step_copyS {P : Program} {ops : Array Oper} {o : Oper} {a : Act} {w : World} {K : Act → World → Prop} {Q : Exit → Act → World → Prop} {E : Prop} (hgd : o.guard = none) (d x : Operand) (dT sT : TypeId)
    (ho : o.op = .call { callee := .builtin .copy, args := #[d, x], argTypes := #[dT, sT] }) (elem : TypeId) (hu : P.underlying dT = some (.slice elem)) (hs : (P.info? elem).map (·.size) = some 1)
    (g off dLen dCap k : Nat) (hd : a.eval d = .slice (some ⟨g, off, none⟩) dLen dCap) (s : ByteArray) (hx : a.eval x = .string s) (cur : List Value) (t : TypeId) (hg : Row w g t cur) (hk : Nat.min s.size dLen = k) (hfit : off + k ≤ cur.length)
    (h : ∀ w', Hid (Row w' g t (splice cur off (W.cellsOf (s.data.toList.take k)))) → Below g w w' → K (a.put o.dst (goInt k)) w') :
    if Region.wanted o (yielded ops a.tmps) = true then Oper.wp P o a w K Q else E := by
  have hw : Region.wanted o (yielded ops a.tmps) = true := by simp [Region.wanted, hgd]
  rw [if_pos hw]
  exact wp_copyS d x dT sT ho elem hu hs g off dLen dCap k hd s hx cur t hg hk hfit (h _ (hg.setRow _) (below_row (Below.refl _ _) (Nat.le_refl _) _))

set_option maxHeartbeats 1000000 in
theorem block_any (n c : Nat) (hn : n ≤ 18446744073709551615) (hc : c ≤ 18446744073709551615) (w : World) :
    Calls Tryz.prog 47 #[.int .u64 (n : Int), .int .u64 (c : Int)] w fun e w' => e = .returned (.agg (W.cellsOf (C.blk n c)).toArray) ∧ Below w.heap.size w w' := by
  have CP1 : Hid (∀ wx, Calls Tryz.prog 27 #[.int .u64 (n : Int), .int .i64 8] wx fun e w' => e = .returned (.string ⟨(W.putL n 8).toArray⟩) ∧ Below wx.heap.size wx w') := fun wx => put_any n 8 (by omega) (by omega) wx
  have CP2 : Hid (∀ wx, Calls Tryz.prog 27 #[.int .u64 (c : Int), .int .i64 8] wx fun e w' => e = .returned (.string ⟨(W.putL c 8).toArray⟩) ∧ Below wx.heap.size wx w') := fun wx => put_any c 8 (by omega) (by omega) wx
  have hl1 : (W.putL n 8).length = 8 := W.putL_length n 8
  have hl2 : (W.putL c 8).length = 8 := W.putL_length c 8
  have HBL : Hid (C.blk n c = W.putL n 8 ++ W.putL c 8) := rfl
  have HL := Lib.hid (C.blk_length n c)
  have hi := info16 (C.blk_length n c)
  generalize C.blk n c = b at *
  generalize W.putL n 8 = x at *
  generalize W.putL c 8 = y at *
  have HM1 : Hid (Nat.min (⟨x.toArray⟩ : ByteArray).size 16 = 8) := by
    have : (⟨x.toArray⟩ : ByteArray).size = 8 := by simp [ByteArray.size, hl1]
    show Nat.min _ _ = _; rw [this]; rfl
  have HM2 : Hid (Nat.min (⟨y.toArray⟩ : ByteArray).size 8 = 8) := by
    have : (⟨y.toArray⟩ : ByteArray).size = 8 := by simp [ByteArray.size, hl2]
    show Nat.min _ _ = _; rw [this]; rfl
  have HS1 : Hid (splice (W.cellsOf (List.replicate 16 0)) 0 (W.cellsOf ((⟨x.toArray⟩ : ByteArray).data.toList.take 8)) = W.cellsOf (x ++ List.replicate 8 0)) := by
    show splice (W.cellsOf (List.replicate 16 0)) 0 (W.cellsOf (x.take 8)) = _
    rw [List.take_of_length_le (by omega), c8_splice]
    unfold splice
    rw [hl1]; rfl
  have HS2 : Hid (splice (W.cellsOf (x ++ List.replicate 8 0)) 8 (W.cellsOf ((⟨y.toArray⟩ : ByteArray).data.toList.take 8)) = W.cellsOf b) := by
    show splice (W.cellsOf (x ++ List.replicate 8 0)) 8 (W.cellsOf (y.take 8)) = _
    rw [List.take_of_length_le (by omega), c8_splice, HBL.out]
    unfold splice
    rw [hl2, List.take_append_of_le_length (by omega), List.take_of_length_le (by omega), List.drop_eq_nil_of_le (by simp [hl1]), List.append_nil]
  have HX : Hid (8 + 8 ≤ (W.cellsOf (x ++ List.replicate 8 0)).length) := by
    show 8 + 8 ≤ _
    rw [c8_len, List.length_append, hl1, List.length_replicate]; decide
  clear hl1 hl2 HBL hn hc
  obtain ⟨wa, hwa⟩ : ∃ wa, wa = (w.alloc (.cells (W.cellsOf (List.replicate 16 0)).toArray 31 (0, 0))).alloc (.cells (W.cellsOf (List.replicate 16 0)).toArray 31 (0, 0)) := ⟨_, rfl⟩
  have r0 : Row wa w.heap.size 31 (W.cellsOf (List.replicate 16 0)) := by rw [hwa]; exact (Row.new' rfl rfl).alloc _
  have r1 : Row wa (w.heap.size + 1) 31 (W.cellsOf (List.replicate 16 0)) := by rw [hwa]; exact Row.new' rfl (by simp)
  have hba : Below w.heap.size w wa := by rw [hwa]; exact ((Below.refl _ _).alloc (Nat.le_refl _) _).alloc (by simp) _
  go_enter Tryz.func47, Tryz.ntmps47
  go_wp2_with fail
  show Code.wp _ _ _ _ ((w.alloc (.cells (W.cellsOf (List.replicate 16 0)).toArray 31 (0, 0))).alloc (.cells (W.cellsOf (List.replicate 16 0)).toArray 31 (0, 0)))
  rw [← hwa]
  clear hwa
  go_region_held3 (fun _ => True) (trivial) (first
    | (go_at_call 27; refine (CP1.out _).mono ?_; rintro e w1 ⟨rfl, b1⟩; have p0 := Row.below r0.drew b1 r0.lt; have p1 := Row.below r1.drew b1 r1.lt; have hb1 : Below w.heap.size w w1 := (hba.drew).trans (b1.mono hba.size); clear b1)
    | (refine step_copyS rfl (.tmp 6) (.tmp 8) 49 9 rfl 5 Tryz.underlying49 (by kernel_rfl) (w.heap.size + 1) 0 16 16 8 rfl _ rfl _ _ p1 HM1.out (by rw [c8_len]; decide) ?_; intro w2 h2 b2))
  have q1 : Row w2 (w.heap.size + 1) 31 (W.cellsOf (x ++ List.replicate 8 0)) := by have := h2.out; rw [HS1.out] at this; exact this
  have q0 := p0.below b2 (by omega)
  have hb2 : Below w.heap.size w w2 := hb1.trans (b2.mono (by omega))
  clear h2 b2 p0 p1 hb1 r0 r1 hba HS1 HM1 CP1
  go_wp2_with fail
  go_region_held3 (fun _ => True) (trivial) (first
    | (go_at_call 27; refine (CP2.out _).mono ?_; rintro e w3 ⟨rfl, b3⟩; have s0 := Row.below q0.drew b3 q0.lt; have s1 := Row.below q1.drew b3 q1.lt; have hb3 : Below w.heap.size w w3 := (hb2.drew).trans (b3.mono hb2.size); clear b3)
    | (refine step_copyS rfl (.tmp 10) (.tmp 12) 49 9 rfl 5 Tryz.underlying49 (by kernel_rfl) (w.heap.size + 1) 8 8 8 8 rfl _ rfl _ _ s1 HM2.out HX.out ?_; intro w4 h4 b4))
  have v1 : Row w4 (w.heap.size + 1) 31 (W.cellsOf b) := by have := h4.out; rw [HS2.out] at this; exact this
  have v0 := s0.below b4 (by omega)
  have hb4 : Below w.heap.size w w4 := hb3.trans (b4.mono (by omega))
  clear h4 b4 s0 s1 hb3 q0 q1 hb2
  go_wp2_with (first | refine wpList_load_row rfl 31 _ rfl (w.heap.size + 1) rfl _ _ _ _ v1 Tryz.underlying31 rfl hi ?_ | refine wpList_store_row rfl 31 (.tmp 4) (.tmp 14) rfl w.heap.size _ rfl rfl _ _ v0 hi (by rw [List.size_toArray, List.size_toArray, c8_len, c8_len, HL.out]; rfl) (c8_all _) ?_)
  exact bodyPost_ret (results_cell_row rfl _ _ w.heap.size _ _ _ _ rfl (v0.setRow (W.cellsOf b)) Tryz.underlying31 rfl hi) rfl ⟨rfl, below_row hb4 (Nat.le_refl _) _⟩

end Go.Proofs.YtjkaignfomlflaaGreat

/-
  Layer 6: stream.
-/
namespace Go.Proofs.YtjkaignfomlflaaGreat
open Go.RowKit
set_option linter.unusedVariables false
set_option maxRecDepth 20000

def slen : Value → Nat
  | .slice _ n _ => n
  | _ => 0

theorem makeB (n : Nat) (hn : n ≤ 65536) (w : World) : (Instr.makeSlice 49 (.int .i64 (n : Int)) (.int .i64 (n : Int))).run Tryz.prog w = .ok (.slice (some ⟨w.heap.size, 0, none⟩) n n) (w.alloc (.cells (W.cellsOf (List.replicate n 0)).toArray 5 (0, 0))) := by
  obtain ⟨i0, hi, hz0, hz1, hz2⟩ := info_parts infoByte
  have h := run_makeSlice (P := Tryz.prog) w 49 5 i0 (.int .u8 0) Tryz.underlying49 hi hz0 .i64 .i64 n n (by omega) (Int.le_refl _) (by rw [hz1]; simp; omega) (by rw [hz2]; omega) (by omega)
  rw [h, Int.toNat_natCast, hz1, Nat.mul_one]
  have e : madeCells (Value.int .u8 0).cells n = (W.cellsOf (List.replicate n 0)).toArray := by
    apply Array.ext'
    have h1 := toList_madeCells_one (Value.int .u8 0) n
    show (madeCells #[Value.int .u8 0] n).toList = _
    rw [h1]; simp [W.cellsOf]
  rw [e]

set_option maxHeartbeats 4000000 in
theorem stream_any (k : List UInt8) (m n : Nat) (hk : k.length = 16) (hm : m ≤ 18446744073709551615) (hn : n ≤ 65536) (w : World) :
    Calls Tryz.prog 33 #[.agg (W.cellsOf k).toArray, .int .u64 (m : Int), .int .i64 (n : Int)] w fun e w' => e = .returned (.slice (some ⟨w.heap.size + 1, 0, none⟩) n n) ∧ Row w' (w.heap.size + 1) 5 (W.cellsOf (C.streamL k m n)) ∧ Below w.heap.size w w' := by
  have HK := Lib.hid hk
  clear hk
  have hik := info16k HK.out
  have hik' : (Tryz.prog.info? 33).map (·.size) = some (W.cellsOf k).length := by rw [c8_len, HK.out]; kernel_rfl
  have HZL : Hid ((List.replicate n (0 : UInt8)).length = n) := List.length_replicate
  have HFL := Lib.hid (C.streamL_length k m n)
  have HF : Hid ((C.streamL k m n).length = (List.replicate n (0 : UInt8)).length) := by
    show _ = _
    exact HFL.out.trans HZL.out.symm
  have HFull := Lib.hid (E.fill_full HFL.out HZL.out)
  have mk := makeB n hn
  have l0 : Hid (∀ wx, Row wx w.heap.size 33 (W.cellsOf k) → wx.rangeAt w.heap.size 0 (W.cellsOf k)) := fun wx h => by have := h.rangeOf 0 16; rwa [List.drop_zero, List.take_of_length_le (by rw [c8_len, HK.out]; decide)] at this
  have huk : Tryz.prog.underlying 33 = some _ := Tryz.underlying33
  go_enter Tryz.func33, Tryz.ntmps33
  go_wp2
  clear mk
  go_loopw [8, 9, 10] (fun cv rv _ wr => ∃ j o : Nat, 16 * j ≤ n + 15 ∧ cv = .int .u64 j ∧ rv = .slice (some ⟨w.heap.size + 1, o, none⟩) (n - min (16 * j) n) (n - min (16 * j) n) ∧ (16 * j < n → o = 16 * j) ∧ Row wr w.heap.size 33 (W.cellsOf k) ∧ Row wr (w.heap.size + 1) 5 (W.cellsOf (E.fill (C.streamL k m n) (List.replicate n 0) (min (16 * j) n))) ∧ Below w.heap.size w wr) (fun _ rv _ _ => slen rv)
  case atStart =>
    refine ⟨0, 0, by omega, rfl, ?_, fun _ => rfl, (Row.new' rfl rfl).alloc _, ?_, ((Below.refl _ _).alloc (Nat.le_refl _) _).alloc (by simp) _⟩
    · have e : n - min (16 * 0) n = n := by omega
      rw [e]
    · have e : min (16 * 0) n = 0 := by omega
      rw [e, E.fill_zero]; exact Row.new' rfl (by simp)
  case round =>
    obtain ⟨j, o, hj, rfl, hrv, ho, r0, r1, rb⟩ := hrel
    by_cases hlt : 16 * j < n
    · obtain rfl := ho hlt
      have hmin : min (16 * j) n = 16 * j := by omega
      obtain ⟨L, hL⟩ : ∃ L, L = n - 16 * j := ⟨_, rfl⟩
      rw [hmin, ← hL] at hrv
      rw [hmin] at r1
      subst hrv
      have hLp : (0 : Int) < L := by omega
      obtain ⟨c, hc⟩ : ∃ c, c = min 16 L := ⟨_, rfl⟩
      have hcL : (c : Int) ≤ L := by omega
      have hj64 : j ≤ 18446744073709551615 := by omega
      have CB : Hid (∀ wx, Calls Tryz.prog 47 #[.int .u64 (m : Int), .int .u64 (j : Int)] wx fun e w' => e = .returned (.agg (W.cellsOf (C.blk m j)).toArray) ∧ Below wx.heap.size wx w') := fun wx => block_any m j hm hj64 wx
      have CE : Hid (∀ wx, Calls Tryz.prog 46 #[.agg (W.cellsOf k).toArray, .agg (W.cellsOf (C.blk m j)).toArray] wx fun e w' => e = .returned (.agg (W.cellsOf (E.enc k (C.blk m j))).toArray) ∧ Below wx.heap.size wx w') := fun wx => enc_any k (C.blk m j) HK.out (C.blk_length m j) wx
      have HEL := Lib.hid (E.enc_length k (C.blk m j))
      have hie := info16 HEL.out
      have hze : (W.cellsOf (List.replicate 16 0)).toArray.size = (W.cellsOf (E.enc k (C.blk m j))).toArray.size := by rw [List.size_toArray, List.size_toArray, c8_len, c8_len, HEL.out]; rfl
      have HCL : Hid ((W.cellsOf ((E.enc k (C.blk m j)).take c)).length = c) := by
        show _ = _
        rw [c8_len, List.length_take, HEL.out]; omega
      have HN : Hid ((W.cellsOf ((E.enc k (C.blk m j)).take c)).length = Nat.min 16 L) := by
        exact HCL.out.trans hc
      have HSR : Hid (∀ (i : Nat) v, (W.cellsOf ((E.enc k (C.blk m j)).take c))[i]? = some v → (W.cellsOf (E.enc k (C.blk m j)))[0 + i]? = some v) := by
        intro i v hi
        rw [Nat.zero_add]
        simp only [W.cellsOf, List.getElem?_map, List.getElem?_take] at hi ⊢
        split at hi
        · exact hi
        · simp at hi
      have HFT : Hid (16 * j + (W.cellsOf ((E.enc k (C.blk m j)).take c)).length ≤ (W.cellsOf (E.fill (C.streamL k m n) (List.replicate n 0) (16 * j))).length) := by
        show _ ≤ _
        rw [HCL.out, c8_len, E.fill_length HF.out, HZL.out]; omega
      have HSP : Hid (splice (W.cellsOf (E.fill (C.streamL k m n) (List.replicate n 0) (16 * j))) (16 * j) (W.cellsOf ((E.enc k (C.blk m j)).take c)) = W.cellsOf (E.fill (C.streamL k m n) (List.replicate n 0) (min (16 * (j + 1)) n))) := by
        show _ = _
        rw [c8_splice]
        congr 1
        have hb := C.streamL_block k m n j hlt
        have e1 : min 16 (n - 16 * j) = c := by omega
        rw [e1] at hb
        have e2 : min (16 * (j + 1)) n = 16 * j + c := by omega
        have e3 : ((E.enc k (C.blk m j)).take c).length = c := by rw [List.length_take, HEL.out]; omega
        rw [e2]
        generalize (E.enc k (C.blk m j)).take c = X at hb e3
        have e4 : ((C.streamL k m n).take (16 * j)).length = 16 * j := by rw [List.length_take, HFL.out]; omega
        have e5 : (C.streamL k m n).take (16 * j + c) = (C.streamL k m n).take (16 * j) ++ X := by rw [List.take_add, hb]
        have e6 : ((C.streamL k m n).take (16 * j)).drop (16 * j + c) = [] := List.drop_eq_nil_of_le (by omega)
        have e7 : ((C.streamL k m n).take (16 * j)).take (16 * j) = (C.streamL k m n).take (16 * j) := List.take_of_length_le (by omega)
        unfold splice E.fill
        rw [e5, e3, List.take_append_of_le_length (by omega), e7, List.drop_append, e6, e4, List.nil_append, List.drop_drop, List.append_assoc, show 16 * j + (16 * j + c - 16 * j) = 16 * j + c from by omega]
      have HLh := Lib.hid hL
      have HCh := Lib.hid hc
      have hcz : (0 : Int) ≤ c := by omega
      clear hL hc
      go_wp2_with fail
      refine wp_region_held_drew (S := fun w' => w'.rangeAt w.heap.size 0 (W.cellsOf k)) (by kernel_rfl) (l0.out _ r0) (fun hHeld => ?_)
      refine take_d 0 (some 19) (.agg (W.cellsOf k).toArray) rfl (by kernel_rfl) (by kernel_rfl) (by kernel_rfl) (fun _ _ _ h => h) (fun oi h => by cases h; exact yieldsIf_load_mid (by rfl) 33 (.tmp 3) rfl w.heap.size 0 rfl (W.cellsOf k) _ (fun w' hS' => hS') huk rfl hik') hHeld ?_
      try simp only [Act.put, List.setIfInBounds_toArray, List.set_cons_zero, List.set_cons_succ]
      refine take_d 1 (some 20) (.int .u64 (m : Int)) rfl (by kernel_rfl) (by kernel_rfl) (by kernel_rfl) (fun _ _ _ h => h) (fun oi h => by cases h; exact Or.inl ⟨by rfl, fun w' hS' => by go_simp⟩) hHeld ?_
      try simp only [Act.put, List.setIfInBounds_toArray, List.set_cons_zero, List.set_cons_succ]
      refine take_d 2 (some 21) (.int .u64 (j : Int)) rfl (by kernel_rfl) (by kernel_rfl) (by kernel_rfl) (fun _ _ _ h => h) (fun oi h => by cases h; exact Or.inl ⟨by rfl, fun w' hS' => by go_simp⟩) hHeld ?_
      try simp only [Act.put, List.setIfInBounds_toArray, List.set_cons_zero, List.set_cons_succ]
      have d0 := r0.drew
      have d1 := r1.drew
      have db := rb.drew
      have hdr : wr.drew.heap.size = wr.heap.size := rfl
      clear r0 r1 rb hmin ho
      refine two_d 3 5 rfl rfl (by kernel_rfl) ?_ ?_
      · intro K hK
        go_simp
        refine (CB.out _).mono ?_
        rintro e wA ⟨rfl, bb⟩
        have e0 := Row.below d0 bb d0.lt
        have e1 := Row.below d1 bb d1.lt
        have eb := db.trans (bb.mono db.size)
        clear bb hHeld
        refine hK.out _ _ (l0.out _ e0) (fun hHeld => ?_)
        clear hK K
        try simp only [Act.put, List.setIfInBounds_toArray, List.set_cons_zero, List.set_cons_succ]
        refine two_d 4 5 rfl rfl (by kernel_rfl) ?_ ?_
        · intro K hK
          go_simp
          refine (CE.out _).mono ?_
          rintro e wB ⟨rfl, bb⟩
          have f0 := Row.below e0 bb e0.lt
          have f1 := Row.below e1 bb e1.lt
          have fb := eb.trans (bb.mono eb.size)
          clear bb hHeld
          refine hK.out _ _ (l0.out _ f0) (fun hHeld => ?_)
          clear hK K
          try simp only [Act.put, List.setIfInBounds_toArray, List.set_cons_zero, List.set_cons_succ]
          refine one_d 5 (some 10) rfl (by kernel_rfl) ?_
          intro o ho hd
          cases ho
          intro K hK
          go_simp
          have hz := f1.lt
          have g0 := f0.alloc (.cells (W.cellsOf (List.replicate 16 0)).toArray 31 (0, 0))
          have g1 := f1.alloc (.cells (W.cellsOf (List.replicate 16 0)).toArray 31 (0, 0))
          have g2 : Row (wB.alloc (.cells (W.cellsOf (List.replicate 16 0)).toArray 31 (0, 0))) wB.heap.size 31 (W.cellsOf (List.replicate 16 0)) := Row.new' rfl rfl
          have gb := fb.alloc fb.size (.cells (W.cellsOf (List.replicate 16 0)).toArray 31 (0, 0))
          have hgB : w.heap.size + 1 < wB.heap.size := hz
          clear hHeld hz
          refine hK.out _ _ (l0.out _ g0) (fun hHeld => ?_)
          clear hK K
          try simp only [Act.put, List.setIfInBounds_toArray, List.set_cons_zero, List.set_cons_succ]
          refine one_d 6 none rfl (by kernel_rfl) ?_
          intro o ho hd K hK
          cases ho
          rw [if_pos (by rfl)]
          refine wp_store_row 31 (.tmp 10) (.tmp 23) rfl wB.heap.size (W.cellsOf (E.enc k (C.blk m j))).toArray rfl rfl 31 _ g2 hie hze (c8_all _) ?_
          have v0 := g0.setRow_other (show w.heap.size ≠ wB.heap.size by omega) (W.cellsOf (E.enc k (C.blk m j))).toArray
          have v1 := g1.setRow_other (show w.heap.size + 1 ≠ wB.heap.size by omega) (W.cellsOf (E.enc k (C.blk m j))).toArray
          have v2 := g2.setRow (W.cellsOf (E.enc k (C.blk m j)))
          have vb := below_row gb (show w.heap.size ≤ wB.heap.size by omega) (W.cellsOf (E.enc k (C.blk m j))).toArray
          refine hK.out _ _ (l0.out _ v0) (fun hHeld => ?_)
          clear hK K hHeld g0 g1 g2 gb
          refine wpAnyH_done (by kernel_rfl) ?_ _
          try simp only [Act.put]
          go_wp2_with (first | (refine wpList_copy_splice rfl (.tmp 25) (.tmp 26) 49 49 rfl 5 Tryz.underlying49 (by kernel_rfl) _ _ _ _ _ _ rfl rfl (w.heap.size + 1) (16 * j) _ 5 v1 (W.cellsOf ((E.enc k (C.blk m j)).take c)) HN.out (fun _ => ⟨rfl, _, rfl, v2.srcAt HSR.out⟩) HFT.out (c8_one _) (w.heap.size + 1) _ (Below.refl _ _) (Nat.le_refl _) ?_; intro w8 h8 b8; rw [HCL.out]))
          have x1 : Row w8 (w.heap.size + 1) 5 (W.cellsOf (E.fill (C.streamL k m n) (List.replicate n 0) (min (16 * (j + 1)) n))) := by have := h8.out; rw [HSP.out] at this; exact this
          have x0 := Row.below v0 b8 (by omega)
          have xb : Below w.heap.size w w8 := vb.trans (b8.mono (by omega))
          clear h8 b8 v0 v1 v2 vb
          go_roundw
          case rel =>
            have hL := HLh.out
            have hc := HCh.out
            by_cases hla : L = c
            · refine ⟨j + 1, 16 * j, by omega, by go_num, ?_, by omega, x0, x1, xb⟩
              have e1 : n - min (16 * (j + 1)) n = 0 := by omega
              rw [e1, hla]
              simp
            · refine ⟨j + 1, 16 * (j + 1), by omega, by go_num, ?_, by omega, x0, x1, xb⟩
              have e1 : n - min (16 * (j + 1)) n = L - c := by omega
              have e2 : 16 * j + c = 16 * (j + 1) := by omega
              rw [e1]
              simp [hla, e2]
          case measure =>
            have hL := HLh.out
            have hc := HCh.out
            simp [slen]; omega
        · intro K hK
          go_simp
          have hz := e1.lt
          have f0 := e0.alloc (.cells (W.cellsOf (List.replicate 16 0)).toArray 31 (0, 0))
          have f1 := e1.alloc (.cells (W.cellsOf (List.replicate 16 0)).toArray 31 (0, 0))
          have f2 : Row (wA.alloc (.cells (W.cellsOf (List.replicate 16 0)).toArray 31 (0, 0))) wA.heap.size 31 (W.cellsOf (List.replicate 16 0)) := Row.new' rfl rfl
          have fb := eb.alloc eb.size (.cells (W.cellsOf (List.replicate 16 0)).toArray 31 (0, 0))
          have hgB : w.heap.size + 1 < wA.heap.size := hz
          clear hHeld hz
          refine hK.out _ _ (l0.out _ f0) (fun hHeld => ?_)
          clear hK K
          try simp only [Act.put, List.setIfInBounds_toArray, List.set_cons_zero, List.set_cons_succ]
          refine one_d 4 (some 23) rfl (by kernel_rfl) ?_
          intro o ho hd
          cases ho
          intro K hK
          go_simp
          refine (CE.out _).mono ?_
          rintro e wB ⟨rfl, bb⟩
          have g0 := Row.below f0 bb f0.lt
          have g1 := Row.below f1 bb f1.lt
          have g2 := Row.below f2 bb f2.lt
          have gb := fb.trans (bb.mono fb.size)
          clear bb hHeld
          refine hK.out _ _ (l0.out _ g0) (fun hHeld => ?_)
          clear hK K
          try simp only [Act.put, List.setIfInBounds_toArray, List.set_cons_zero, List.set_cons_succ]
          refine one_d 6 none rfl (by kernel_rfl) ?_
          intro o ho hd K hK
          cases ho
          rw [if_pos (by rfl)]
          refine wp_store_row 31 (.tmp 10) (.tmp 23) rfl wA.heap.size (W.cellsOf (E.enc k (C.blk m j))).toArray rfl rfl 31 _ g2 hie hze (c8_all _) ?_
          have v0 := g0.setRow_other (show w.heap.size ≠ wA.heap.size by omega) (W.cellsOf (E.enc k (C.blk m j))).toArray
          have v1 := g1.setRow_other (show w.heap.size + 1 ≠ wA.heap.size by omega) (W.cellsOf (E.enc k (C.blk m j))).toArray
          have v2 := g2.setRow (W.cellsOf (E.enc k (C.blk m j)))
          have vb := below_row gb (show w.heap.size ≤ wA.heap.size by omega) (W.cellsOf (E.enc k (C.blk m j))).toArray
          refine hK.out _ _ (l0.out _ v0) (fun hHeld => ?_)
          clear hK K hHeld g0 g1 g2 gb
          refine wpAnyH_done (by kernel_rfl) ?_ _
          try simp only [Act.put]
          go_wp2_with (first | (refine wpList_copy_splice rfl (.tmp 25) (.tmp 26) 49 49 rfl 5 Tryz.underlying49 (by kernel_rfl) _ _ _ _ _ _ rfl rfl (w.heap.size + 1) (16 * j) _ 5 v1 (W.cellsOf ((E.enc k (C.blk m j)).take c)) HN.out (fun _ => ⟨rfl, _, rfl, v2.srcAt HSR.out⟩) HFT.out (c8_one _) (w.heap.size + 1) _ (Below.refl _ _) (Nat.le_refl _) ?_; intro w8 h8 b8; rw [HCL.out]))
          have x1 : Row w8 (w.heap.size + 1) 5 (W.cellsOf (E.fill (C.streamL k m n) (List.replicate n 0) (min (16 * (j + 1)) n))) := by have := h8.out; rw [HSP.out] at this; exact this
          have x0 := Row.below v0 b8 (by omega)
          have xb : Below w.heap.size w w8 := vb.trans (b8.mono (by omega))
          clear h8 b8 v0 v1 v2 vb
          go_roundw
          case rel =>
            have hL := HLh.out
            have hc := HCh.out
            by_cases hla : L = c
            · refine ⟨j + 1, 16 * j, by omega, by go_num, ?_, by omega, x0, x1, xb⟩
              have e1 : n - min (16 * (j + 1)) n = 0 := by omega
              rw [e1, hla]
              simp
            · refine ⟨j + 1, 16 * (j + 1), by omega, by go_num, ?_, by omega, x0, x1, xb⟩
              have e1 : n - min (16 * (j + 1)) n = L - c := by omega
              have e2 : 16 * j + c = 16 * (j + 1) := by omega
              rw [e1]
              simp [hla, e2]
          case measure =>
            have hL := HLh.out
            have hc := HCh.out
            simp [slen]; omega
      · intro K hK
        go_simp
        have hz := d1.lt
        have e0 := d0.alloc (.cells (W.cellsOf (List.replicate 16 0)).toArray 31 (0, 0))
        have e1 := d1.alloc (.cells (W.cellsOf (List.replicate 16 0)).toArray 31 (0, 0))
        have e2 : Row (wr.drew.alloc (.cells (W.cellsOf (List.replicate 16 0)).toArray 31 (0, 0))) wr.heap.size 31 (W.cellsOf (List.replicate 16 0)) := Row.new' rfl rfl
        have eb := db.alloc db.size (.cells (W.cellsOf (List.replicate 16 0)).toArray 31 (0, 0))
        have hgB : w.heap.size + 1 < wr.heap.size := hz
        clear hHeld hz
        refine hK.out _ _ (l0.out _ e0) (fun hHeld => ?_)
        clear hK K
        try simp only [Act.put, List.setIfInBounds_toArray, List.set_cons_zero, List.set_cons_succ]
        refine one_d 3 (some 22) rfl (by kernel_rfl) ?_
        intro o ho hd
        cases ho
        intro K hK
        go_simp
        refine (CB.out _).mono ?_
        rintro e wA ⟨rfl, bb⟩
        have f0 := Row.below e0 bb e0.lt
        have f1 := Row.below e1 bb e1.lt
        have f2 := Row.below e2 bb e2.lt
        have fb := eb.trans (bb.mono eb.size)
        clear bb hHeld
        refine hK.out _ _ (l0.out _ f0) (fun hHeld => ?_)
        clear hK K
        try simp only [Act.put, List.setIfInBounds_toArray, List.set_cons_zero, List.set_cons_succ]
        refine one_d 4 (some 23) rfl (by kernel_rfl) ?_
        intro o ho hd
        cases ho
        intro K hK
        go_simp
        refine (CE.out _).mono ?_
        rintro e wB ⟨rfl, bb⟩
        have g0 := Row.below f0 bb f0.lt
        have g1 := Row.below f1 bb f1.lt
        have g2 := Row.below f2 bb f2.lt
        have gb := fb.trans (bb.mono fb.size)
        clear bb hHeld
        refine hK.out _ _ (l0.out _ g0) (fun hHeld => ?_)
        clear hK K
        try simp only [Act.put, List.setIfInBounds_toArray, List.set_cons_zero, List.set_cons_succ]
        refine one_d 6 none rfl (by kernel_rfl) ?_
        intro o ho hd K hK
        cases ho
        rw [if_pos (by rfl)]
        refine wp_store_row 31 (.tmp 10) (.tmp 23) rfl wr.heap.size (W.cellsOf (E.enc k (C.blk m j))).toArray rfl rfl 31 _ g2 hie hze (c8_all _) ?_
        have v0 := g0.setRow_other (show w.heap.size ≠ wr.heap.size by omega) (W.cellsOf (E.enc k (C.blk m j))).toArray
        have v1 := g1.setRow_other (show w.heap.size + 1 ≠ wr.heap.size by omega) (W.cellsOf (E.enc k (C.blk m j))).toArray
        have v2 := g2.setRow (W.cellsOf (E.enc k (C.blk m j)))
        have vb := below_row gb (show w.heap.size ≤ wr.heap.size by omega) (W.cellsOf (E.enc k (C.blk m j))).toArray
        refine hK.out _ _ (l0.out _ v0) (fun hHeld => ?_)
        clear hK K hHeld g0 g1 g2 gb
        refine wpAnyH_done (by kernel_rfl) ?_ _
        try simp only [Act.put]
        go_wp2_with (first | (refine wpList_copy_splice rfl (.tmp 25) (.tmp 26) 49 49 rfl 5 Tryz.underlying49 (by kernel_rfl) _ _ _ _ _ _ rfl rfl (w.heap.size + 1) (16 * j) _ 5 v1 (W.cellsOf ((E.enc k (C.blk m j)).take c)) HN.out (fun _ => ⟨rfl, _, rfl, v2.srcAt HSR.out⟩) HFT.out (c8_one _) (w.heap.size + 1) _ (Below.refl _ _) (Nat.le_refl _) ?_; intro w8 h8 b8; rw [HCL.out]))
        have x1 : Row w8 (w.heap.size + 1) 5 (W.cellsOf (E.fill (C.streamL k m n) (List.replicate n 0) (min (16 * (j + 1)) n))) := by have := h8.out; rw [HSP.out] at this; exact this
        have x0 := Row.below v0 b8 (by omega)
        have xb : Below w.heap.size w w8 := vb.trans (b8.mono (by omega))
        clear h8 b8 v0 v1 v2 vb
        go_roundw
        case rel =>
          have hL := HLh.out
          have hc := HCh.out
          by_cases hla : L = c
          · refine ⟨j + 1, 16 * j, by omega, by go_num, ?_, by omega, x0, x1, xb⟩
            have e1 : n - min (16 * (j + 1)) n = 0 := by omega
            rw [e1, hla]
            simp
          · refine ⟨j + 1, 16 * (j + 1), by omega, by go_num, ?_, by omega, x0, x1, xb⟩
            have e1 : n - min (16 * (j + 1)) n = L - c := by omega
            have e2 : 16 * j + c = 16 * (j + 1) := by omega
            rw [e1]
            simp [hla, e2]
        case measure =>
          have hL := HLh.out
          have hc := HCh.out
          simp [slen]; omega
    · have hmin : min (16 * j) n = n := by omega
      have hz : n - n = 0 := by omega
      rw [hmin, hz] at hrv
      rw [hmin, HFull.out] at r1
      subst hrv
      go_wp2
      go_ret
      exact ⟨rfl, r1, rb⟩

end Go.Proofs.YtjkaignfomlflaaGreat

/-
  Layer 6: Stream, Turn.
-/
namespace Go.Proofs.YtjkaignfomlflaaGreat
open Go.RowKit
set_option linter.unusedVariables false
set_option maxRecDepth 20000

theorem rowText {w : World} {g : Nat} {l : List UInt8} {n : Nat} (hn : n = l.length) (h : Row w g 5 (W.cellsOf l)) : (convert 49 9 (.slice (some ⟨g, 0, none⟩) n n)).run Tryz.prog w = .ok (.string ⟨l.toArray⟩) w := by
  subst hn
  exact run_convert_bytes_back (P := Tryz.prog) w 49 9 5 ⟨g, 0, none⟩ l.length l Tryz.underlying49 Tryz.underlying5 Tryz.underlying9 (fun t ht => by
    have e : (⟨g, 0, none⟩ : Addr).add t = ⟨g, t, none⟩ := by unfold Addr.add; split <;> simp_all
    rw [e, h.cell, c8_at ht]; simp [List.getD_eq_getElem?_getD, ht])

set_option maxHeartbeats 1000000 in
theorem stream_no (k : List UInt8) (m : Nat) (n : Int) (hk : k.length = 16) (hn : n < 0 ∨ 65536 < n) (w : World) :
    Calls Tryz.prog 40 #[.agg (W.cellsOf k).toArray, .int .u64 (m : Int), .int .i64 n] w fun e w' => e = .returned (.tuple #[.string ⟨#[]⟩, .int .i64 7]) ∧ Below w.heap.size w w' := by
  go_enter Tryz.func40, Tryz.ntmps40
  rcases hn with hn | hn
  · go_wp2
    go_ret2
    exact ⟨rfl, (Below.refl _ _).alloc (Nat.le_refl _) _⟩
  · have h0 : ¬ n < 0 := by omega
    go_wp2
    go_ret2
    exact ⟨rfl, (Below.refl _ _).alloc (Nat.le_refl _) _⟩

set_option maxHeartbeats 1000000 in
theorem stream_yes (k : List UInt8) (m n : Nat) (hk : k.length = 16) (hm : m ≤ 18446744073709551615) (hn : n ≤ 65536) (w : World) :
    Calls Tryz.prog 40 #[.agg (W.cellsOf k).toArray, .int .u64 (m : Int), .int .i64 (n : Int)] w fun e w' => e = .returned (.tuple #[.string ⟨(C.streamL k m n).toArray⟩, .int .i64 0]) ∧ Below w.heap.size w w' := by
  have CS : Hid (∀ wx, Calls Tryz.prog 33 #[.agg (W.cellsOf k).toArray, .int .u64 (m : Int), .int .i64 (n : Int)] wx fun e w' => e = .returned (.slice (some ⟨wx.heap.size + 1, 0, none⟩) n n) ∧ Row w' (wx.heap.size + 1) 5 (W.cellsOf (C.streamL k m n)) ∧ Below wx.heap.size wx w') := fun wx => stream_any k m n hk hm hn wx
  have hik := info16k hk
  have HL := Lib.hid (C.streamL_length k m n)
  have h1 : ¬ ((n : Int) < 0) := by omega
  have h2 : ¬ (65536 < (n : Int)) := by omega
  generalize C.streamL k m n = F at *
  clear hn hk hm
  have r0 : Row (w.alloc (.cells (W.cellsOf k).toArray 33 (0, 0))) w.heap.size 33 (W.cellsOf k) := Row.new' rfl rfl
  go_enter Tryz.func40, Tryz.ntmps40
  go_wp2_with (first | refine wpList_load_row rfl 33 (.tmp 3) rfl w.heap.size rfl _ _ _ _ r0 Tryz.underlying33 rfl hik ?_)
  refine (CS.out _).mono ?_
  rintro e w1 ⟨rfl, r1, b1⟩
  have hb1 : Below w.heap.size w w1 := ((Below.refl _ _).alloc (Nat.le_refl _) _).trans (b1.mono (by simp))
  have hsz : (w.alloc (.cells (W.cellsOf k).toArray 33 (0, 0))).heap.size = w.heap.size + 1 := by simp
  rw [hsz] at r1
  have hcv := rowText HL.out.symm r1
  clear b1 r0 r1 h1 h2 hsz
  go_wp2
  go_ret2
  exact ⟨rfl, hb1⟩

theorem byteAt (s : ByteArray) (i : Nat) (h : i < s.size) : s.data.toList.getD i 0 = s[i] := by
  have h' : i < s.data.toList.length := by simpa using h
  rw [List.getD_eq_getElem?_getD, List.getElem?_eq_getElem h', Option.getD_some]
  simp
  rfl

set_option maxHeartbeats 1000000 in
theorem turn_any (k : List UInt8) (m : Nat) (s : ByteArray) (hk : k.length = 16) (hm : m ≤ 18446744073709551615) (hn : s.size ≤ 65536) (w : World) :
    Calls Tryz.prog 21 #[.agg (W.cellsOf k).toArray, .int .u64 (m : Int), .string s] w fun e w' => e = .returned (.string ⟨(C.turnL k m s.data.toList).toArray⟩) ∧ Below w.heap.size w w' := by
  have CS : Hid (∀ wx, Calls Tryz.prog 33 #[.agg (W.cellsOf k).toArray, .int .u64 (m : Int), .int .i64 (s.size : Int)] wx fun e w' => e = .returned (.slice (some ⟨wx.heap.size + 1, 0, none⟩) s.size s.size) ∧ Row w' (wx.heap.size + 1) 5 (W.cellsOf (C.streamL k m s.size)) ∧ Below wx.heap.size wx w') := fun wx => stream_any k m s.size hk hm hn wx
  have hik := info16k hk
  have hsl : s.data.toList.length = s.size := by simp
  have HFL := Lib.hid (C.streamL_length k m s.size)
  have HTL : Hid ((C.turnL k m s.data.toList).length = s.size) := by
    show _ = _
    rw [C.turnL_length, hsl]
  have HF : Hid ((C.turnL k m s.data.toList).length = (C.streamL k m s.size).length) := HTL.out.trans HFL.out.symm
  have HFull := Lib.hid (E.fill_full HTL.out HFL.out)
  have HAT : Hid (∀ i (h : i < s.size), (C.turnL k m s.data.toList).getD i 0 = (C.streamL k m s.size).getD i 0 ^^^ s[i]) := fun i h => by
    rw [C.turnL_at _ _ _ _ (by rw [hsl]; exact h), hsl, byteAt s i h]
  generalize C.turnL k m s.data.toList = T at *
  generalize C.streamL k m s.size = F at *
  clear hk hm hsl
  have r0 : Row (w.alloc (.cells (W.cellsOf k).toArray 33 (0, 0))) w.heap.size 33 (W.cellsOf k) := Row.new' rfl rfl
  go_enter Tryz.func21, Tryz.ntmps21
  go_wp2_with (first | refine wpList_load_row rfl 33 (.tmp 3) rfl w.heap.size rfl _ _ _ _ r0 Tryz.underlying33 rfl hik ?_)
  refine (CS.out _).mono ?_
  rintro e w1 ⟨rfl, r1, b1⟩
  have hb1 : Below w.heap.size w w1 := ((Below.refl _ _).alloc (Nat.le_refl _) _).trans (b1.mono (by simp))
  have hsz : (w.alloc (.cells (W.cellsOf k).toArray 33 (0, 0))).heap.size = w.heap.size + 1 := by simp
  rw [hsz] at r1
  clear b1 r0 hsz
  go_wp2
  go_loopw [8, 16] (fun _ iv wr => ∃ i : Nat, i ≤ s.size ∧ iv = .int .i64 i ∧ Row wr (w.heap.size + 1 + 1) 5 (W.cellsOf (E.fill T F i)) ∧ Below w.heap.size w wr) (fun _ iv _ => s.size - (intOf iv).toNat)
  case atStart => exact ⟨0, Nat.zero_le _, rfl, by rw [E.fill_zero]; exact r1, hb1⟩
  case round =>
    clear r1 hb1
    obtain ⟨i, hi, rfl, r1, rb⟩ := hrel
    by_cases hlt : i < s.size
    · have hs : (i : Int) < s.size := by omega
      have hfl : i < F.length := by rw [HFL.out]; exact hlt
      have c1 := (r1.cell i).trans (c8_at (by rw [E.fill_length HF.out]; exact hfl))
      rw [E.fill_at HF.out hfl] at c1
      have f1 := r1.frozen i
      have hx := xor8 (F.getD i 0) s[i]
      rw [← HAT.out i hlt] at hx
      have r1' := r1.set i (.int .u8 ((T.getD i 0).toNat : Int))
      rw [c8_set, E.fill_step HF.out hfl] at r1'
      generalize T.getD i 0 = z at *
      generalize F.getD i 0 = y at *
      go_wp2
      go_region
      go_wp2
      go_roundw
      case rel => exact ⟨i + 1, by omega, by go_num, r1'.drew, (rb.setCell (by simp; omega) _).drew⟩
      case measure => simp [intOf]; omega
    · obtain rfl : i = s.size := by omega
      rw [HFull.out] at r1
      have hcv := rowText HTL.out.symm r1
      go_wp2
      go_ret
      exact ⟨rfl, rb⟩

end Go.Proofs.YtjkaignfomlflaaGreat

/-
  Layer 6: the document's Stream.
-/
namespace Go.Proofs.YtjkaignfomlflaaGreat
open Go.RowKit
set_option linter.unusedVariables false
set_option maxRecDepth 20000

theorem streamL_snoc (k : List UInt8) (m j c : Nat) (hc : c < 16) : C.streamL k m (16 * j + c + 1) = C.streamL k m (16 * j + c) ++ [(E.enc k (C.blk m j)).getD c 0] := by
  rw [← C.streamL_of k m (16 * j + c + 1) (j + 1) (by omega), ← C.streamL_of k m (16 * j + c) (j + 1) (by omega)]
  have hl : 16 * j + c < (C.str k m (j + 1)).length := by rw [C.str_length]; omega
  rw [List.take_succ_eq_append_getElem hl]
  congr 2
  have : (C.str k m j ++ E.enc k (C.blk m j))[16 * j + c]? = (E.enc k (C.blk m j))[c]? := by
    rw [List.getElem?_append_right (by rw [C.str_length]; omega), C.str_length, show 16 * j + c - 16 * j = c from by omega]
  rw [List.getD_eq_getElem?_getD, ← this]
  show (C.str k m (j + 1))[16 * j + c] = ((C.str k m (j + 1))[16 * j + c]?).getD 0
  rw [List.getElem?_eq_getElem hl]; rfl
theorem mkSize (l : List UInt8) : (⟨l.toArray⟩ : ByteArray).size = l.length := by simp [ByteArray.size]

set_option maxRecDepth 20000 in
set_option maxHeartbeats 4000000 in
theorem refStream_any (s : ByteArray) (hs : s.size = 16) (m n : Nat) (hm : m ≤ 18446744073709551615) (hn : n ≤ 100) (w : World) :
    Calls Tryz.prog 36 #[.string s, .int .u64 (m : Int), .int .i64 (n : Int)] w fun e w' => e = .returned (.string ⟨(C.streamL s.data.toList m n).toArray⟩) ∧ Below w.heap.size w w' := by
  have hk : s.data.toList.length = 16 := by simpa using hs
  have CW : Hid (∀ gb capb wx, gb < wx.heap.size → 256 ≤ capb → (∀ x : UInt8, wx.cell? ⟨gb, x.toNat, none⟩ = some (.int .u8 ((E.sub x).toNat : Int))) → Calls Tryz.prog 55 #[.string s, .slice (some ⟨gb, 0, none⟩) 256 capb] wx fun e w' => ∃ gw cap, e = .returned (.slice (some ⟨gw, 0, none⟩) 44 cap) ∧ wx.heap.size ≤ gw ∧ gw < w'.heap.size ∧ (∀ j, j < 176 → w'.cell? ⟨gw, j, none⟩ = some (.int .u8 (((E.rks s.data.toList 11).getD j 0).toNat : Int))) ∧ Below wx.heap.size wx w') := fun gb capb wx h1 h2 h3 => wordsC_any s hs gb capb wx h1 h2 h3
  have CBY : Hid (∀ b : List UInt8, b.length = 16 → ∀ gb capb gw capw wx, gb < wx.heap.size → gw < wx.heap.size → (∀ x : UInt8, wx.cell? ⟨gb, x.toNat, none⟩ = some (.int .u8 ((E.sub x).toNat : Int))) → (∀ j, j < 176 → wx.cell? ⟨gw, j, none⟩ = some (.int .u8 (((E.rks s.data.toList 11).getD j 0).toNat : Int))) → Calls Tryz.prog 56 #[.slice (some ⟨gb, 0, none⟩) 256 capb, .slice (some ⟨gw, 0, none⟩) 44 capw, .agg (W.cellsOf b).toArray] wx fun e w' => e = .returned (.agg (W.cellsOf (E.enc s.data.toList b)).toArray) ∧ Below wx.heap.size wx w') := fun b hb gb capb gw capw wx h1 h2 h3 h4 => by_any s.data.toList b hk hb gb capb gw capw wx h1 h2 h3 h4
  clear hs hk
  generalize s.data.toList = k at *
  go_enter Tryz.func36, Tryz.ntmps36
  go_wp2_with fail
  refine (refBoxC_any _).mono ?_
  rintro e w1 ⟨gb, capb, rfl, hg1, hg2, hcap, hbx, b1⟩
  have HBX1 := Lib.hid hbx
  clear hbx
  go_wp2_with fail
  refine (CW.out gb capb _ hg2 hcap HBX1.out).mono ?_
  rintro e w2 ⟨gw, capw, rfl, hg3, hg4, hkw, b2⟩
  have hw2 : Below w.heap.size w w2 := b1.trans (b2.mono b1.size)
  have HBX : Hid (∀ wx, Below w2.heap.size w2 wx → ∀ x : UInt8, wx.cell? ⟨gb, x.toNat, none⟩ = some (.int .u8 ((E.sub x).toNat : Int))) := fun wx h x => by rw [h.cell (p := ⟨gb, _, none⟩) (Nat.lt_of_lt_of_le hg2 b2.size), b2.cell (p := ⟨gb, _, none⟩) hg2]; exact HBX1.out x
  have HKW : Hid (∀ wx, Below w2.heap.size w2 wx → ∀ j, j < 176 → wx.cell? ⟨gw, j, none⟩ = some (.int .u8 (((E.rks k 11).getD j 0).toNat : Int))) := fun wx h j hj => by rw [h.cell (p := ⟨gw, _, none⟩) hg4]; exact hkw j hj
  have hgb2 : gb < w2.heap.size := Nat.lt_of_lt_of_le hg2 b2.size
  clear b1 b2 HBX1 hkw CW hg1 hg2 hg3
  go_wp2
  go_loopw [7, 10, 11, 12, 13, 14, 15] (fun sv iv _ _ _ _ _ wq => ∃ j p : Nat, j ≤ 7 ∧ p ≤ n ∧ (p < n → p = 16 * j) ∧ iv = .int .u64 (j : Int) ∧ sv = .string ⟨(C.streamL k m p).toArray⟩ ∧ Below w2.heap.size w2 wq) (fun _ iv _ _ _ _ _ _ => 8 - (intOf iv).toNat)
  case atStart => exact ⟨0, 0, Nat.zero_le _, Nat.zero_le _, fun _ => rfl, rfl, rfl, Below.refl _ _⟩
  case round =>
    obtain ⟨j, p, hj, hp, hpj, rfl, rfl, hb⟩ := hrel
    have hsz := mkSize (C.streamL k m p)
    rw [C.streamL_length] at hsz
    by_cases hlt : p < n
    · obtain rfl : p = 16 * j := hpj hlt
      have hlt' : ((16 * j : Nat) : Int) < (n : Int) := by omega
      have C1 : Hid (∀ wx, Calls Tryz.prog 28 #[.int .u64 (m : Int), .int .i64 8] wx fun e w' => e = .returned (.string ⟨(W.putL m 8).toArray⟩) ∧ Below wx.heap.size wx w') := fun wx => by
        have := refPut_any (m : Int) 8 (by omega) (by omega) wx; exact this
      have C2 : Hid (∀ wx, Calls Tryz.prog 28 #[.int .u64 (j : Int), .int .i64 8] wx fun e w' => e = .returned (.string ⟨(W.putL j 8).toArray⟩) ∧ Below wx.heap.size wx w') := fun wx => by
        have := refPut_any (j : Int) 8 (by omega) (by omega) wx; exact this
      have HBL := Lib.hid (C.blk_length m j)
      have hadd := fun wx => run_string_add_sum (P := Tryz.prog) wx (⟨(W.putL m 8).toArray⟩ : ByteArray) ⟨(W.putL j 8).toArray⟩ (by rw [mkSize, mkSize, W.putL_length, W.putL_length]; decide)
      obtain ⟨T, hT⟩ : ∃ T : ByteArray, T = (⟨(W.putL m 8).toArray⟩ : ByteArray) ++ ⟨(W.putL j 8).toArray⟩ := ⟨_, rfl⟩
      rw [← hT] at hadd
      have HTL : Hid (T.data.toList = C.blk m j) := by show T.data.toList = _; rw [hT, ByteArray.data_append, Array.toList_append]; rfl
      have HTS : Hid (T.size = 16) := by
        have h1 : T.size = T.data.toList.length := (Array.length_toList).symm
        show T.size = 16
        rw [h1, HTL.out, HBL.out]
      have HIX : Hid (∀ (i : Nat) (wx : World), i < 16 → (Instr.index 9 (.string T) (.int .i64 (i : Int))).run Tryz.prog wx = .ok (.int .u8 (((C.blk m j).getD i 0).toNat : Int)) wx) := fun i wx hi => by
        rw [str_at T i _ rfl (by rw [HTS.out]; exact hi) wx, HTL.out]
      clear hT hpj
      go_wp2_with fail
      refine (C1.out _).mono ?_
      rintro e w3 ⟨rfl, b3⟩
      have hb3 := hb.trans (b3.mono hb.size)
      clear b3 hb
      go_wp2_with fail
      refine (C2.out _).mono ?_
      rintro e w4 ⟨rfl, b4⟩
      have hb4 := hb3.trans (b4.mono hb3.size)
      clear b4 hb3
      have rB0 := Row.new' (w := w4) (t := 31) (l := W.cellsOf (List.replicate 16 0)) rfl rfl
      have hbB := hb4.alloc hb4.size (.cells (W.cellsOf (List.replicate 16 0)).toArray 31 (0, 0))
      have hgB : w2.heap.size ≤ w4.heap.size := hb4.size
      have hE := Lib.hid (E.enc_length k (C.blk m j))
      have CE := Lib.hid (CBY.out (C.blk m j) HBL.out)
      have hSN := Lib.hid (streamL_snoc k m j)
      generalize C.blk m j = B at *
      go_wp2
      clear hadd C1 C2 hb4
      go_loopw [13] (fun kv wq => ∃ c : Nat, c ≤ 16 ∧ kv = .int .i64 c ∧ Row wq w4.heap.size 31 (W.cellsOf (E.fill B (List.replicate 16 0) c)) ∧ Below w2.heap.size w2 wq) (fun kv _ => 16 - (intOf kv).toNat)
      case atStart => exact ⟨0, Nat.zero_le _, rfl, by rw [E.fill_zero]; exact rB0, hbB⟩
      case round =>
        clear rB0 hbB
        obtain ⟨c, hc, rfl, rB, hbB⟩ := hrel
        have hF : B.length = (List.replicate 16 (0 : UInt8)).length := by rw [HBL.out]; simp
        by_cases hc16 : c < 16
        · have hsc : (c : Int) < 16 := by omega
          have hsc0 : (0 : Int) ≤ (c : Int) := by omega
          have hix := fun wx => HIX.out c wx hc16
          have cb := (rB.cell c).trans (c8_at (by rw [E.fill_length hF]; simp; omega))
          have fb := rB.frozen c
          have rB' := rB.set c (.int .u8 ((B.getD c 0).toNat : Int))
          rw [c8_set, E.fill_step hF (by simp; omega)] at rB'
          generalize B.getD c 0 = z at *
          clear hF
          go_wp2
          go_roundw
          case rel => exact ⟨c + 1, by omega, by go_num, rB', hbB.setCell (by simp; omega) _⟩
          case measure => simp [intOf]; omega
        · have hsc : ¬ (c : Int) < 16 := by omega
          have hc' : c = 16 := by omega
          rw [hc', E.fill_full (n := 16) HBL.out (by simp)] at rB
          have hiB := info16 HBL.out
          have hiE := info16 hE.out
          clear hc hc16 hc' HIX HTL HTS hF
          go_wp2_with (first | refine wpList_load_row rfl 31 (.tmp 12) rfl w4.heap.size rfl _ _ _ _ rB Tryz.underlying31 rfl hiB ?_)
          refine (CE.out gb capb gw capw _ (Nat.lt_of_lt_of_le hgb2 hbB.size) (Nat.lt_of_lt_of_le hg4 hbB.size) (HBX.out _ hbB) (HKW.out _ hbB)).mono ?_
          rintro e w5 ⟨rfl, b5⟩
          have hb5 := hbB.trans (b5.mono hbB.size)
          clear b5 hbB rB CE hiB
          have hzE : ∀ z : Array Value, z = (W.cellsOf (List.replicate 16 0)).toArray → z.size = (W.cellsOf (E.enc k B)).toArray.size := fun z hz => by rw [hz, List.size_toArray, List.size_toArray, c8_len, c8_len, hE.out]; rfl
          generalize E.enc k B = X at *
          have rX0 := Row.new' (w := w5) (t := 31) (l := W.cellsOf X) rfl rfl
          have hbX0 := hb5.alloc hb5.size (.cells (W.cellsOf X).toArray 31 (0, 0))
          have hgX : w2.heap.size ≤ w5.heap.size := hb5.size
          go_wp2_with (first | refine wpList_store_new rfl 31 (.tmp 14) (.tmp 43) rfl w5 _ _ _ _ rfl rfl rfl hiE (hzE _ rfl) (c8_all _) ?_)
          clear hzE hiE hb5
          go_loopw [7, 15] (fun sv kv wq => ∃ c : Nat, c ≤ 16 ∧ 16 * j + c ≤ n ∧ kv = .int .i64 c ∧ sv = .string ⟨(C.streamL k m (16 * j + c)).toArray⟩ ∧ Row wq w5.heap.size 31 (W.cellsOf X) ∧ Below w2.heap.size w2 wq) (fun _ kv _ => 16 - (intOf kv).toNat)
          case atStart => exact ⟨0, Nat.zero_le _, by omega, rfl, rfl, rX0, hbX0⟩
          case round =>
            clear rX0 hbX0
            obtain ⟨c, hc, hcn, rfl, rfl, rX, hbX⟩ := hrel
            have hs1 := mkSize (C.streamL k m (16 * j + c))
            rw [C.streamL_length] at hs1
            by_cases hc16 : c < 16
            · have hsc : (c : Int) < 16 := by omega
              have hsc0 : (0 : Int) ≤ (c : Int) := by omega
              by_cases hcl : 16 * j + c < n
              · have hsl : ((16 * j + c : Nat) : Int) < (n : Int) := by omega
                have cx := (rX.cell c).trans (c8_at (by rw [hE.out]; exact hc16))
                have HS1 := Lib.hid (hSN.out c hc16)
                have hcv := conv1 wr ((X.getD c 0).toNat : Int) (X.getD c 0) rfl
                have ha2 := fun wx => run_string_add_sum (P := Tryz.prog) wx (⟨(C.streamL k m (16 * j + c)).toArray⟩ : ByteArray) ⟨#[X.getD c 0]⟩ (by rw [hs1]; show 16 * j + c + 1 ≤ maxLen; unfold maxLen; omega)
                have e2 : (⟨(C.streamL k m (16 * j + c)).toArray⟩ : ByteArray) ++ ⟨#[X.getD c 0]⟩ = ⟨(C.streamL k m (16 * j + (c + 1))).toArray⟩ := by
                  rw [show 16 * j + (c + 1) = 16 * j + c + 1 from by omega, HS1.out]
                  apply ByteArray.ext
                  simp [ByteArray.data_append]
                rw [e2] at ha2
                clear e2 HS1
                generalize X.getD c 0 = z at *
                have hsl' : 16 * (j : Int) + (c : Int) < (n : Int) := by omega
                go_wp2
                go_roundw
                case rel => exact ⟨c + 1, by omega, by omega, by go_num, rfl, rX.alloc _, hbX.alloc hbX.size _⟩
                case measure => simp [intOf]; omega
              · have hsl : ¬ ((16 * j + c : Nat) : Int) < (n : Int) := by omega
                have hsl' : ¬ 16 * (j : Int) + (c : Int) < (n : Int) := by omega
                go_wp2
                go_roundw
                case rel => exact ⟨j + 1, 16 * j + c, by omega, by omega, fun h => by omega, by go_num, rfl, hbX⟩
                case measure => simp [intOf]; omega
            · have hsc : ¬ (c : Int) < 16 := by omega
              go_wp2
              go_roundw
              case rel => exact ⟨j + 1, 16 * j + c, by omega, by omega, fun h => by omega, by go_num, rfl, hbX⟩
              case measure => simp [intOf]; omega
    · have hlt' : ¬ ((p : Int) < (n : Int)) := by omega
      obtain rfl : p = n := by omega
      go_wp2
      go_ret
      exact ⟨rfl, hw2.trans (hb.mono hw2.size)⟩

end Go.Proofs.YtjkaignfomlflaaGreat

/-
  Layer 6: the document's Turn.
-/
namespace Go.Proofs.YtjkaignfomlflaaGreat
open Go.RowKit
set_option linter.unusedVariables false
set_option maxRecDepth 20000

set_option maxRecDepth 20000 in
set_option maxHeartbeats 2000000 in
theorem refTurn_any (s : ByteArray) (hs : s.size = 16) (m : Nat) (hm : m ≤ 18446744073709551615) (t : ByteArray) (ht : t.size ≤ 100) (w : World) :
    Calls Tryz.prog 26 #[.string s, .int .u64 (m : Int), .string t] w fun e w' => e = .returned (.string ⟨(C.turnL s.data.toList m t.data.toList).toArray⟩) ∧ Below w.heap.size w w' := by
  have CS : Hid (∀ wx, Calls Tryz.prog 36 #[.string s, .int .u64 (m : Int), .int .i64 (t.size : Int)] wx fun e w' => e = .returned (.string ⟨(C.streamL s.data.toList m t.size).toArray⟩) ∧ Below wx.heap.size wx w') := fun wx => refStream_any s hs m t.size hm ht wx
  have HX : Hid (∀ i, i < t.size → t.data.toList.getD i 0 ^^^ (C.streamL s.data.toList m t.size).getD i 0 = (C.turnL s.data.toList m t.data.toList).getD i 0) := fun i hi => by
    have hl : t.data.toList.length = t.size := Array.length_toList
    rw [C.turnL_at _ _ _ _ (by rw [hl]; exact hi), hl, UInt8.xor_comm]
  have HTL : Hid ((C.turnL s.data.toList m t.data.toList).length = t.size) := by show _ = _; rw [C.turnL_length]; exact Array.length_toList
  have hsl := C.streamL_length s.data.toList m t.size
  have HSI : Hid (∀ (i : Nat) (wx : World), i < t.size → (Instr.index 9 (.string ⟨(C.streamL s.data.toList m t.size).toArray⟩) (.int .i64 (i : Int))).run Tryz.prog wx = .ok (.int .u8 (((C.streamL s.data.toList m t.size).getD i 0).toNat : Int)) wx) := fun i wx hi => str_at _ i _ rfl (by rw [mkSize, hsl]; exact hi) wx
  have HTI : Hid (∀ (i : Nat) (wx : World), i < t.size → (Instr.index 9 (.string t) (.int .i64 (i : Int))).run Tryz.prog wx = .ok (.int .u8 ((t.data.toList.getD i 0).toNat : Int)) wx) := fun i wx hi => str_at t i _ rfl hi wx
  have HMK : Hid (∀ wx : World, (Instr.makeSlice 49 (.int .i64 (t.size : Int)) (.int .i64 (t.size : Int))).run Tryz.prog wx = .ok (.slice (some ⟨wx.heap.size, 0, none⟩) t.size t.size) (wx.alloc (.cells (W.cellsOf (List.replicate t.size 0)).toArray 5 (0, 0)))) := fun wx => makeB t.size (by omega) wx
  generalize C.turnL s.data.toList m t.data.toList = R at *
  generalize C.streamL s.data.toList m t.size = X at *
  clear hsl hs
  generalize hz : List.replicate t.size (0 : UInt8) = Z at *
  have HZL : Hid (Z.length = t.size) := by show _ = _; rw [← hz]; simp
  clear hz
  go_enter Tryz.func26, Tryz.ntmps26
  go_wp2_with fail
  refine (CS.out _).mono ?_
  rintro e w1 ⟨rfl, b1⟩
  have hmk := HMK.out
  have r0 := Row.new' (w := w1) (t := 5) (l := W.cellsOf Z) rfl rfl
  have hb0 := b1.alloc b1.size (.cells (W.cellsOf Z).toArray 5 (0, 0))
  have hg1 : w.heap.size ≤ w1.heap.size := b1.size
  go_wp2
  clear hmk HMK CS b1
  go_loopw [9] (fun iv wq => ∃ i : Nat, i ≤ t.size ∧ iv = .int .i64 i ∧ Row wq w1.heap.size 5 (W.cellsOf (E.fill R Z i)) ∧ Below w.heap.size w wq) (fun iv _ => t.size - (intOf iv).toNat)
  case atStart => exact ⟨0, Nat.zero_le _, rfl, by rw [E.fill_zero]; exact r0, hb0⟩
  case round =>
    clear r0 hb0
    obtain ⟨i, hi, rfl, rR, hb⟩ := hrel
    have hF : R.length = Z.length := by rw [HTL.out, HZL.out]
    by_cases hlt : i < t.size
    · have hsi : (i : Int) < (t.size : Int) := by omega
      have hsi0 : (0 : Int) ≤ (i : Int) := by omega
      have I1 := Lib.hid (fun wx => HTI.out i wx hlt)
      have I2 := Lib.hid (fun wx => HSI.out i wx hlt)
      have cb := (rR.cell i).trans (c8_at (by rw [E.fill_length hF, HZL.out]; exact hlt))
      have fb := rR.frozen i
      have hx := xor8 (t.data.toList.getD i 0) (X.getD i 0)
      rw [HX.out i hlt] at hx
      have rR' := rR.set i (.int .u8 ((R.getD i 0).toNat : Int))
      rw [c8_set, E.fill_step hF (by rw [HZL.out]; exact hlt)] at rR'
      generalize R.getD i 0 = z at *
      generalize t.data.toList.getD i 0 = a at *
      generalize X.getD i 0 = b at *
      clear hF
      go_wp2_with fail
      refine wp_region_held_drew (S := fun w' => True) (by kernel_rfl) trivial (fun hHeld => ?_)
      refine take_d 0 (some 24) (.slice (some ⟨w1.heap.size, 0, none⟩) t.size t.size) rfl (by kernel_rfl) (by kernel_rfl) (by kernel_rfl) (fun _ _ _ h => h) (fun oi h => by cases h; exact Or.inl ⟨by rfl, fun w' hS' => by go_simp⟩) hHeld ?_
      try simp only [Act.put, List.setIfInBounds_toArray, List.set_cons_zero, List.set_cons_succ]
      refine take_d 1 (some 25) (.int .i64 (i : Int)) rfl (by kernel_rfl) (by kernel_rfl) (by kernel_rfl) (fun _ _ _ h => h) (fun oi h => by cases h; exact Or.inl ⟨by rfl, fun w' hS' => by go_simp⟩) hHeld ?_
      try simp only [Act.put, List.setIfInBounds_toArray, List.set_cons_zero, List.set_cons_succ]
      refine take_d 2 (some 26) (.string t) rfl (by kernel_rfl) (by kernel_rfl) (by kernel_rfl) (fun _ _ _ h => h) (fun oi h => by cases h; exact Or.inl ⟨by rfl, fun w' hS' => by go_simp⟩) hHeld ?_
      try simp only [Act.put, List.setIfInBounds_toArray, List.set_cons_zero, List.set_cons_succ]
      refine take_d 3 (some 27) (.int .i64 (i : Int)) rfl (by kernel_rfl) (by kernel_rfl) (by kernel_rfl) (fun _ _ _ h => h) (fun oi h => by cases h; exact Or.inl ⟨by rfl, fun w' hS' => by go_simp⟩) hHeld ?_
      try simp only [Act.put, List.setIfInBounds_toArray, List.set_cons_zero, List.set_cons_succ]
      refine take_d 4 (some 28) (.int .u8 (a.toNat : Int)) rfl (by kernel_rfl) (by kernel_rfl) (by kernel_rfl) (fun _ _ _ h => h) (fun oi h => by cases h; exact Or.inl ⟨by rfl, fun w' hS' => by have c := I1.out w'; go_simp⟩) hHeld ?_
      try simp only [Act.put, List.setIfInBounds_toArray, List.set_cons_zero, List.set_cons_succ]
      refine take_d 5 (some 29) (.string ⟨X.toArray⟩) rfl (by kernel_rfl) (by kernel_rfl) (by kernel_rfl) (fun _ _ _ h => h) (fun oi h => by cases h; exact Or.inl ⟨by rfl, fun w' hS' => by go_simp⟩) hHeld ?_
      try simp only [Act.put, List.setIfInBounds_toArray, List.set_cons_zero, List.set_cons_succ]
      refine take_d 6 (some 30) (.int .i64 (i : Int)) rfl (by kernel_rfl) (by kernel_rfl) (by kernel_rfl) (fun _ _ _ h => h) (fun oi h => by cases h; exact Or.inl ⟨by rfl, fun w' hS' => by go_simp⟩) hHeld ?_
      try simp only [Act.put, List.setIfInBounds_toArray, List.set_cons_zero, List.set_cons_succ]
      refine take_d 7 (some 31) (.int .u8 (b.toNat : Int)) rfl (by kernel_rfl) (by kernel_rfl) (by kernel_rfl) (fun _ _ _ h => h) (fun oi h => by cases h; exact Or.inl ⟨by rfl, fun w' hS' => by have c := I2.out w'; go_simp⟩) hHeld ?_
      try simp only [Act.put, List.setIfInBounds_toArray, List.set_cons_zero, List.set_cons_succ]
      refine take_d 8 (some 32) (.int .u8 (z.toNat : Int)) rfl (by kernel_rfl) (by kernel_rfl) (by kernel_rfl) (fun _ _ _ h => h) (fun oi h => by cases h; exact Or.inl ⟨by rfl, fun w' hS' => by go_simp⟩) hHeld ?_
      try simp only [Act.put, List.setIfInBounds_toArray, List.set_cons_zero, List.set_cons_succ]
      refine take_d 9 (some 33) (.pointer (some ⟨w1.heap.size, i, none⟩)) rfl (by kernel_rfl) (by kernel_rfl) (by kernel_rfl) (fun _ _ _ h => h) (fun oi h => by cases h; exact Or.inl ⟨by rfl, fun w' hS' => by go_simp⟩) hHeld ?_
      try simp only [Act.put, List.setIfInBounds_toArray, List.set_cons_zero, List.set_cons_succ]
      refine one_d 10 none rfl (by kernel_rfl) ?_
      intro o ho' hd K' hK
      cases ho'
      go_simp
      refine hK.out _ _ trivial (fun hHeld => ?_)
      clear hK K' hHeld hd
      refine wpAnyH_done (by kernel_rfl) ?_ _
      try simp only [Act.put]
      go_wp2
      go_roundw
      case rel => exact ⟨i + 1, by omega, by go_num, rR'.drew, (hb.setCell (by simp; omega) _).drew⟩
      case measure => simp [intOf]; omega
    · obtain rfl : i = t.size := by omega
      have hsi : ¬ (t.size : Int) < (t.size : Int) := by omega
      rw [E.fill_full (n := t.size) HTL.out HZL.out] at rR
      have hcv := rowText (n := t.size) HTL.out.symm rR
      clear hF
      go_wp2
      go_ret
      exact ⟨rfl, hb⟩

end Go.Proofs.YtjkaignfomlflaaGreat
