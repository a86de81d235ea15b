/-
  Layer 3: the document's own Text.
-/
import Derived.Test.YtmpmgkdcbbefpaaRStep
import Derived.Test.YtmpmgkdcbbefpaaRPad
namespace Go.Proofs.Ytmpmgkdcbbefpaa
open Go.RowKit
set_option linter.unusedVariables false

theorem make32 (w : World) : (Instr.makeSlice 30 (.int .i64 32) (.int .i64 32)).run Try.prog w = .ok (.slice (some ⟨w.heap.size, 0, none⟩) 32 32) (w.alloc (.cells (W.cellsOf (List.replicate 32 0)).toArray 5 (0, 0))) := by kernel_rfl

theorem bytesOf_at : ∀ (h : List Nat) (k : Nat), k < 4 * h.length → (S.bytesOf h)[k]? = some (UInt8.ofNat (h.getD (k / 4) 0 / 256 ^ (3 - k % 4)))
  | [], k, hk => by simp at hk
  | x :: t, k, hk => by
    by_cases h4 : k < 4
    · have hc : k = 0 ∨ k = 1 ∨ k = 2 ∨ k = 3 := by omega
      rcases hc with rfl | rfl | rfl | rfl <;> rfl
    · obtain ⟨k', rfl⟩ : ∃ k', k = k' + 4 := ⟨k - 4, by omega⟩
      rw [show S.bytesOf (x :: t) = W.putL x 4 ++ S.bytesOf t from rfl, List.getElem?_append_right (by rw [W.putL_length]; omega), W.putL_length, Nat.add_sub_cancel, bytesOf_at t k' (by simp at hk; omega), show (k' + 4) / 4 = k' / 4 + 1 from by omega, show (k' + 4) % 4 = k' % 4 from by omega]
      rfl
theorem bytesOf_length : ∀ (h : List Nat), (S.bytesOf h).length = 4 * h.length
  | [] => rfl
  | x :: t => by
    rw [show S.bytesOf (x :: t) = W.putL x 4 ++ S.bytesOf t from rfl, List.length_append, W.putL_length, bytesOf_length t]
    simp; omega

/-- So many bytes already laid into a fresh row. -/
def outRow (l : List UInt8) (k : Nat) : List UInt8 := l.take k ++ List.replicate (32 - k) 0
theorem outRow_length (l : List UInt8) (hl : l.length = 32) (k : Nat) (hk : k ≤ 32) : (outRow l k).length = 32 := by simp [outRow, hl]; omega
theorem outRow_step (l : List UInt8) (hl : l.length = 32) (k : Nat) (hk : k < 32) (c : UInt8) (hc : l[k]? = some c) : (outRow l k).set k c = outRow l (k + 1) := by
  have h1 : (l.take k).length = k := by simp; omega
  have h2 : l[k] = c := by rw [List.getElem?_eq_getElem (by omega)] at hc; exact Option.some.inj hc
  unfold outRow
  rw [List.set_append_right _ _ (by omega), h1, Nat.sub_self, show 32 - k = (32 - (k + 1)) + 1 from by omega, List.replicate_succ, List.set_cons_zero, List.take_succ_eq_append_getElem (i := k) (by omega), h2, List.append_assoc]
  simp
theorem outRow_full (l : List UInt8) (hl : l.length = 32) : outRow l 32 = l := by simp [outRow, hl, List.take_of_length_le]
theorem cellsOf_put (l : List UInt8) (k : Nat) (c : UInt8) : (W.cellsOf l).set k (.int .u8 (c.toNat : Int)) = W.cellsOf (l.set k c) := by simp [W.cellsOf, List.map_set]

theorem rowBack {w : World} {g : Nat} {l : List UInt8} {n : Nat} (hn : n = l.length) (h : Row w g 5 (W.cellsOf l)) : (convert 30 9 (.slice (some ⟨g, 0, none⟩) n n)).run Try.prog w = .ok (.string ⟨l.toArray⟩) w := by
  subst hn
  exact run_convert_bytes_back (P := Try.prog) w 30 9 5 ⟨g, 0, none⟩ l.length l Try.underlying30 Try.underlying5 Try.underlying9 (fun t ht => by
    have e : (⟨g, 0, none⟩ : Addr).add t = ⟨g, t, none⟩ := by unfold Addr.add; split <;> simp_all
    rw [e, h.cell]
    simp [W.cellsOf, ht])

set_option maxHeartbeats 2000000 in
theorem refText_any (s : ByteArray) (hs : s.size ≤ 1000000) (w : World) :
    Calls Try.prog 15 #[.string s] w fun e w' => e = .returned (.string ⟨(S.sumL s.data.toList).toArray⟩) ∧ Below w.heap.size w w' := by
  obtain ⟨m, hm⟩ : ∃ m, m = s.data.toList := ⟨_, rfl⟩
  have hml : m.length = s.size := by rw [hm]; simp
  have hpl := S.padL_length m
  have hpm := S.padL_mod m
  have hno := S.noughts_le m.length
  obtain ⟨N, hN⟩ : ∃ N, N = (S.padL m).length / 64 := ⟨_, rfl⟩
  have hpl2 : (S.padL m).length = 64 * N := by omega
  have hNb : N ≤ 20000 := by omega
  obtain ⟨p, hp⟩ : ∃ p : ByteArray, p = ⟨(S.padL m).toArray⟩ := ⟨_, rfl⟩
  have hpd : p.data.toList = S.padL m := by rw [hp]
  have hps : p.size = 64 * N := by rw [hp]; simp [ByteArray.size]; exact hpl2
  have HM := Lib.hid hm
  have HP := Lib.hid hp
  have HPD := Lib.hid hpd
  have HSZ := Lib.hid hps
  have HNN := Lib.hid hN
  rw [← hm]
  have mk32 := make32
  clear hpl hpm hno hN hpl2 hp hpd hps hml hm
  go_enter Try.func15, Try.ntmps15
  go_wp2_with fail
  refine (refPad_any s hs _).mono ?_
  rintro e w1 ⟨rfl, b1⟩
  rw [← HM.out, ← HP.out]
  go_wp2_with fail
  refine (refStart_any _).mono ?_
  rintro e w2 ⟨rfl, rs, b2⟩
  have b2' := b1.trans (b2.mono b1.size)
  clear b1 b2
  obtain ⟨g0, hg0⟩ : ∃ g0, g0 = w1.heap.size := ⟨_, rfl⟩
  rw [← hg0] at rs ⊢
  clear hg0
  go_wp2
  go_loopw [4, 5] (fun hv av wx => ∃ gh k : Nat, k ≤ N ∧ av = .int .i64 ((64 * k : Nat) : Int) ∧ hv = .slice (some ⟨gh, 0, none⟩) 8 8 ∧ Row wx gh 32 (u32s (S.blocks (S.padL m) S.start k)) ∧ Below w.heap.size w wx) (fun _ av _ => 64 * N - (intOf av).toNat)
  case atStart => exact ⟨g0, 0, Nat.zero_le _, rfl, rfl, rs, b2'⟩
  case round =>
    clear rs b2'
    obtain ⟨gh, k, hk, rfl, rfl, r4, hb⟩ := hrel
    have l8 : (S.blocks (S.padL m) S.start k).length = 8 := S.blocks_length S.start_length k
    have o8 : S.Ok (S.blocks (S.padL m) S.start k) := S.blocks_ok S.start_ok k
    by_cases hlt : k < N
    · have HBS : Hid (S.blocks (S.padL m) S.start (k + 1) = S.stepL (S.blocks (S.padL m) S.start k) (((S.padL m).drop (64 * k)).take 64)) := rfl
      obtain ⟨n, hn⟩ : ∃ n, n = 64 * k := ⟨_, rfl⟩
      have ex : (p.extract n (n + 64)).data.toList = ((S.padL m).drop (64 * k)).take 64 := by
        rw [ByteArray.data_extract]
        simp only [Array.toList_extract, List.extract_eq_take_drop]
        rw [show n + 64 - n = 64 from by omega, HPD.out, hn]
      have es : (p.extract n (n + 64)).size = 64 := by rw [ByteArray.size_extract, HSZ.out]; omega
      rw [← ex] at HBS
      have cS := fun w r => refStep_any gh (S.blocks (S.padL m) S.start k) (p.extract n (n + 64)) l8 o8 es w r
      rw [← HBS.out] at cS
      have CS := Lib.hid cS
      rw [← hn]
      have hlt2 : (n : Int) < (p.size : Int) := by rw [HSZ.out]; omega
      have hle2 : (n : Int) + 64 ≤ (p.size : Int) := by rw [HSZ.out]; omega
      have hnb : n ≤ 2000000 := by omega
      have HNK := Lib.hid hn
      clear cS hn ex es HBS l8 o8
      go_wp2_with fail
      refine (CS.out _ r4).mono ?_
      rintro e w3 ⟨g3, rfl, r3, b3⟩
      have hb3 : Below w.heap.size w w3 := hb.trans (b3.mono hb.size)
      clear b3 CS
      go_wp2
      go_roundw
      case rel => exact ⟨g3, k + 1, by omega, by rw [HNK.out]; go_num, rfl, r3, hb3⟩
      case measure => have := HNK.out; simp [intOf]; omega
    · obtain rfl : k = N := by omega
      have hout : S.bytesOf (S.blocks (S.padL m) S.start k) = S.sumL m := by unfold S.sumL S.wordsOf; rw [← HNN.out]
      have HO := Lib.hid hout
      generalize S.blocks (S.padL m) S.start k = h at *
      obtain ⟨l, hl⟩ : ∃ l, l = S.bytesOf h := ⟨_, rfl⟩
      have hll : l.length = 32 := by rw [hl, bytesOf_length, l8]
      have hat := bytesOf_at h
      rw [← hl] at hat HO
      rw [l8] at hat
      have HAT := Lib.hid hat
      have HLL := Lib.hid hll
      have L8 := Lib.hid l8
      have hps : (p.size : Int) = ((64 * k : Nat) : Int) := by rw [HSZ.out]
      obtain ⟨go, hgo⟩ : ∃ go, go = wr.heap.size := ⟨_, rfl⟩
      have za : gh < go := by rw [hgo]; exact r4.lt
      have zo : w.heap.size ≤ go := by rw [hgo]; exact hb.size
      have ro0 : Row (wr.alloc (.cells (W.cellsOf (List.replicate 32 0)).toArray 5 (0, 0))) go 5 (W.cellsOf (outRow l 0)) := Row.new' rfl hgo
      have rh0 := r4.alloc (.cells (W.cellsOf (List.replicate 32 0)).toArray 5 (0, 0))
      have bl0 := hb.alloc hb.size (.cells (W.cellsOf (List.replicate 32 0)).toArray 5 (0, 0))
      clear hat hll l8 hl hout r4
      go_wp2
      rw [← hgo]
      clear hgo hb
      go_loopw [7] (fun iv wx => ∃ i : Nat, i ≤ 32 ∧ iv = .int .i64 i ∧ Row wx gh 32 (u32s h) ∧ Row wx go 5 (W.cellsOf (outRow l i)) ∧ Below w.heap.size w wx) (fun iv _ => 32 - (intOf iv).toNat)
      case atStart => exact ⟨0, Nat.zero_le _, rfl, rh0, ro0, bl0⟩
      case round =>
        clear rh0 ro0 bl0
        obtain ⟨i, hi, rfl, rh, ro, hb⟩ := hrel
        by_cases hlt : i < 32
        · obtain ⟨d, hd⟩ : ∃ d, d = i / 4 := ⟨_, rfl⟩
          obtain ⟨r, hr⟩ : ∃ r, r = i % 4 := ⟨_, rfl⟩
          have ch := (rh.cell d).trans (u32s_at (by rw [L8.out]; omega))
          have co := (ro.cell i).trans (cellsOf_at (by rw [outRow_length l HLL.out i hi]; exact hlt))
          have fo := ro.frozen i
          have hat := HAT.out i (by omega)
          rw [← hd, ← hr] at hat
          have hox := o8.getD d
          generalize h.getD d 0 = x at ch hat hox
          have HST := Lib.hid (outRow_step l HLL.out i hlt _ hat)
          obtain ⟨q, hq⟩ : ∃ q, q = 24 - 8 * r := ⟨_, rfl⟩
          have e1 : (i : Int) / 4 = (d : Int) := by omega
          have e2 : (i : Int) % 4 = (r : Int) := by omega
          have e3 : (24 : Int) - 8 * (r : Int) = (q : Int) := by omega
          have bd : (d : Int) < 8 := by omega
          have bi : (i : Int) < 32 := by omega
          have HD := Lib.hid hd
          have HRR := Lib.hid hr
          have HQ := Lib.hid hq
          have hq24 : q ≤ 24 := by omega
          clear hat hd hr hq
          go_wp2
          go_roundw
          case rel =>
            refine ⟨i + 1, by omega, by go_num, rh.other (by omega) _, ?_, hb.setCell (by simp; omega) _⟩
            rw [← HST.out, ← cellsOf_put]
            have ev : ((x : Int) / 2 ^ q) % 256 = ((UInt8.ofNat (x / 256 ^ (3 - r))).toNat : Int) := by
              rw [HQ.out, show 24 - 8 * r = 8 * (3 - r) from by omega, byte_at, UInt8.toNat_ofNat']
            rw [ev]
            exact ro.set i _
          case measure => simp [intOf]; omega
        · obtain rfl : i = 32 := by omega
          rw [outRow_full l HLL.out] at ro
          have hback := rowBack (n := 32) HLL.out.symm ro
          go_wp2
          go_ret
          exact ⟨by rw [HO.out]; rfl, hb⟩

end Go.Proofs.Ytmpmgkdcbbefpaa
