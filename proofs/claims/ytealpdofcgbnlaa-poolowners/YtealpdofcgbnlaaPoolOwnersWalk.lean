/-
  Layer 8: PoolOwners, the walk.
-/
import Derived.Test.YtealpdofcgbnlaaPFills
import Derived.Test.YtealpdofcgbnlaaPStrs
import Derived.Test.YtealpdofcgbnlaaShelf
namespace Go.Proofs.Ytealpdofcgbnlaa.PoolOwnersW
open Go.RowKit
set_option linter.unusedVariables false

theorem repeatL_zero (n : Nat) : Lib.repeatL [0] n = List.replicate n (0 : UInt8) := by
  induction n with
  | zero => rfl
  | succ n ih => rw [List.replicate_succ, ← ih]; rfl
theorem arr_toList (s : ByteArray) : (⟨s.data.toList.toArray⟩ : ByteArray) = s := by cases s; simp

set_option maxRecDepth 20000 in
set_option maxHeartbeats 4000000 in
theorem core (a0 : Int) (q : Nat) (a1 : Option Addr) (len1 cap1 : Nat) (z1 : Nat → ByteArray) (w : World) (h0 : 0 ≤ a0 ∧ a0 ≤ 255) (hq : a0 % 4 = (q : Int)) (hlen : len1 ≤ 20) (w1 : InStrs w a1 len1 cap1 z1) :
    Calls Try.prog 4 #[.int .u8 a0, .slice a1 len1 cap1] w fun e w' => e = .returned (.bool true) ∧ Below w.heap.size w w' := by
  have hq4 : q < 4 := by omega
  have htm : a0.tmod 4 = (q : Int) := by rw [Int.tmod_eq_emod_of_nonneg h0.1]; exact hq
  have g3 : ¬ (20 : Int) < len1 := by omega
  obtain ⟨_, _, hin⟩ := w1
  have HIN := Lib.hid hin
  clear hin hq h0
  have C0 := Lib.hid (awake8_any w)
  go_enter Try.func4, Try.ntmps4
  go_wp2_with fail
  refine C0.out.mono ?_
  rintro e wa ⟨rfl, ba⟩
  clear C0
  have CN := Lib.hid (poolNew_yes (1 + q) wa (by omega) (by omega))
  rw [show ((1 + q : Nat) : Int) = 1 + (q : Int) from by omega] at CN
  have hsa := ba.size
  go_wp2_with fail
  refine CN.out.mono ?_
  rintro e wb ⟨rfl, pb, bb⟩
  have bw : Below w.heap.size w wb := ba.trans (bb.mono hsa)
  obtain ⟨B, hB⟩ : ∃ B, B = wa.heap.size := ⟨_, rfl⟩
  have HB : Hid (w.heap.size ≤ B) := by rw [hB]; exact hsa
  obtain ⟨n, hn⟩ : ∃ n, n = 1 + q := ⟨_, rfl⟩
  obtain ⟨T, hT⟩ : ∃ T : List (Option (List UInt8)), none :: T = List.replicate n none := ⟨List.replicate q none, by rw [hn, Nat.add_comm]; rfl⟩
  rw [← hn, ← hT, ← hB] at pb
  rw [← hB]
  have HT : Hid ((P8.heldTo (none :: T) n).length = 0) := by
    show _ = _
    rw [hT, ← P8.filled_zero, P8.held_filled (Nat.zero_le _)]
  have hn1 : 0 < n := by omega
  have HN : Hid ((n : Int) = 1 + (q : Int)) := by show _ = _; omega
  obtain ⟨Z, hZ⟩ : ∃ Z : ByteArray, Z = ⟨(List.replicate 512 (0 : UInt8)).toArray⟩ := ⟨_, rfl⟩
  have CR : Hid (∀ wx, Calls Try.prog 20 #[.string ⟨#[0]⟩, .int .i64 512] wx fun e w' => e = .returned (.string Z) ∧ Below wx.heap.size wx w') := fun wx => by
    have := Try.strings_Repeat ⟨#[0]⟩ 512 wx (by omega) (by show 1 * 512 ≤ _; omega)
    rw [show (⟨#[0]⟩ : ByteArray).data.toList = [0] from rfl, repeatL_zero, ← hZ] at this
    exact this
  have CW : Hid (∀ wx ev, P8.PoolAt wx B n (some [] :: T) ev → Calls Try.prog 19 #[.pointer (some ⟨B + 1, 0, none⟩), .int .i64 0] wx fun e w' => e = .returned (.string Z) ∧ w' = wx) := fun wx ev h => by
    have := raw_yes B n 0 _ _ wx h hn1
    rw [show ((some [] :: T).getD 0 none).getD [] = ([] : List UInt8) from rfl, pad0, ← hZ] at this
    exact this
  clear CN bb ba hsa hB hT hn hZ g3
  go_wp2
  go_loopw [8, 9, 10, 11, 12, 34] (fun _ _ _ _ _ kv wr => ∃ k : Nat, k ≤ len1 ∧ kv = .int .i64 k ∧ P8.PoolAt wr B n (none :: T) k ∧ Below w.heap.size w wr) (fun _ _ _ _ _ kv _ => len1 - (intOf kv).toNat)
  case atStart => exact ⟨0, Nat.zero_le _, rfl, pb, bw⟩
  case round =>
    clear pb bw
    obtain ⟨k, hk, rfl, pr, br⟩ := hrel
    by_cases hlt : k < len1
    · have hs : (k : Int) < len1 := by omega
      obtain ⟨bk, off, rfl, hbk, hcell⟩ := HIN.out (by omega)
      obtain ⟨hc1, hc2⟩ := hcell k hlt
      have cb := (br.cell (p := ⟨bk, off + k, none⟩) hbk).trans hc1
      clear hcell hc1 HIN
      generalize z1 k = s at *
      by_cases hsz : s.size ≤ 512
      · have hsi : ¬ (512 : Int) < s.size := by omega
        have HS := Lib.hid hsz
        clear hsz hc2
        have C1 := Lib.hid (get_yes B n 0 (none :: T) k ⟨#[]⟩ wr pr (by decide) hn1 rfl (by omega))
        go_wp2_with fail
        refine C1.out.mono ?_
        rintro e wc ⟨rfl, pc, oc, zc⟩
        replace pc : P8.PoolAt wc B n (some [] :: T) (k + 1) := pc
        have bc := br.trans (oc.belowB br.size HB.out)
        clear C1 oc zc pr br cb
        go_wp2_with fail
        refine (CW.out _ _ pc).mono ?_
        rintro e wc ⟨rfl, rfl⟩
        go_wp2_with fail
        refine (CR.out _).mono ?_
        rintro e wd ⟨rfl, bd⟩
        have pd := pc.below bd pc.fits
        have bd' := bc.trans (bd.mono bc.size)
        clear bd pc bc
        have C2 := Lib.hid (write_yes B n 0 s (some [] :: T) (k + 1) wd pd hn1 rfl HS.out)
        go_wp2_with fail
        refine C2.out.mono ?_
        rintro e we ⟨rfl, pe, oe, ze⟩
        replace pe : P8.PoolAt we B n (some s.data.toList :: T) (k + 1) := pe
        have be := bd'.trans (oe.belowB bd'.size HB.out)
        clear C2 oe ze pd bd'
        have C3 := Lib.hid (read_yes B n 0 s.data.toList (some s.data.toList :: T) (k + 1) we pe hn1 rfl)
        rw [arr_toList] at C3
        go_wp2_with fail
        refine C3.out.mono ?_
        rintro e _ ⟨rfl, rfl⟩
        have pf := pe.drew
        have bf := be.drew
        clear C3 pe be
        generalize we.drew = wf at *
        have C4 := Lib.hid (put_yes B n 0 (some s.data.toList :: T) (k + 1) wf pf hn1 rfl)
        go_wp2_with fail
        refine C4.out.mono ?_
        rintro e wg ⟨rfl, pg, og, zg⟩
        replace pg : P8.PoolAt wg B n (none :: T) (k + 1) := pg
        have bg := bf.trans (og.belowB bf.size HB.out)
        clear C4 og zg pf bf
        have C5 := Lib.hid (put_no B n (0 : Int) (none :: T) (k + 1) wg pg (fun h => by have := h.2.2; cases this))
        go_wp2_with fail
        refine C5.out.mono ?_
        rintro e wg ⟨rfl, rfl⟩
        clear C5
        go_wp2
        go_roundw
        case rel => exact ⟨k + 1, by omega, by go_num, pg, bg⟩
        case measure => simp [intOf]; omega
      · have hsi : (512 : Int) < s.size := by omega
        clear hsz hc2
        go_wp2
        go_ret
        exact ⟨rfl, br⟩
    · obtain rfl : k = len1 := by omega
      have hs : ¬ (k : Int) < k := by omega
      have C1 := Lib.hid (free_any B n (none :: T) k wr pr)
      rw [HT.out, Nat.sub_zero, HN.out] at C1
      go_wp2_with fail
      refine C1.out.mono ?_
      rintro e wc ⟨rfl, bc⟩
      have pc := pr.below bc pr.fits
      have bc' := br.trans (bc.mono br.size)
      clear C1 bc pr br
      have C2 := Lib.hid (ever_any B n (none :: T) k wc pc)
      go_wp2_with fail
      refine C2.out.mono ?_
      rintro e wc ⟨rfl, rfl⟩
      clear C2
      go_wp2
      go_ret
      exact ⟨rfl, bc'⟩

set_option maxRecDepth 20000 in
set_option maxHeartbeats 4000000 in
theorem walk (a0 : Int) (a1 : Option Addr) (len1 cap1 : Nat) (z1 : Nat → ByteArray) (w : World) (w0 : (Lit.int .u8 a0).wf = true) (w1 : InStrs w a1 len1 cap1 z1) :
    Calls Try.prog 4 #[.int .u8 a0, .slice a1 len1 cap1] w fun e w' => e = .returned (.bool true) ∧ Below w.heap.size w w' := by
  have h0 := Go.bounds_u8 w0
  obtain ⟨q, hq⟩ : ∃ q : Nat, a0 % 4 = (q : Int) := ⟨(a0 % 4).toNat, by omega⟩
  by_cases h : len1 ≤ 20
  · exact core a0 q a1 len1 cap1 z1 w h0 hq h w1
  · have htm : a0.tmod 4 = (q : Int) := by rw [Int.tmod_eq_emod_of_nonneg h0.1]; exact hq
    have hq4 : q < 4 := by omega
    have g3 : (20 : Int) < len1 := by omega
    have C0 := Lib.hid (awake8_any w)
    clear w1 w0 hq h0 h
    go_enter Try.func4, Try.ntmps4
    go_wp2_with fail
    refine C0.out.mono ?_
    rintro e wa ⟨rfl, ba⟩
    clear C0
    have CN := Lib.hid (poolNew_yes (1 + q) wa (by omega) (by omega))
    rw [show ((1 + q : Nat) : Int) = 1 + (q : Int) from by omega] at CN
    have hsa := ba.size
    go_wp2_with fail
    refine CN.out.mono ?_
    rintro e wb ⟨rfl, pb, bb⟩
    have bw : Below w.heap.size w wb := ba.trans (bb.mono hsa)
    clear CN pb bb ba hsa
    go_wp2
    go_ret
    exact ⟨rfl, bw⟩

end Go.Proofs.Ytealpdofcgbnlaa.PoolOwnersW
