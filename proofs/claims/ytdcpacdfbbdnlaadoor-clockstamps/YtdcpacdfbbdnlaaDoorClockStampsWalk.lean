/-
  Layer 14: ClockStamps, the walk: any tick's stamp; how long ago any stamp was; the mean of any numbers.
-/
import Derived.Test.YtdcpacdfbbdnlaaDoorUMean
namespace Go.Proofs.YtdcpacdfbbdnlaaDoor.ClockStampsW
open Go.RowKit
set_option linter.unusedVariables false
set_option maxRecDepth 20000
set_option linter.unusedSimpArgs false
set_option maxRecDepth 20000

set_option maxHeartbeats 8000000 in
theorem core (now st : Nat) (a0 : Option Addr) (len cap0 : Nat) (f : Nat → Nat) (w : World) (ht : Tab w) (hp : Pow10T w) (hU : InU w a0 len f) (hnow : now ≤ 18446744073709551615) (hst : st < 65536) (hlen : len ≤ 9223372036854775807) :
    Calls Tryd.prog 4 #[.int .u64 (now : Int), .int .u16 (st : Int), .slice a0 len cap0] w fun e w' => e = .returned (.bool true) ∧ Below w.heap.size w w' := by
  have HU := Lib.hid hU
  clear hU
  by_cases h3 : len ≤ 100
  · have g1 : ¬ (100 : Int) < len := by omega
    go_enter Tryd.func4, Tryd.ntmps4
    go_wp2_with fail
    refine (awake14_any w ht hp).mono ?_
    rintro e wa ⟨rfl, bb⟩
    clear ht hp
    have HU2 := Lib.hid (HU.out.below bb)
    clear HU
    obtain ⟨ago, hago⟩ : ∃ ago, ago = (now % 65536 + 65536 - st) % 65536 := ⟨_, rfl⟩
    obtain ⟨s0, hs0⟩ : ∃ s0, s0 = now % 65536 := ⟨_, rfl⟩
    have CP : Hid (∀ wx, Calls Tryd.prog 13 #[.int .u64 (now : Int)] wx fun e w' => e = .returned (.int .u16 (s0 : Int)) ∧ Below wx.heap.size wx w') := fun wx => by rw [hs0]; exact stamp_any now wx
    have CA : Hid (∀ wx, Calls Tryd.prog 12 #[.int .u64 (now : Int), .int .u16 (st : Int)] wx fun e w' => e = .returned (.int .u64 (ago : Int)) ∧ Below wx.heap.size wx w') := fun wx => by rw [hago]; exact since14_any now st hst wx
    have CR : Hid (∀ wx, Calls Tryd.prog 14 #[.int .u64 (now : Int), .int .u16 (st : Int)] wx fun e w' => e = .returned (.int .u64 (ago : Int)) ∧ Below wx.heap.size wx w') := fun wx => by rw [hago]; exact refSince14_any now st hnow hst wx
    have CA0 : Hid (∀ wx, Calls Tryd.prog 12 #[.int .u64 (now : Int), .int .u16 (s0 : Int)] wx fun e w' => e = .returned (.int .u64 0) ∧ Below wx.heap.size wx w') := fun wx => by
      have := since14_any now s0 (by omega) wx
      rw [show (now % 65536 + 65536 - s0) % 65536 = 0 by omega] at this
      exact this
    have K1 : Hid (IntKind.u16.wrap (now : Int) = (s0 : Int)) := by show _ = _; rw [IntKind.wrap_u16]; omega
    have K2 : Hid (∀ _ : Unit, decide ((65536 : Int) ≤ (ago : Int)) = false) := fun _ => decide_eq_false (by omega)
    have K3 : Hid (∀ _ : Unit, decide ((ago : Int) < 65536) = true) := fun _ => decide_eq_true (by omega)
    have HA : Hid (∀ (k : Nat) (wx : World), (binOp .add 34 (.float .f64 (R.sumF f k)) (.float .f64 (floatOfInt .f64 ((f k : Nat) : Int)))).run Tryd.prog wx = .ok (.float .f64 (R.sumF f (k + 1))) wx) := fun k wx => run_float_arith wx .add 34 .f64 _ _ _ (R.sumF_step f k)
    clear hago hs0 hnow hst hlen
    go_wp2
    go_loopw [7, 19] (fun sv iv wr => ∃ (k s : Nat), k ≤ len ∧ iv = .int .i64 (k : Int) ∧ sv = .float .f64 s ∧ Hid (s = R.sumF f k) ∧ wr = wa) (fun _ iv _ => len - (intOf iv).toNat)
    case atStart => exact ⟨0, 0, Nat.zero_le _, rfl, rfl, rfl, rfl⟩
    case round =>
      obtain ⟨k, s, hk, rfl, rfl, HS, rfl⟩ := hrel
      by_cases hlt : k < len
      · have hs : (k : Int) < len := by omega
        obtain ⟨bk, off, rfl, hbk, hcell⟩ := HU2.out (by omega)
        obtain ⟨htb, c0⟩ := hcell k hlt
        have ha := HA.out k
        rw [← HS.out] at ha
        obtain ⟨s', hs'⟩ : ∃ s', s' = R.sumF f (k + 1) := ⟨_, rfl⟩
        rw [← hs'] at ha
        have HS' := Lib.hid hs'
        generalize f k = x at *
        clear hs' hcell HS
        go_wp2
        go_roundw
        case rel => exact ⟨k + 1, s', by omega, by go_num, rfl, HS'.out, by first | rfl | trivial⟩
        case measure => simp [intOf]; omega
      · have hkl : k = len := by omega
        have hs : ¬ (k : Int) < len := by omega
        have HSL : Hid (s = R.sumF f len) := by rw [← hkl]; exact HS.out
        clear hkl HS HA
        by_cases h0 : len = 0
        · subst h0
          have CI : Hid (∀ wx, Calls Tryd.prog 15 #[.float .f64 9221120237041090561] wx fun e w' => e = .returned (.bool true) ∧ w' = wx) := fun wx => by
            have := isNaN_any 9221120237041090561 wx
            rw [show R.nan 9221120237041090561 = true by decide +kernel] at this
            exact this
          clear HSL HU2
          go_wp2_with fail
          refine (mean_none a0 cap0 _).mono ?_
          rintro e v1 ⟨rfl, b1⟩
          replace bb := bb.trans (b1.mono bb.size)
          clear b1
          go_wp2_with fail
          refine (CA.out _).mono ?_
          rintro e v2 ⟨rfl, b2⟩
          replace bb := bb.trans (b2.mono bb.size)
          clear b2
          go_wp2_with fail
          refine (CP.out _).mono ?_
          rintro e v3 ⟨rfl, b3⟩
          replace bb := bb.trans (b3.mono bb.size)
          have k1 := K1.out
          clear b3
          go_wp2_with fail
          refine (CR.out _).mono ?_
          rintro e v4 ⟨rfl, b4⟩
          replace bb := bb.trans (b4.mono bb.size)
          clear b4 k1
          have k2 := K3.out ()
          go_wp2_with fail
          clear k2
          refine (CP.out _).mono ?_
          rintro e v5 ⟨rfl, b5⟩
          replace bb := bb.trans (b5.mono bb.size)
          clear b5
          go_wp2_with fail
          refine (CA0.out _).mono ?_
          rintro e v6 ⟨rfl, b6⟩
          replace bb := bb.trans (b6.mono bb.size)
          clear b6
          go_wp2_with fail
          refine (CI.out _).mono ?_
          rintro e _ ⟨rfl, rfl⟩
          go_wp2
          go_ret
          exact ⟨rfl, bb⟩
        · obtain ⟨hq, hqp⟩ := R.meanF_is f len (by omega) (by omega)
          rw [← HSL.out] at hq
          have CME := Lib.hid (mean_some a0 len cap0 f wr HU2.out (by omega) h3)
          have g0 : ((len : Int) == 0) = false := by rw [beq_eq_false_iff_ne]; omega
          have g2 : (0 : Int) < len := by omega
          generalize R.meanF f len = mf at *
          have CS : Hid (∀ wx, Calls Tryd.prog 16 #[.float .f64 mf, .float .f64 mf] wx fun e w' => e = .returned (.bool true) ∧ w' = wx) := fun wx => (same_any mf mf hqp.lt hqp.lt wx).mono (by rintro e w' ⟨rfl, rfl⟩; exact ⟨by rw [R.Pos.same], rfl⟩)
          have hd : ∀ wx : World, (binOp .quo 34 (.float .f64 s) (.float .f64 (floatOfInt .f64 (len : Int)))).run Tryd.prog wx = .ok (.float .f64 mf) wx := fun wx => run_quo_some _ _ _ hq wx
          clear hq hqp HSL HU2 h0
          go_wp2_with fail
          refine (CME.out).mono ?_
          rintro e v1 ⟨rfl, b1⟩
          replace bb := bb.trans (b1.mono bb.size)
          clear b1
          go_wp2_with fail
          refine (CA.out _).mono ?_
          rintro e v2 ⟨rfl, b2⟩
          replace bb := bb.trans (b2.mono bb.size)
          clear b2
          go_wp2_with fail
          refine (CP.out _).mono ?_
          rintro e v3 ⟨rfl, b3⟩
          replace bb := bb.trans (b3.mono bb.size)
          have k1 := K1.out
          clear b3
          go_wp2_with fail
          refine (CR.out _).mono ?_
          rintro e v4 ⟨rfl, b4⟩
          replace bb := bb.trans (b4.mono bb.size)
          clear b4 k1
          have k2 := K3.out ()
          go_wp2_with fail
          clear k2
          refine (CP.out _).mono ?_
          rintro e v5 ⟨rfl, b5⟩
          replace bb := bb.trans (b5.mono bb.size)
          clear b5
          go_wp2_with fail
          refine (CA0.out _).mono ?_
          rintro e v6 ⟨rfl, b6⟩
          replace bb := bb.trans (b6.mono bb.size)
          clear b6
          go_wp2_with fail
          refine (CS.out _).mono ?_
          rintro e _ ⟨rfl, rfl⟩
          go_wp2
          go_ret
          exact ⟨rfl, bb⟩
  · have g1 : (100 : Int) < len := by omega
    go_enter Tryd.func4, Tryd.ntmps4
    go_wp2_with fail
    refine (awake14_any w ht hp).mono ?_
    rintro e wa ⟨rfl, bb⟩
    clear ht hp
    go_wp2
    go_ret
    exact ⟨rfl, bb⟩

theorem walk (a0 : Int) (a1 : Int) (a2 : Option Addr) (len2 cap2 : Nat) (z2 : List Int) (w : World) (htab : Tab w ∧ Pow10T w) (w0 : (Lit.int .u64 a0).wf = true) (w1 : (Lit.int .u16 a1).wf = true) (w2 : IsRow .u64 w a2 len2 cap2 z2) :
    Calls Tryd.prog 4 #[.int .u64 a0, .int .u16 a1, .slice a2 len2 cap2] w fun e w' => e = .returned (.bool true) ∧ Below w.heap.size w w' := by
  obtain ⟨x1, y1⟩ := Go.bounds_u64 w0
  obtain ⟨x2, y2⟩ := Go.bounds_u16 w1
  obtain ⟨t, rfl⟩ := Int.eq_ofNat_of_zero_le x1
  obtain ⟨b, rfl⟩ := Int.eq_ofNat_of_zero_le x2
  exact core t b a2 len2 cap2 _ w htab.1 htab.2 w2.inU (by omega) (by omega) w2.lens

end Go.Proofs.YtdcpacdfbbdnlaaDoor.ClockStampsW
