/-
  Layer 14: ClockSteady, the walk: of a time that is ever the same Smooth is that; Wait is never below 50, nor above 60000; the smoothed time is between the least and the greatest.
-/
import Derived.Test.YtdcpacdfbbdnlaaDoorUStamp
namespace Go.Proofs.YtdcpacdfbbdnlaaDoor.ClockSteadyW
open Go.RowKit
set_option linter.unusedVariables false
set_option maxRecDepth 20000
set_option linter.unusedSimpArgs false
set_option maxRecDepth 20000

/-- What is known of a clock that was told times from lo to hi. -/
def Btw (n S lo hi : Nat) : Prop := lo ≤ 60000 ∧ hi ≤ 60000 ∧ (n = 0 → lo = 60000 ∧ hi = 0) ∧ (0 < n → 8 * lo ≤ S ∧ S ≤ 8 * hi + 7)
theorem Btw.told {n S lo hi : Nat} (h : Btw n S lo hi) (t : Nat) : Btw (n + 1) (T14.S2 n S t) (min (min lo t) 60000) (max hi (min t 60000)) := by
  obtain ⟨h1, h2, h3, h4⟩ := h
  unfold T14.S2 T14.cap
  refine ⟨by omega, by omega, fun h => by omega, fun _ => ?_⟩
  by_cases h0 : n = 0
  · rw [if_pos h0]
    have := h3 h0
    omega
  · rw [if_neg h0]
    have := h4 (by omega)
    omega

set_option maxHeartbeats 16000000 in
theorem core (t x1 : Nat) (a0 : Option Addr) (len cap0 : Nat) (f : Nat → Nat) (w : World) (ht : Tab w) (hp : Pow10T w) (hU : InU w a0 len f) (ht2 : t ≤ 18446744073709551615) (hx1 : x1 ≤ 255) (hlen : len ≤ 9223372036854775807) :
    Calls Tryd.prog 5 #[.int .u64 (t : Int), .int .u8 (x1 : Int), .slice a0 len cap0] w fun e w' => e = .returned (.bool true) ∧ Below w.heap.size w w' := by
  have HU := Lib.hid hU
  clear hU
  by_cases h3 : len ≤ 200
  · have g1 : ¬ (200 : Int) < len := by omega
    go_enter Tryd.func5, Tryd.ntmps5
    go_wp2_with fail
    refine (awake14_any w ht hp).mono ?_
    rintro e wa ⟨rfl, bb⟩
    clear ht hp
    have HU2 := Lib.hid (fun wx (bx : Below w.heap.size w wx) => HU.out.below bx)
    clear HU
    obtain ⟨u, hu⟩ : ∃ u, u = T14.cap t := ⟨_, rfl⟩
    have hu2 : u = min t 60000 := hu
    have hmin : min (t : Int) 60000 = (u : Int) := by omega
    obtain ⟨c, hc⟩ : ∃ c, c = 1 + x1 := ⟨_, rfl⟩
    have hcc : 1 + (x1 : Int) = (c : Int) := by omega
    have r : Row (wa.alloc (.cells #[.int .u64 0, .int .u64 0, .int .u64 0] 26 (0, 0))) wa.heap.size 26 [.int .u64 0, .int .u64 0, .int .u64 0] := Row.new' rfl rfl
    have lz := bb.size
    replace bb : Below w.heap.size w (wa.alloc (.cells #[.int .u64 0, .int .u64 0, .int .u64 0] 26 (0, 0))) := bb.alloc bb.size _
    have hcb : c ≤ 256 := by omega
    have HC := Lib.hid hc
    have HU0 := Lib.hid hu
    clear hc hu hu2
    go_wp2
    obtain ⟨g, hg⟩ : ∃ g, g = wa.heap.size := ⟨_, rfl⟩
    rw [← hg] at r lz ⊢
    generalize wa.alloc (.cells #[.int .u64 0, .int .u64 0, .int .u64 0] 26 (0, 0)) = wz at *
    clear hg
    go_loopw [22] (fun iv wr => ∃ (k n S V : Nat), k ≤ c ∧ iv = .int .i64 (k : Int) ∧ Hid (n = k ∧ T14.Ok n S V ∧ (0 < n → S = 8 * u)) ∧ Row wr g 26 [.int .u64 (n : Int), .int .u64 (S : Int), .int .u64 (V : Int)] ∧ Below w.heap.size w wr) (fun iv _ => c - (intOf iv).toNat)
    case atStart => exact ⟨0, 0, 0, 0, Nat.zero_le _, rfl, ⟨rfl, T14.Ok.zero, fun h => by omega⟩, r, bb⟩
    case round =>
      clear r bb
      obtain ⟨k, n, S, V, hk, rfl, HN, r, bb⟩ := hrel
      by_cases hlt : k < c
      · have hs : (k : Int) < c := by omega
        obtain ⟨hn, ok, h8⟩ := HN.out
        obtain ⟨n', hn'⟩ : ∃ n', n' = n + 1 := ⟨_, rfl⟩
        obtain ⟨S', hS'⟩ : ∃ S', S' = T14.S2 n S t := ⟨_, rfl⟩
        obtain ⟨V', hV'⟩ : ∃ V', V' = T14.V2 n S V t := ⟨_, rfl⟩
        have ok2 : T14.Ok n' S' V' := by rw [hn', hS', hV']; exact ok.told t
        have hS8 : S' = 8 * u := by
          rw [hS', HU0.out]
          unfold T14.S2
          by_cases h0 : n = 0
          · rw [if_pos h0]
          · rw [if_neg h0]
            have := h8 (by omega)
            rw [HU0.out] at this
            omega
        have CT : Hid (∀ wx, Calls Tryd.prog 9 #[.agg #[.int .u64 (n : Int), .int .u64 (S : Int), .int .u64 (V : Int)], .int .u64 (t : Int)] wx fun e w' => e = .returned (.agg #[.int .u64 (n' : Int), .int .u64 (S' : Int), .int .u64 (V' : Int)]) ∧ Below wx.heap.size wx w') := fun wx => by rw [hn', hS', hV']; exact told_any n S V t (by omega) ok.s ok.v wx
        have CS : Hid (∀ wx, Calls Tryd.prog 17 #[.agg #[.int .u64 (n' : Int), .int .u64 (S' : Int), .int .u64 (V' : Int)]] wx fun e w' => e = .returned (.int .u64 (u : Int)) ∧ Below wx.heap.size wx w') := fun wx => by
          have := smooth_any n' S' V' ok2.s wx
          rw [show S' / 8 = u by omega] at this
          exact this
        have HB : Hid (n' = k + 1 ∧ T14.Ok n' S' V' ∧ (0 < n' → S' = 8 * u)) := ⟨by omega, ok2, fun _ => hS8⟩
        clear hn' hS' hV' ok ok2 hn hS8 h8 HN
        go_wp2_with (first | refine wpList_load_row rfl 26 (.tmp 7) rfl (g) rfl _ _ _ _ r Tryd.underlying26 rfl infoClock ?_)
        refine (CT.out _).mono ?_
        rintro e wa61 ⟨rfl, bwa61⟩
        replace r := r.below bwa61 r.lt
        replace bb := bb.trans (bwa61.mono bb.size)
        clear bwa61
        go_wp2_with (first | refine wpList_store_row rfl 26 (.tmp 7) (.tmp 26) rfl (g) _ rfl rfl _ _ r infoClock rfl (by simp [Value.oneCell']) ?_ | refine wpList_load_row rfl 26 (.tmp 7) rfl (g) rfl _ _ _ _ (r.setRow [.int .u64 (n' : Int), .int .u64 (S' : Int), .int .u64 (V' : Int)]) Tryd.underlying26 rfl infoClock ?_)
        replace r := r.setRow [.int .u64 (n' : Int), .int .u64 (S' : Int), .int .u64 (V' : Int)]
        replace bb := below_row bb (show _ ≤ g by omega) (List.toArray [.int .u64 (n' : Int), .int .u64 (S' : Int), .int .u64 (V' : Int)])
        generalize wa61.setRow g (List.toArray [.int .u64 (n' : Int), .int .u64 (S' : Int), .int .u64 (V' : Int)]) = wa62 at *
        refine (CS.out _).mono ?_
        rintro e wa63 ⟨rfl, bwa63⟩
        replace r := r.below bwa63 r.lt
        replace bb := bb.trans (bwa63.mono bb.size)
        clear bwa63
        go_wp2
        go_roundw
        case rel => exact ⟨k + 1, n', S', V', by omega, by go_num, HB.out, r, bb⟩
        case measure => simp [intOf]; omega
      · have hkc : k = c := by omega
        have hs : ¬ (k : Int) < c := by omega
        clear HN HC HU0 hcc hmin hcb hk hkc
        have r2 : Row (wr.alloc (.cells #[.int .u64 0, .int .u64 0, .int .u64 0] 26 (0, 0))) wr.heap.size 26 [.int .u64 0, .int .u64 0, .int .u64 0] := Row.new' rfl rfl
        have lz2 := bb.size
        replace bb : Below w.heap.size w (wr.alloc (.cells #[.int .u64 0, .int .u64 0, .int .u64 0] 26 (0, 0))) := bb.alloc bb.size _
        clear r
        go_wp2
        obtain ⟨g2, hg⟩ : ∃ g, g = wr.heap.size := ⟨_, rfl⟩
        rw [← hg] at r2 lz2 ⊢
        generalize wr.alloc (.cells #[.int .u64 0, .int .u64 0, .int .u64 0] 26 (0, 0)) = wy at *
        clear hg
        go_loopw [35, 9, 10] (fun iv lv hv wr => ∃ (k n S V lo hi : Nat), k ≤ len ∧ iv = .int .i64 (k : Int) ∧ lv = .int .u64 (lo : Int) ∧ hv = .int .u64 (hi : Int) ∧ lo ≤ 60000 ∧ hi ≤ 60000 ∧ Hid (n = k ∧ T14.Ok n S V ∧ Btw n S lo hi) ∧ Row wr g2 26 [.int .u64 (n : Int), .int .u64 (S : Int), .int .u64 (V : Int)] ∧ Below w.heap.size w wr) (fun iv _ _ _ => len - (intOf iv).toNat)
        case atStart => exact ⟨0, 0, 0, 0, 60000, 0, Nat.zero_le _, rfl, rfl, rfl, Nat.le_refl _, Nat.zero_le _, ⟨rfl, T14.Ok.zero, by unfold Btw; omega⟩, r2, bb⟩
        case round =>
          clear r2 bb
          obtain ⟨k, n, S, V, lo, hi, hk, rfl, rfl, rfl, hlo, hhi, HN, r, bb⟩ := hrel
          by_cases hlt : k < len
          · have hs : (k : Int) < len := by omega
            obtain ⟨bk, off, rfl, hbk, hcell⟩ := HU2.out wr bb (by omega)
            obtain ⟨htb, c0⟩ := hcell k hlt
            generalize f k = x at *
            obtain ⟨hn, ok, hbt⟩ := HN.out
            obtain ⟨n', hn'⟩ : ∃ n', n' = n + 1 := ⟨_, rfl⟩
            obtain ⟨S', hS'⟩ : ∃ S', S' = T14.S2 n S x := ⟨_, rfl⟩
            obtain ⟨V', hV'⟩ : ∃ V', V' = T14.V2 n S V x := ⟨_, rfl⟩
            obtain ⟨lo', hlo'⟩ : ∃ lo', lo' = min (min lo x) 60000 := ⟨_, rfl⟩
            obtain ⟨hi', hhi'⟩ : ∃ hi', hi' = max hi (min x 60000) := ⟨_, rfl⟩
            have ok2 : T14.Ok n' S' V' := by rw [hn', hS', hV']; exact ok.told x
            have hb2 : Btw n' S' lo' hi' := by rw [hn', hS', hlo', hhi']; exact hbt.told x
            obtain ⟨z, hz⟩ : ∃ z, z = T14.wait n' S' V' := ⟨_, rfl⟩
            obtain ⟨m, hm⟩ : ∃ m, m = S' / 8 := ⟨_, rfl⟩
            have CT : Hid (∀ wx, Calls Tryd.prog 9 #[.agg #[.int .u64 (n : Int), .int .u64 (S : Int), .int .u64 (V : Int)], .int .u64 (x : Int)] wx fun e w' => e = .returned (.agg #[.int .u64 (n' : Int), .int .u64 (S' : Int), .int .u64 (V' : Int)]) ∧ Below wx.heap.size wx w') := fun wx => by rw [hn', hS', hV']; exact told_any n S V x (by omega) ok.s ok.v wx
            have CS : Hid (∀ wx, Calls Tryd.prog 17 #[.agg #[.int .u64 (n' : Int), .int .u64 (S' : Int), .int .u64 (V' : Int)]] wx fun e w' => e = .returned (.int .u64 (m : Int)) ∧ Below wx.heap.size wx w') := fun wx => by rw [hm]; exact smooth_any n' S' V' ok2.s wx
            have CQ : Hid (∀ wx, Calls Tryd.prog 18 #[.agg #[.int .u64 (n' : Int), .int .u64 (S' : Int), .int .u64 (V' : Int)]] wx fun e w' => e = .returned (.int .u64 (z : Int)) ∧ Below wx.heap.size wx w') := fun wx => by rw [hz]; exact wait_any n' S' V' ok2.s ok2.v wx
            have hzr := T14.wait_range n' S' V'
            rw [← hz] at hzr
            have hbb := hb2.2.2.2 (by omega)
            have k1 : decide ((z : Int) < 50) = false := decide_eq_false (by omega)
            have k2 : decide ((60000 : Int) < (z : Int)) = false := decide_eq_false (by omega)
            have k3 : decide ((hi' : Int) + 1 < (m : Int)) = false := decide_eq_false (by omega)
            have k4 : decide ((m : Int) + 1 < (lo' : Int)) = false := decide_eq_false (by omega)
            have m1 : min (min (lo : Int) (x : Int)) 60000 = (lo' : Int) := by omega
            obtain ⟨mx, hmx⟩ : ∃ mx, mx = min x 60000 := ⟨_, rfl⟩
            have m2 : min (x : Int) 60000 = (mx : Int) := by omega
            have m3 : max (hi : Int) (mx : Int) = (hi' : Int) := by omega
            have b1 : lo' ≤ 60000 := by omega
            have b2 : hi' ≤ 60000 := by omega
            have b3 : m ≤ 60000 := by have := ok2.s; omega
            have HB : Hid (n' = k + 1 ∧ T14.Ok n' S' V' ∧ Btw n' S' lo' hi') := ⟨by omega, ok2, hb2⟩
            have HS : Hid (S' ≤ 480000) := ok2.s
            clear hn' hS' hV' ok ok2 hn HN hhi' hmx hz hm hzr hbb hb2 hbt hcell hbk
            by_cases hxl : x < lo
            · obtain rfl : x = lo' := by omega
              have q1 : (x : Int) < (lo : Int) := by omega
              have q2 : ¬ (60000 : Int) < (x : Int) := by omega
              clear hxl m1 hlo'
              go_wp2_with (first | refine wpList_load_row rfl 26 (.tmp 8) rfl (g2) rfl _ _ _ _ r Tryd.underlying26 rfl infoClock ?_)
              refine (CT.out _).mono ?_
              rintro e wa61 ⟨rfl, bwa61⟩
              replace r := r.below bwa61 r.lt
              replace bb := bb.trans (bwa61.mono bb.size)
              clear bwa61
              go_wp2_with (first | refine wpList_store_row rfl 26 (.tmp 8) (.tmp 41) rfl (g2) _ rfl rfl _ _ r infoClock rfl (by simp [Value.oneCell']) ?_ | refine wpList_load_row rfl 26 (.tmp 8) rfl (g2) rfl _ _ _ _ (r.setRow [.int .u64 (n' : Int), .int .u64 (S' : Int), .int .u64 (V' : Int)]) Tryd.underlying26 rfl infoClock ?_)
              replace r := r.setRow [.int .u64 (n' : Int), .int .u64 (S' : Int), .int .u64 (V' : Int)]
              replace bb := below_row bb (show _ ≤ g2 by omega) (List.toArray [.int .u64 (n' : Int), .int .u64 (S' : Int), .int .u64 (V' : Int)])
              generalize wa61.setRow g2 (List.toArray [.int .u64 (n' : Int), .int .u64 (S' : Int), .int .u64 (V' : Int)]) = wa62 at *
              refine (CQ.out _).mono ?_
              rintro e wa63 ⟨rfl, bwa63⟩
              replace r := r.below bwa63 r.lt
              replace bb := bb.trans (bwa63.mono bb.size)
              clear bwa63
              go_wp2_with (first | refine wpList_rowT (by rfl) 26 (.tmp 8) rfl (g2) rfl _ _ _ (r) Tryd.underlying26 rfl infoClock ?_)
              refine (CS.out _).mono ?_
              rintro e wa64 ⟨rfl, bwa64⟩
              replace r := r.below bwa64 r.lt
              replace bb := bb.trans (bwa64.mono bb.size)
              clear bwa64
              go_wp2_with (first | refine wpList_rowT (by rfl) 26 (.tmp 8) rfl (g2) rfl _ _ _ (r) Tryd.underlying26 rfl infoClock ?_)
              refine (CS.out _).mono ?_
              rintro e wa65 ⟨rfl, bwa65⟩
              replace r := r.below bwa65 r.lt
              replace bb := bb.trans (bwa65.mono bb.size)
              clear bwa65
              go_wp2
              go_roundw
              case rel => exact ⟨k + 1, n', S', V', x, hi', by omega, by go_num, rfl, rfl, by omega, b2, HB.out, r, bb⟩
              case measure => simp [intOf]; omega
            · obtain rfl : lo = lo' := by omega
              have q1 : ¬ (x : Int) < (lo : Int) := by omega
              have q2 : ¬ (60000 : Int) < (lo : Int) := by omega
              clear hxl m1 hlo'
              go_wp2_with (first | refine wpList_load_row rfl 26 (.tmp 8) rfl (g2) rfl _ _ _ _ r Tryd.underlying26 rfl infoClock ?_)
              refine (CT.out _).mono ?_
              rintro e wa61 ⟨rfl, bwa61⟩
              replace r := r.below bwa61 r.lt
              replace bb := bb.trans (bwa61.mono bb.size)
              clear bwa61
              go_wp2_with (first | refine wpList_store_row rfl 26 (.tmp 8) (.tmp 41) rfl (g2) _ rfl rfl _ _ r infoClock rfl (by simp [Value.oneCell']) ?_ | refine wpList_load_row rfl 26 (.tmp 8) rfl (g2) rfl _ _ _ _ (r.setRow [.int .u64 (n' : Int), .int .u64 (S' : Int), .int .u64 (V' : Int)]) Tryd.underlying26 rfl infoClock ?_)
              replace r := r.setRow [.int .u64 (n' : Int), .int .u64 (S' : Int), .int .u64 (V' : Int)]
              replace bb := below_row bb (show _ ≤ g2 by omega) (List.toArray [.int .u64 (n' : Int), .int .u64 (S' : Int), .int .u64 (V' : Int)])
              generalize wa61.setRow g2 (List.toArray [.int .u64 (n' : Int), .int .u64 (S' : Int), .int .u64 (V' : Int)]) = wa62 at *
              refine (CQ.out _).mono ?_
              rintro e wa63 ⟨rfl, bwa63⟩
              replace r := r.below bwa63 r.lt
              replace bb := bb.trans (bwa63.mono bb.size)
              clear bwa63
              go_wp2_with (first | refine wpList_rowT (by rfl) 26 (.tmp 8) rfl (g2) rfl _ _ _ (r) Tryd.underlying26 rfl infoClock ?_)
              refine (CS.out _).mono ?_
              rintro e wa64 ⟨rfl, bwa64⟩
              replace r := r.below bwa64 r.lt
              replace bb := bb.trans (bwa64.mono bb.size)
              clear bwa64
              go_wp2_with (first | refine wpList_rowT (by rfl) 26 (.tmp 8) rfl (g2) rfl _ _ _ (r) Tryd.underlying26 rfl infoClock ?_)
              refine (CS.out _).mono ?_
              rintro e wa65 ⟨rfl, bwa65⟩
              replace r := r.below bwa65 r.lt
              replace bb := bb.trans (bwa65.mono bb.size)
              clear bwa65
              go_wp2
              go_roundw
              case rel => exact ⟨k + 1, n', S', V', lo, hi', by omega, by go_num, rfl, rfl, by omega, b2, HB.out, r, bb⟩
              case measure => simp [intOf]; omega
          · obtain rfl : k = len := by omega
            have ok := HN.out.2.1
            obtain ⟨j, hj⟩ : ∃ j, j = R.qv (floatOfInt .f64 ((2 * V : Nat) : Int)) (floatOfInt .f64 (S : Int)) := ⟨_, rfl⟩
            have hjp : R.Pos j := by rw [hj]; exact R.qv_pos (R.whole_pos _) (R.whole_pos _)
            have CJ : Hid (∀ wx, Calls Tryd.prog 20 #[.agg #[.int .u64 (n : Int), .int .u64 (S : Int), .int .u64 (V : Int)]] wx fun e w' => e = .returned (.float .f64 j) ∧ Below wx.heap.size wx w') := fun wx => by rw [hj]; exact jitter_any n S V ok.s ok.v wx
            obtain ⟨kj, hkj⟩ : ∃ kj, kj = R.kind j := ⟨_, rfl⟩
            have CK : Hid (∀ wx, Calls Tryd.prog 19 #[.float .f64 j] wx fun e w' => e = .returned (.int .i64 kj) ∧ w' = wx) := fun wx => by rw [hkj]; exact kind_any j hjp.lt wx
            have hk4 : decide ((4 : Int) ≤ kj) = true := by rw [hkj]; exact decide_eq_true hjp.kind
            clear hj hjp hkj ok HN HU2 hlo hhi
            go_wp2_with (first | refine wpList_load_row rfl 26 (.tmp 8) rfl (g2) rfl _ _ _ _ r Tryd.underlying26 rfl infoClock ?_)
            refine (CJ.out _).mono ?_
            rintro e wa61 ⟨rfl, bwa61⟩
            replace r := r.below bwa61 r.lt
            replace bb := bb.trans (bwa61.mono bb.size)
            clear bwa61
            go_wp2_with fail
            refine (CK.out _).mono ?_
            rintro e _ ⟨rfl, rfl⟩
            go_wp2
            go_ret
            exact ⟨rfl, bb⟩
  · have g1 : (200 : Int) < len := by omega
    go_enter Tryd.func5, Tryd.ntmps5
    go_wp2_with fail
    refine (awake14_any w ht hp).mono ?_
    rintro e wa ⟨rfl, bb⟩
    clear ht hp
    go_wp2
    go_ret
    exact ⟨rfl, bb⟩

theorem walk (a0 : Int) (a1 : Int) (a2 : Option Addr) (len2 cap2 : Nat) (z2 : List Int) (w : World) (htab : Tab w ∧ Pow10T w) (w0 : (Lit.int .u64 a0).wf = true) (w1 : (Lit.int .u8 a1).wf = true) (w2 : IsRow .u64 w a2 len2 cap2 z2) :
    Calls Tryd.prog 5 #[.int .u64 a0, .int .u8 a1, .slice a2 len2 cap2] w fun e w' => e = .returned (.bool true) ∧ Below w.heap.size w w' := by
  obtain ⟨x1, y1⟩ := Go.bounds_u64 w0
  obtain ⟨x2, y2⟩ := Go.bounds_u8 w1
  obtain ⟨t, rfl⟩ := Int.eq_ofNat_of_zero_le x1
  obtain ⟨b, rfl⟩ := Int.eq_ofNat_of_zero_le x2
  exact core t b a2 len2 cap2 _ w htab.1 htab.2 w2.inU (by omega) (by omega) w2.lens
end Go.Proofs.YtdcpacdfbbdnlaaDoor.ClockSteadyW
