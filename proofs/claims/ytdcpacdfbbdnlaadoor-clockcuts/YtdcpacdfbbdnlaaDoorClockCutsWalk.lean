/-
  Layer 14: ClockCuts, the walk: a time above 60,000 is told as that; so many ticks ago a stamp was just as many ticks ago.
-/
import Derived.Test.YtdcpacdfbbdnlaaDoorUStamp
namespace Go.Proofs.YtdcpacdfbbdnlaaDoor.ClockCutsW
open Go.RowKit
set_option linter.unusedVariables false
set_option maxRecDepth 20000
set_option linter.unusedSimpArgs false
set_option maxRecDepth 20000

set_option maxHeartbeats 16000000 in
theorem core (a0 : Option Addr) (len cap0 : Nat) (f : Nat → Nat) (t now ago : Nat) (w : World) (ht : Tab w) (hp : Pow10T w) (hU : InU w a0 len f) (ht2 : t ≤ 18446744073709551615) (hnow : now ≤ 18446744073709551615) (hago : ago ≤ 65535) (hlen : len ≤ 9223372036854775807) :
    Calls Tryd.prog 6 #[.slice a0 len cap0, .int .u64 (t : Int), .int .u64 (now : Int), .int .u16 (ago : Int)] w fun e w' => e = .returned (.bool true) ∧ Below w.heap.size w w' := by
  have HU := Lib.hid hU
  clear hU
  by_cases h3 : len ≤ 50
  · have g1 : ¬ (50 : Int) < len := by omega
    go_enter Tryd.func6, Tryd.ntmps6
    go_wp2_with fail
    refine (awake14_any w ht hp).mono ?_
    rintro e wa ⟨rfl, bb⟩
    clear ht hp
    have HU2 := Lib.hid (fun wx (bx : Below w.heap.size w wx) => HU.out.below bx)
    clear HU
    have r : Row (wa.alloc (.cells #[.int .u64 0, .int .u64 0, .int .u64 0] 26 (0, 0))) wa.heap.size 26 [.int .u64 0, .int .u64 0, .int .u64 0] := Row.new' rfl rfl
    have lz := bb.size
    replace bb : Below w.heap.size w (wa.alloc (.cells #[.int .u64 0, .int .u64 0, .int .u64 0] 26 (0, 0))) := bb.alloc bb.size _
    go_wp2
    obtain ⟨g, hg⟩ : ∃ g, g = wa.heap.size := ⟨_, rfl⟩
    rw [← hg] at r lz ⊢
    generalize wa.alloc (.cells #[.int .u64 0, .int .u64 0, .int .u64 0] 26 (0, 0)) = wz at *
    clear hg
    go_loopw [21] (fun iv wr => ∃ (k n S V : Nat), k ≤ len ∧ iv = .int .i64 (k : Int) ∧ n = k ∧ T14.Ok n S V ∧ Row wr g 26 [.int .u64 (n : Int), .int .u64 (S : Int), .int .u64 (V : Int)] ∧ Below w.heap.size w wr) (fun iv _ => len - (intOf iv).toNat)
    case atStart => exact ⟨0, 0, 0, 0, Nat.zero_le _, rfl, rfl, T14.Ok.zero, r, bb⟩
    case round =>
      clear r bb
      obtain ⟨k, n, S, V, hk, rfl, hn, ok, r, bb⟩ := hrel
      by_cases hlt : k < len
      · have hs : (k : Int) < len := by omega
        obtain ⟨bk, off, rfl, hbk, hcell⟩ := HU2.out wr bb (by omega)
        obtain ⟨htb, c0⟩ := hcell k hlt
        generalize f k = x at *
        obtain ⟨n', hn'⟩ : ∃ n', n' = n + 1 := ⟨_, rfl⟩
        obtain ⟨S', hS'⟩ : ∃ S', S' = T14.S2 n S x := ⟨_, rfl⟩
        obtain ⟨V', hV'⟩ : ∃ V', V' = T14.V2 n S V x := ⟨_, rfl⟩
        have ok2 : T14.Ok n' S' V' := by rw [hn', hS', hV']; exact ok.told x
        have CT : Hid (∀ wx, Calls Tryd.prog 9 #[.agg #[.int .u64 (n : Int), .int .u64 (S : Int), .int .u64 (V : Int)], .int .u64 (x : Int)] wx fun e w' => e = .returned (.agg #[.int .u64 (n' : Int), .int .u64 (S' : Int), .int .u64 (V' : Int)]) ∧ Below wx.heap.size wx w') := fun wx => by rw [hn', hS', hV']; exact told_any n S V x (by omega) ok.s ok.v wx
        have HB : Hid (n' = k + 1 ∧ T14.Ok n' S' V') := ⟨by omega, ok2⟩
        clear hn' hS' hV' ok ok2 hcell hbk hn
        go_wp2_with (first | refine wpList_load_row rfl 26 (.tmp 9) rfl (g) rfl _ _ _ _ r Tryd.underlying26 rfl infoClock ?_)
        refine (CT.out _).mono ?_
        rintro e wa61 ⟨rfl, bwa61⟩
        replace r := r.below bwa61 r.lt
        replace bb := bb.trans (bwa61.mono bb.size)
        clear bwa61
        go_wp2_with (first | refine wpList_store_row rfl 26 (.tmp 9) (.tmp 27) rfl (g) _ rfl rfl _ _ r infoClock rfl (by simp [Value.oneCell']) ?_)
        replace r := r.setRow [.int .u64 (n' : Int), .int .u64 (S' : Int), .int .u64 (V' : Int)]
        replace bb := below_row bb (show _ ≤ g by omega) (List.toArray [.int .u64 (n' : Int), .int .u64 (S' : Int), .int .u64 (V' : Int)])
        generalize wa61.setRow g (List.toArray [.int .u64 (n' : Int), .int .u64 (S' : Int), .int .u64 (V' : Int)]) = wa62 at *
        go_wp2
        go_roundw
        case rel => exact ⟨k + 1, n', S', V', by omega, by go_num, HB.out.1, HB.out.2, r, bb⟩
        case measure => simp [intOf]; omega
      · have hkl : k = len := by omega
        have hnk : n = len := by omega
        have hs : ¬ (k : Int) < len := by omega
        obtain ⟨u, hu⟩ : ∃ u, u = min t 60000 := ⟨_, rfl⟩
        obtain ⟨n', hn'⟩ : ∃ n', n' = n + 1 := ⟨_, rfl⟩
        obtain ⟨S', hS'⟩ : ∃ S', S' = T14.S2 n S t := ⟨_, rfl⟩
        obtain ⟨V', hV'⟩ : ∃ V', V' = T14.V2 n S V t := ⟨_, rfl⟩
        have hcap : T14.cap u = T14.cap t := by unfold T14.cap; omega
        have ok2 : T14.Ok n' S' V' := by rw [hn', hS', hV']; exact ok.told t
        obtain ⟨m, hm⟩ : ∃ m, m = S' / 8 := ⟨_, rfl⟩
        obtain ⟨z, hz⟩ : ∃ z, z = T14.wait n' S' V' := ⟨_, rfl⟩
        obtain ⟨j, hj⟩ : ∃ j, j = R.qv (floatOfInt .f64 ((2 * V' : Nat) : Int)) (floatOfInt .f64 (S' : Int)) := ⟨_, rfl⟩
        have hjp : R.Pos j := by rw [hj]; exact R.qv_pos (R.whole_pos _) (R.whole_pos _)
        have CT1 : Hid (∀ wx, Calls Tryd.prog 9 #[.agg #[.int .u64 (n : Int), .int .u64 (S : Int), .int .u64 (V : Int)], .int .u64 (t : Int)] wx fun e w' => e = .returned (.agg #[.int .u64 (n' : Int), .int .u64 (S' : Int), .int .u64 (V' : Int)]) ∧ Below wx.heap.size wx w') := fun wx => by rw [hn', hS', hV']; exact told_any n S V t (by omega) ok.s ok.v wx
        have CT2 : Hid (∀ wx, Calls Tryd.prog 9 #[.agg #[.int .u64 (n : Int), .int .u64 (S : Int), .int .u64 (V : Int)], .int .u64 (u : Int)] wx fun e w' => e = .returned (.agg #[.int .u64 (n' : Int), .int .u64 (S' : Int), .int .u64 (V' : Int)]) ∧ Below wx.heap.size wx w') := fun wx => by
          have := told_any n S V u (by omega) ok.s ok.v wx
          rw [show T14.S2 n S u = T14.S2 n S t by unfold T14.S2; rw [hcap], show T14.V2 n S V u = T14.V2 n S V t by unfold T14.V2; rw [hcap], ← hn', ← hS', ← hV'] at this
          exact this
        have CS : Hid (∀ wx, Calls Tryd.prog 17 #[.agg #[.int .u64 (n' : Int), .int .u64 (S' : Int), .int .u64 (V' : Int)]] wx fun e w' => e = .returned (.int .u64 (m : Int)) ∧ Below wx.heap.size wx w') := fun wx => by rw [hm]; exact smooth_any n' S' V' ok2.s wx
        have CQ : Hid (∀ wx, Calls Tryd.prog 18 #[.agg #[.int .u64 (n' : Int), .int .u64 (S' : Int), .int .u64 (V' : Int)]] wx fun e w' => e = .returned (.int .u64 (z : Int)) ∧ Below wx.heap.size wx w') := fun wx => by rw [hz]; exact wait_any n' S' V' ok2.s ok2.v wx
        have CC : Hid (∀ wx, Calls Tryd.prog 21 #[.agg #[.int .u64 (n' : Int), .int .u64 (S' : Int), .int .u64 (V' : Int)]] wx fun e w' => e = .returned (.int .u64 (n' : Int)) ∧ Below wx.heap.size wx w') := fun wx => count_any n' S' V' wx
        have CJ : Hid (∀ wx, Calls Tryd.prog 20 #[.agg #[.int .u64 (n' : Int), .int .u64 (S' : Int), .int .u64 (V' : Int)]] wx fun e w' => e = .returned (.float .f64 j) ∧ Below wx.heap.size wx w') := fun wx => by rw [hj]; exact jitter_any n' S' V' ok2.s ok2.v wx
        have CM : Hid (∀ wx, Calls Tryd.prog 16 #[.float .f64 j, .float .f64 j] wx fun e w' => e = .returned (.bool true) ∧ Below wx.heap.size wx w') := fun wx => (same_any j j hjp.lt hjp.lt wx).mono (by rintro e w' ⟨rfl, rfl⟩; exact ⟨by rw [R.Pos.same], Below.refl _ _⟩)
        obtain ⟨bef, hbef⟩ : ∃ bef, bef = (now + 18446744073709551616 - ago) % 18446744073709551616 := ⟨_, rfl⟩
        obtain ⟨st, hst⟩ : ∃ st, st = bef % 65536 := ⟨_, rfl⟩
        have CP : Hid (∀ wx, Calls Tryd.prog 13 #[.int .u64 (bef : Int)] wx fun e w' => e = .returned (.int .u16 (st : Int)) ∧ Below wx.heap.size wx w') := fun wx => by rw [hst]; exact stamp_any bef wx
        have CA : Hid (∀ wx, Calls Tryd.prog 12 #[.int .u64 (now : Int), .int .u16 (st : Int)] wx fun e w' => e = .returned (.int .u64 (ago : Int)) ∧ Below wx.heap.size wx w') := fun wx => by
          have := since14_any now st (by omega) wx
          rw [show (now % 65536 + 65536 - st) % 65536 = ago by omega] at this
          exact this
        have FU : Hid (min (t : Int) 60000 = (u : Int)) := by show _ = _; omega
        have FL : Hid (IntKind.u64.wrap ((len : Int) + 1) = (len : Int) + 1) := by show _ = _; rw [IntKind.wrap_u64]; omega
        have FL2 : Hid (IntKind.i64.wrap ((len : Int) + 1) = (len : Int) + 1) := by show _ = _; rw [IntKind.wrap_i64]; omega
        have FN : Hid ((n' : Int) = (len : Int) + 1) := by show _ = _; omega
        have FA : Hid (IntKind.u64.wrap (ago : Int) = (ago : Int)) := by show _ = _; rw [IntKind.wrap_u64]; omega
        have FB : Hid (IntKind.u64.wrap ((now : Int) - (ago : Int)) = (bef : Int)) := by show _ = _; rw [IntKind.wrap_u64]; omega
        have hlb : len ≤ 50 := h3
        clear hu hn' hS' hV' hcap hm hz hj hjp hbef hst ok ok2 hkl hnk hn HU2
        go_wp2
        refine wp_region_held_drew (S := fun w' => Row w' g 26 [.int .u64 (n : Int), .int .u64 (S : Int), .int .u64 (V : Int)] ∧ Below w.heap.size w w') (by kernel_rfl) (⟨r.drew, bb.drew⟩) (fun hHeld => ?_)
        generalize wr.drew = wd81 at *
        obtain ⟨Bz, hBz⟩ : ∃ B, B = wd81.heap.size := ⟨_, rfl⟩
        have lB0 : g < Bz := by rw [hBz]; exact (hHeld.1).lt
        have lBw : w.heap.size ≤ Bz := by rw [hBz]; exact (hHeld.2).size
        have lw : Bz ≤ wd81.heap.size := by rw [hBz]; exact Nat.le_refl _
        clear hBz
        refine cut_hereT (G := ∀ (p q : Nat) (wz : World), (Bz ≤ p ∧ Bz ≤ q ∧ p ≠ q) → Row wz p 26 [.int .u64 0, .int .u64 0, .int .u64 0] → Row wz q 26 [.int .u64 0, .int .u64 0, .int .u64 0] → (Row wz g 26 [.int .u64 (n : Int), .int .u64 (S : Int), .int .u64 (V : Int)] ∧ Below w.heap.size w wz) → (?B : Nat → Nat → World → Prop) p q wz) ?tree ?lf
        case tree =>
          intro leaf
          refine take_d 0 (some 29) (.agg #[.int .u64 (n : Int), .int .u64 (S : Int), .int .u64 (V : Int)]) rfl (by kernel_rfl) (by kernel_rfl) (by kernel_rfl) (fun _ _ _ h => h) (fun oi h => by cases h; exact yieldsIf_load_mid (by rfl) 26 (.tmp 9) rfl g 0 rfl [.int .u64 (n : Int), .int .u64 (S : Int), .int .u64 (V : Int)] _ (fun w' hS' => hS'.1.range) Tryd.underlying26 rfl infoClock) hHeld ?_
          try simp only [Act.put, List.setIfInBounds_toArray, List.set_cons_zero, List.set_cons_succ]
          refine take_d 1 (some 30) (.int .u64 (t : Int)) rfl (by kernel_rfl) (by kernel_rfl) (by kernel_rfl) (fun _ _ _ h => h) (fun oi h => by cases h; exact Or.inl ⟨by rfl, fun w' hS' => by go_simp⟩) hHeld ?_
          try simp only [Act.put, List.setIfInBounds_toArray, List.set_cons_zero, List.set_cons_succ]
          refine take_d 3 (some 32) (.agg #[.int .u64 (n : Int), .int .u64 (S : Int), .int .u64 (V : Int)]) rfl (by kernel_rfl) (by kernel_rfl) (by kernel_rfl) (fun _ _ _ h => h) (fun oi h => by cases h; exact yieldsIf_load_mid (by rfl) 26 (.tmp 9) rfl g 0 rfl [.int .u64 (n : Int), .int .u64 (S : Int), .int .u64 (V : Int)] _ (fun w' hS' => hS'.1.range) Tryd.underlying26 rfl infoClock) hHeld ?_
          try simp only [Act.put, List.setIfInBounds_toArray, List.set_cons_zero, List.set_cons_succ]
          refine take_d 4 (some 33) (.int .u64 (t : Int)) rfl (by kernel_rfl) (by kernel_rfl) (by kernel_rfl) (fun _ _ _ h => h) (fun oi h => by cases h; exact Or.inl ⟨by rfl, fun w' hS' => by go_simp⟩) hHeld ?_
          try simp only [Act.put, List.setIfInBounds_toArray, List.set_cons_zero, List.set_cons_succ]
          refine take_d 5 (some 34) (.int .u64 (u : Int)) rfl (by kernel_rfl) (by kernel_rfl) (by kernel_rfl) (fun _ _ _ h => h) (fun oi h => by cases h; exact Or.inl ⟨by rfl, fun w' hS' => by have f := FU.out; go_simp⟩) hHeld ?_
          try simp only [Act.put, List.setIfInBounds_toArray, List.set_cons_zero, List.set_cons_succ]
          refine three_dT 2 7 8 rfl rfl rfl (by kernel_rfl) ?_ ?_ ?_
          · intro K hK
            go_simp
            refine (CT1.out _).mono ?_
            rintro e v82 ⟨rfl, bb0⟩
            replace lw := Nat.le_trans lw bb0.size
            refine hK.out _ _ (⟨hHeld.1.below bb0 hHeld.1.lt, hHeld.2.trans (bb0.mono hHeld.2.size)⟩) (fun hHeld => ?_)
            clear bb0
            clear hK K
            try simp only [Act.put, List.setIfInBounds_toArray, List.set_cons_zero, List.set_cons_succ]
            refine three_dT 6 7 8 rfl rfl rfl (by kernel_rfl) ?_ ?_ ?_
            · intro K hK
              go_simp
              refine (CT2.out _).mono ?_
              rintro e v83 ⟨rfl, bb0⟩
              replace lw := Nat.le_trans lw bb0.size
              refine hK.out _ _ (⟨hHeld.1.below bb0 hHeld.1.lt, hHeld.2.trans (bb0.mono hHeld.2.size)⟩) (fun hHeld => ?_)
              clear bb0
              clear hK K
              try simp only [Act.put, List.setIfInBounds_toArray, List.set_cons_zero, List.set_cons_succ]
              refine two_d 7 8 rfl rfl (by kernel_rfl) ?_ ?_
              · intro K hK
                go_simp
                refine hK.out _ _ ⟨hHeld.1.alloc _, hHeld.2.alloc hHeld.2.size _⟩ (fun hHeld => ?_)
                clear hK K
                try simp only [Act.put, List.setIfInBounds_toArray, List.set_cons_zero, List.set_cons_succ]
                have lp : Bz ≤ v83.heap.size := lw
                have ra : Row (v83.alloc (.cells #[.int .u64 0, .int .u64 0, .int .u64 0] 26 (0, 0))) v83.heap.size 26 [.int .u64 0, .int .u64 0, .int .u64 0] := Row.new' rfl rfl
                replace lw : Bz ≤ (v83.alloc (.cells #[.int .u64 0, .int .u64 0, .int .u64 0] 26 (0, 0))).heap.size := Nat.le_trans lw (by simp)
                generalize v83.heap.size = p at *
                generalize v83.alloc (.cells #[.int .u64 0, .int .u64 0, .int .u64 0] 26 (0, 0)) = v84 at *
                refine one_d 8 (some 13) rfl (by kernel_rfl) ?_
                intro o ho1 hd K hK
                cases ho1
                go_simp
                refine hK.out _ _ ⟨hHeld.1.alloc _, hHeld.2.alloc hHeld.2.size _⟩ (fun hHeld => ?_)
                clear hK K hd
                try simp only [Act.put, List.setIfInBounds_toArray, List.set_cons_zero, List.set_cons_succ]
                have lq : Bz ≤ v84.heap.size := lw
                have lpq : p < v84.heap.size := ra.lt
                have rb : Row (v84.alloc (.cells #[.int .u64 0, .int .u64 0, .int .u64 0] 26 (0, 0))) v84.heap.size 26 [.int .u64 0, .int .u64 0, .int .u64 0] := Row.new' rfl rfl
                replace ra := ra.alloc (.cells #[.int .u64 0, .int .u64 0, .int .u64 0] 26 (0, 0))
                replace lw : Bz ≤ (v84.alloc (.cells #[.int .u64 0, .int .u64 0, .int .u64 0] 26 (0, 0))).heap.size := Nat.le_trans lw (by simp)
                generalize v84.heap.size = q at *
                generalize v84.alloc (.cells #[.int .u64 0, .int .u64 0, .int .u64 0] 26 (0, 0)) = v85 at *
                exact leaf.out p q _ (by omega) ra rb hHeld
              · intro K hK
                go_simp
                refine hK.out _ _ ⟨hHeld.1.alloc _, hHeld.2.alloc hHeld.2.size _⟩ (fun hHeld => ?_)
                clear hK K
                try simp only [Act.put, List.setIfInBounds_toArray, List.set_cons_zero, List.set_cons_succ]
                have lq : Bz ≤ v83.heap.size := lw
                have rb : Row (v83.alloc (.cells #[.int .u64 0, .int .u64 0, .int .u64 0] 26 (0, 0))) v83.heap.size 26 [.int .u64 0, .int .u64 0, .int .u64 0] := Row.new' rfl rfl
                replace lw : Bz ≤ (v83.alloc (.cells #[.int .u64 0, .int .u64 0, .int .u64 0] 26 (0, 0))).heap.size := Nat.le_trans lw (by simp)
                generalize v83.heap.size = q at *
                generalize v83.alloc (.cells #[.int .u64 0, .int .u64 0, .int .u64 0] 26 (0, 0)) = v84 at *
                refine one_d 7 (some 12) rfl (by kernel_rfl) ?_
                intro o ho1 hd K hK
                cases ho1
                go_simp
                refine hK.out _ _ ⟨hHeld.1.alloc _, hHeld.2.alloc hHeld.2.size _⟩ (fun hHeld => ?_)
                clear hK K hd
                try simp only [Act.put, List.setIfInBounds_toArray, List.set_cons_zero, List.set_cons_succ]
                have lp : Bz ≤ v84.heap.size := lw
                have lqp : q < v84.heap.size := rb.lt
                have ra : Row (v84.alloc (.cells #[.int .u64 0, .int .u64 0, .int .u64 0] 26 (0, 0))) v84.heap.size 26 [.int .u64 0, .int .u64 0, .int .u64 0] := Row.new' rfl rfl
                replace rb := rb.alloc (.cells #[.int .u64 0, .int .u64 0, .int .u64 0] 26 (0, 0))
                replace lw : Bz ≤ (v84.alloc (.cells #[.int .u64 0, .int .u64 0, .int .u64 0] 26 (0, 0))).heap.size := Nat.le_trans lw (by simp)
                generalize v84.heap.size = p at *
                generalize v84.alloc (.cells #[.int .u64 0, .int .u64 0, .int .u64 0] 26 (0, 0)) = v85 at *
                exact leaf.out p q _ (by omega) ra rb hHeld
            · intro K hK
              go_simp
              refine hK.out _ _ ⟨hHeld.1.alloc _, hHeld.2.alloc hHeld.2.size _⟩ (fun hHeld => ?_)
              clear hK K
              try simp only [Act.put, List.setIfInBounds_toArray, List.set_cons_zero, List.set_cons_succ]
              have lp : Bz ≤ v82.heap.size := lw
              have ra : Row (v82.alloc (.cells #[.int .u64 0, .int .u64 0, .int .u64 0] 26 (0, 0))) v82.heap.size 26 [.int .u64 0, .int .u64 0, .int .u64 0] := Row.new' rfl rfl
              replace lw : Bz ≤ (v82.alloc (.cells #[.int .u64 0, .int .u64 0, .int .u64 0] 26 (0, 0))).heap.size := Nat.le_trans lw (by simp)
              generalize v82.heap.size = p at *
              generalize v82.alloc (.cells #[.int .u64 0, .int .u64 0, .int .u64 0] 26 (0, 0)) = v83 at *
              refine two_d 6 8 rfl rfl (by kernel_rfl) ?_ ?_
              · intro K hK
                go_simp
                refine (CT2.out _).mono ?_
                rintro e v84 ⟨rfl, bb0⟩
                replace ra := ra.below bb0 ra.lt
                replace lw := Nat.le_trans lw bb0.size
                refine hK.out _ _ (⟨hHeld.1.below bb0 hHeld.1.lt, hHeld.2.trans (bb0.mono hHeld.2.size)⟩) (fun hHeld => ?_)
                clear bb0
                clear hK K
                try simp only [Act.put, List.setIfInBounds_toArray, List.set_cons_zero, List.set_cons_succ]
                refine one_d 8 (some 13) rfl (by kernel_rfl) ?_
                intro o ho1 hd K hK
                cases ho1
                go_simp
                refine hK.out _ _ ⟨hHeld.1.alloc _, hHeld.2.alloc hHeld.2.size _⟩ (fun hHeld => ?_)
                clear hK K hd
                try simp only [Act.put, List.setIfInBounds_toArray, List.set_cons_zero, List.set_cons_succ]
                have lq : Bz ≤ v84.heap.size := lw
                have lpq : p < v84.heap.size := ra.lt
                have rb : Row (v84.alloc (.cells #[.int .u64 0, .int .u64 0, .int .u64 0] 26 (0, 0))) v84.heap.size 26 [.int .u64 0, .int .u64 0, .int .u64 0] := Row.new' rfl rfl
                replace ra := ra.alloc (.cells #[.int .u64 0, .int .u64 0, .int .u64 0] 26 (0, 0))
                replace lw : Bz ≤ (v84.alloc (.cells #[.int .u64 0, .int .u64 0, .int .u64 0] 26 (0, 0))).heap.size := Nat.le_trans lw (by simp)
                generalize v84.heap.size = q at *
                generalize v84.alloc (.cells #[.int .u64 0, .int .u64 0, .int .u64 0] 26 (0, 0)) = v85 at *
                exact leaf.out p q _ (by omega) ra rb hHeld
              · intro K hK
                go_simp
                refine hK.out _ _ ⟨hHeld.1.alloc _, hHeld.2.alloc hHeld.2.size _⟩ (fun hHeld => ?_)
                clear hK K
                try simp only [Act.put, List.setIfInBounds_toArray, List.set_cons_zero, List.set_cons_succ]
                have lq : Bz ≤ v83.heap.size := lw
                have lpq : p < v83.heap.size := ra.lt
                have rb : Row (v83.alloc (.cells #[.int .u64 0, .int .u64 0, .int .u64 0] 26 (0, 0))) v83.heap.size 26 [.int .u64 0, .int .u64 0, .int .u64 0] := Row.new' rfl rfl
                replace ra := ra.alloc (.cells #[.int .u64 0, .int .u64 0, .int .u64 0] 26 (0, 0))
                replace lw : Bz ≤ (v83.alloc (.cells #[.int .u64 0, .int .u64 0, .int .u64 0] 26 (0, 0))).heap.size := Nat.le_trans lw (by simp)
                generalize v83.heap.size = q at *
                generalize v83.alloc (.cells #[.int .u64 0, .int .u64 0, .int .u64 0] 26 (0, 0)) = v84 at *
                refine one_d 6 (some 35) rfl (by kernel_rfl) ?_
                intro o ho1 hd K hK
                cases ho1
                go_simp
                refine (CT2.out _).mono ?_
                rintro e v85 ⟨rfl, bb0⟩
                replace ra := ra.below bb0 ra.lt
                replace rb := rb.below bb0 rb.lt
                replace lw := Nat.le_trans lw bb0.size
                refine hK.out _ _ (⟨hHeld.1.below bb0 hHeld.1.lt, hHeld.2.trans (bb0.mono hHeld.2.size)⟩) (fun hHeld => ?_)
                clear bb0
                clear hK K hd
                try simp only [Act.put, List.setIfInBounds_toArray, List.set_cons_zero, List.set_cons_succ]
                exact leaf.out p q _ (by omega) ra rb hHeld
            · intro K hK
              go_simp
              refine hK.out _ _ ⟨hHeld.1.alloc _, hHeld.2.alloc hHeld.2.size _⟩ (fun hHeld => ?_)
              clear hK K
              try simp only [Act.put, List.setIfInBounds_toArray, List.set_cons_zero, List.set_cons_succ]
              have lq : Bz ≤ v82.heap.size := lw
              have rb : Row (v82.alloc (.cells #[.int .u64 0, .int .u64 0, .int .u64 0] 26 (0, 0))) v82.heap.size 26 [.int .u64 0, .int .u64 0, .int .u64 0] := Row.new' rfl rfl
              replace lw : Bz ≤ (v82.alloc (.cells #[.int .u64 0, .int .u64 0, .int .u64 0] 26 (0, 0))).heap.size := Nat.le_trans lw (by simp)
              generalize v82.heap.size = q at *
              generalize v82.alloc (.cells #[.int .u64 0, .int .u64 0, .int .u64 0] 26 (0, 0)) = v83 at *
              refine two_d 6 7 rfl rfl (by kernel_rfl) ?_ ?_
              · intro K hK
                go_simp
                refine (CT2.out _).mono ?_
                rintro e v84 ⟨rfl, bb0⟩
                replace rb := rb.below bb0 rb.lt
                replace lw := Nat.le_trans lw bb0.size
                refine hK.out _ _ (⟨hHeld.1.below bb0 hHeld.1.lt, hHeld.2.trans (bb0.mono hHeld.2.size)⟩) (fun hHeld => ?_)
                clear bb0
                clear hK K
                try simp only [Act.put, List.setIfInBounds_toArray, List.set_cons_zero, List.set_cons_succ]
                refine one_d 7 (some 12) rfl (by kernel_rfl) ?_
                intro o ho1 hd K hK
                cases ho1
                go_simp
                refine hK.out _ _ ⟨hHeld.1.alloc _, hHeld.2.alloc hHeld.2.size _⟩ (fun hHeld => ?_)
                clear hK K hd
                try simp only [Act.put, List.setIfInBounds_toArray, List.set_cons_zero, List.set_cons_succ]
                have lp : Bz ≤ v84.heap.size := lw
                have lqp : q < v84.heap.size := rb.lt
                have ra : Row (v84.alloc (.cells #[.int .u64 0, .int .u64 0, .int .u64 0] 26 (0, 0))) v84.heap.size 26 [.int .u64 0, .int .u64 0, .int .u64 0] := Row.new' rfl rfl
                replace rb := rb.alloc (.cells #[.int .u64 0, .int .u64 0, .int .u64 0] 26 (0, 0))
                replace lw : Bz ≤ (v84.alloc (.cells #[.int .u64 0, .int .u64 0, .int .u64 0] 26 (0, 0))).heap.size := Nat.le_trans lw (by simp)
                generalize v84.heap.size = p at *
                generalize v84.alloc (.cells #[.int .u64 0, .int .u64 0, .int .u64 0] 26 (0, 0)) = v85 at *
                exact leaf.out p q _ (by omega) ra rb hHeld
              · intro K hK
                go_simp
                refine hK.out _ _ ⟨hHeld.1.alloc _, hHeld.2.alloc hHeld.2.size _⟩ (fun hHeld => ?_)
                clear hK K
                try simp only [Act.put, List.setIfInBounds_toArray, List.set_cons_zero, List.set_cons_succ]
                have lp : Bz ≤ v83.heap.size := lw
                have lqp : q < v83.heap.size := rb.lt
                have ra : Row (v83.alloc (.cells #[.int .u64 0, .int .u64 0, .int .u64 0] 26 (0, 0))) v83.heap.size 26 [.int .u64 0, .int .u64 0, .int .u64 0] := Row.new' rfl rfl
                replace rb := rb.alloc (.cells #[.int .u64 0, .int .u64 0, .int .u64 0] 26 (0, 0))
                replace lw : Bz ≤ (v83.alloc (.cells #[.int .u64 0, .int .u64 0, .int .u64 0] 26 (0, 0))).heap.size := Nat.le_trans lw (by simp)
                generalize v83.heap.size = p at *
                generalize v83.alloc (.cells #[.int .u64 0, .int .u64 0, .int .u64 0] 26 (0, 0)) = v84 at *
                refine one_d 6 (some 35) rfl (by kernel_rfl) ?_
                intro o ho1 hd K hK
                cases ho1
                go_simp
                refine (CT2.out _).mono ?_
                rintro e v85 ⟨rfl, bb0⟩
                replace rb := rb.below bb0 rb.lt
                replace ra := ra.below bb0 ra.lt
                replace lw := Nat.le_trans lw bb0.size
                refine hK.out _ _ (⟨hHeld.1.below bb0 hHeld.1.lt, hHeld.2.trans (bb0.mono hHeld.2.size)⟩) (fun hHeld => ?_)
                clear bb0
                clear hK K hd
                try simp only [Act.put, List.setIfInBounds_toArray, List.set_cons_zero, List.set_cons_succ]
                exact leaf.out p q _ (by omega) ra rb hHeld
          · intro K hK
            go_simp
            refine hK.out _ _ ⟨hHeld.1.alloc _, hHeld.2.alloc hHeld.2.size _⟩ (fun hHeld => ?_)
            clear hK K
            try simp only [Act.put, List.setIfInBounds_toArray, List.set_cons_zero, List.set_cons_succ]
            have lp : Bz ≤ wd81.heap.size := lw
            have ra : Row (wd81.alloc (.cells #[.int .u64 0, .int .u64 0, .int .u64 0] 26 (0, 0))) wd81.heap.size 26 [.int .u64 0, .int .u64 0, .int .u64 0] := Row.new' rfl rfl
            replace lw : Bz ≤ (wd81.alloc (.cells #[.int .u64 0, .int .u64 0, .int .u64 0] 26 (0, 0))).heap.size := Nat.le_trans lw (by simp)
            generalize wd81.heap.size = p at *
            generalize wd81.alloc (.cells #[.int .u64 0, .int .u64 0, .int .u64 0] 26 (0, 0)) = v82 at *
            refine two_d 2 8 rfl rfl (by kernel_rfl) ?_ ?_
            · intro K hK
              go_simp
              refine (CT1.out _).mono ?_
              rintro e v83 ⟨rfl, bb0⟩
              replace ra := ra.below bb0 ra.lt
              replace lw := Nat.le_trans lw bb0.size
              refine hK.out _ _ (⟨hHeld.1.below bb0 hHeld.1.lt, hHeld.2.trans (bb0.mono hHeld.2.size)⟩) (fun hHeld => ?_)
              clear bb0
              clear hK K
              try simp only [Act.put, List.setIfInBounds_toArray, List.set_cons_zero, List.set_cons_succ]
              refine two_d 6 8 rfl rfl (by kernel_rfl) ?_ ?_
              · intro K hK
                go_simp
                refine (CT2.out _).mono ?_
                rintro e v84 ⟨rfl, bb0⟩
                replace ra := ra.below bb0 ra.lt
                replace lw := Nat.le_trans lw bb0.size
                refine hK.out _ _ (⟨hHeld.1.below bb0 hHeld.1.lt, hHeld.2.trans (bb0.mono hHeld.2.size)⟩) (fun hHeld => ?_)
                clear bb0
                clear hK K
                try simp only [Act.put, List.setIfInBounds_toArray, List.set_cons_zero, List.set_cons_succ]
                refine one_d 8 (some 13) rfl (by kernel_rfl) ?_
                intro o ho1 hd K hK
                cases ho1
                go_simp
                refine hK.out _ _ ⟨hHeld.1.alloc _, hHeld.2.alloc hHeld.2.size _⟩ (fun hHeld => ?_)
                clear hK K hd
                try simp only [Act.put, List.setIfInBounds_toArray, List.set_cons_zero, List.set_cons_succ]
                have lq : Bz ≤ v84.heap.size := lw
                have lpq : p < v84.heap.size := ra.lt
                have rb : Row (v84.alloc (.cells #[.int .u64 0, .int .u64 0, .int .u64 0] 26 (0, 0))) v84.heap.size 26 [.int .u64 0, .int .u64 0, .int .u64 0] := Row.new' rfl rfl
                replace ra := ra.alloc (.cells #[.int .u64 0, .int .u64 0, .int .u64 0] 26 (0, 0))
                replace lw : Bz ≤ (v84.alloc (.cells #[.int .u64 0, .int .u64 0, .int .u64 0] 26 (0, 0))).heap.size := Nat.le_trans lw (by simp)
                generalize v84.heap.size = q at *
                generalize v84.alloc (.cells #[.int .u64 0, .int .u64 0, .int .u64 0] 26 (0, 0)) = v85 at *
                exact leaf.out p q _ (by omega) ra rb hHeld
              · intro K hK
                go_simp
                refine hK.out _ _ ⟨hHeld.1.alloc _, hHeld.2.alloc hHeld.2.size _⟩ (fun hHeld => ?_)
                clear hK K
                try simp only [Act.put, List.setIfInBounds_toArray, List.set_cons_zero, List.set_cons_succ]
                have lq : Bz ≤ v83.heap.size := lw
                have lpq : p < v83.heap.size := ra.lt
                have rb : Row (v83.alloc (.cells #[.int .u64 0, .int .u64 0, .int .u64 0] 26 (0, 0))) v83.heap.size 26 [.int .u64 0, .int .u64 0, .int .u64 0] := Row.new' rfl rfl
                replace ra := ra.alloc (.cells #[.int .u64 0, .int .u64 0, .int .u64 0] 26 (0, 0))
                replace lw : Bz ≤ (v83.alloc (.cells #[.int .u64 0, .int .u64 0, .int .u64 0] 26 (0, 0))).heap.size := Nat.le_trans lw (by simp)
                generalize v83.heap.size = q at *
                generalize v83.alloc (.cells #[.int .u64 0, .int .u64 0, .int .u64 0] 26 (0, 0)) = v84 at *
                refine one_d 6 (some 35) rfl (by kernel_rfl) ?_
                intro o ho1 hd K hK
                cases ho1
                go_simp
                refine (CT2.out _).mono ?_
                rintro e v85 ⟨rfl, bb0⟩
                replace ra := ra.below bb0 ra.lt
                replace rb := rb.below bb0 rb.lt
                replace lw := Nat.le_trans lw bb0.size
                refine hK.out _ _ (⟨hHeld.1.below bb0 hHeld.1.lt, hHeld.2.trans (bb0.mono hHeld.2.size)⟩) (fun hHeld => ?_)
                clear bb0
                clear hK K hd
                try simp only [Act.put, List.setIfInBounds_toArray, List.set_cons_zero, List.set_cons_succ]
                exact leaf.out p q _ (by omega) ra rb hHeld
            · intro K hK
              go_simp
              refine hK.out _ _ ⟨hHeld.1.alloc _, hHeld.2.alloc hHeld.2.size _⟩ (fun hHeld => ?_)
              clear hK K
              try simp only [Act.put, List.setIfInBounds_toArray, List.set_cons_zero, List.set_cons_succ]
              have lq : Bz ≤ v82.heap.size := lw
              have lpq : p < v82.heap.size := ra.lt
              have rb : Row (v82.alloc (.cells #[.int .u64 0, .int .u64 0, .int .u64 0] 26 (0, 0))) v82.heap.size 26 [.int .u64 0, .int .u64 0, .int .u64 0] := Row.new' rfl rfl
              replace ra := ra.alloc (.cells #[.int .u64 0, .int .u64 0, .int .u64 0] 26 (0, 0))
              replace lw : Bz ≤ (v82.alloc (.cells #[.int .u64 0, .int .u64 0, .int .u64 0] 26 (0, 0))).heap.size := Nat.le_trans lw (by simp)
              generalize v82.heap.size = q at *
              generalize v82.alloc (.cells #[.int .u64 0, .int .u64 0, .int .u64 0] 26 (0, 0)) = v83 at *
              refine one_d 2 (some 31) rfl (by kernel_rfl) ?_
              intro o ho1 hd K hK
              cases ho1
              go_simp
              refine (CT1.out _).mono ?_
              rintro e v84 ⟨rfl, bb0⟩
              replace ra := ra.below bb0 ra.lt
              replace rb := rb.below bb0 rb.lt
              replace lw := Nat.le_trans lw bb0.size
              refine hK.out _ _ (⟨hHeld.1.below bb0 hHeld.1.lt, hHeld.2.trans (bb0.mono hHeld.2.size)⟩) (fun hHeld => ?_)
              clear bb0
              clear hK K hd
              try simp only [Act.put, List.setIfInBounds_toArray, List.set_cons_zero, List.set_cons_succ]
              refine one_d 6 (some 35) rfl (by kernel_rfl) ?_
              intro o ho1 hd K hK
              cases ho1
              go_simp
              refine (CT2.out _).mono ?_
              rintro e v85 ⟨rfl, bb0⟩
              replace ra := ra.below bb0 ra.lt
              replace rb := rb.below bb0 rb.lt
              replace lw := Nat.le_trans lw bb0.size
              refine hK.out _ _ (⟨hHeld.1.below bb0 hHeld.1.lt, hHeld.2.trans (bb0.mono hHeld.2.size)⟩) (fun hHeld => ?_)
              clear bb0
              clear hK K hd
              try simp only [Act.put, List.setIfInBounds_toArray, List.set_cons_zero, List.set_cons_succ]
              exact leaf.out p q _ (by omega) ra rb hHeld
          · intro K hK
            go_simp
            refine hK.out _ _ ⟨hHeld.1.alloc _, hHeld.2.alloc hHeld.2.size _⟩ (fun hHeld => ?_)
            clear hK K
            try simp only [Act.put, List.setIfInBounds_toArray, List.set_cons_zero, List.set_cons_succ]
            have lq : Bz ≤ wd81.heap.size := lw
            have rb : Row (wd81.alloc (.cells #[.int .u64 0, .int .u64 0, .int .u64 0] 26 (0, 0))) wd81.heap.size 26 [.int .u64 0, .int .u64 0, .int .u64 0] := Row.new' rfl rfl
            replace lw : Bz ≤ (wd81.alloc (.cells #[.int .u64 0, .int .u64 0, .int .u64 0] 26 (0, 0))).heap.size := Nat.le_trans lw (by simp)
            generalize wd81.heap.size = q at *
            generalize wd81.alloc (.cells #[.int .u64 0, .int .u64 0, .int .u64 0] 26 (0, 0)) = v82 at *
            refine two_d 2 7 rfl rfl (by kernel_rfl) ?_ ?_
            · intro K hK
              go_simp
              refine (CT1.out _).mono ?_
              rintro e v83 ⟨rfl, bb0⟩
              replace rb := rb.below bb0 rb.lt
              replace lw := Nat.le_trans lw bb0.size
              refine hK.out _ _ (⟨hHeld.1.below bb0 hHeld.1.lt, hHeld.2.trans (bb0.mono hHeld.2.size)⟩) (fun hHeld => ?_)
              clear bb0
              clear hK K
              try simp only [Act.put, List.setIfInBounds_toArray, List.set_cons_zero, List.set_cons_succ]
              refine two_d 6 7 rfl rfl (by kernel_rfl) ?_ ?_
              · intro K hK
                go_simp
                refine (CT2.out _).mono ?_
                rintro e v84 ⟨rfl, bb0⟩
                replace rb := rb.below bb0 rb.lt
                replace lw := Nat.le_trans lw bb0.size
                refine hK.out _ _ (⟨hHeld.1.below bb0 hHeld.1.lt, hHeld.2.trans (bb0.mono hHeld.2.size)⟩) (fun hHeld => ?_)
                clear bb0
                clear hK K
                try simp only [Act.put, List.setIfInBounds_toArray, List.set_cons_zero, List.set_cons_succ]
                refine one_d 7 (some 12) rfl (by kernel_rfl) ?_
                intro o ho1 hd K hK
                cases ho1
                go_simp
                refine hK.out _ _ ⟨hHeld.1.alloc _, hHeld.2.alloc hHeld.2.size _⟩ (fun hHeld => ?_)
                clear hK K hd
                try simp only [Act.put, List.setIfInBounds_toArray, List.set_cons_zero, List.set_cons_succ]
                have lp : Bz ≤ v84.heap.size := lw
                have lqp : q < v84.heap.size := rb.lt
                have ra : Row (v84.alloc (.cells #[.int .u64 0, .int .u64 0, .int .u64 0] 26 (0, 0))) v84.heap.size 26 [.int .u64 0, .int .u64 0, .int .u64 0] := Row.new' rfl rfl
                replace rb := rb.alloc (.cells #[.int .u64 0, .int .u64 0, .int .u64 0] 26 (0, 0))
                replace lw : Bz ≤ (v84.alloc (.cells #[.int .u64 0, .int .u64 0, .int .u64 0] 26 (0, 0))).heap.size := Nat.le_trans lw (by simp)
                generalize v84.heap.size = p at *
                generalize v84.alloc (.cells #[.int .u64 0, .int .u64 0, .int .u64 0] 26 (0, 0)) = v85 at *
                exact leaf.out p q _ (by omega) ra rb hHeld
              · intro K hK
                go_simp
                refine hK.out _ _ ⟨hHeld.1.alloc _, hHeld.2.alloc hHeld.2.size _⟩ (fun hHeld => ?_)
                clear hK K
                try simp only [Act.put, List.setIfInBounds_toArray, List.set_cons_zero, List.set_cons_succ]
                have lp : Bz ≤ v83.heap.size := lw
                have lqp : q < v83.heap.size := rb.lt
                have ra : Row (v83.alloc (.cells #[.int .u64 0, .int .u64 0, .int .u64 0] 26 (0, 0))) v83.heap.size 26 [.int .u64 0, .int .u64 0, .int .u64 0] := Row.new' rfl rfl
                replace rb := rb.alloc (.cells #[.int .u64 0, .int .u64 0, .int .u64 0] 26 (0, 0))
                replace lw : Bz ≤ (v83.alloc (.cells #[.int .u64 0, .int .u64 0, .int .u64 0] 26 (0, 0))).heap.size := Nat.le_trans lw (by simp)
                generalize v83.heap.size = p at *
                generalize v83.alloc (.cells #[.int .u64 0, .int .u64 0, .int .u64 0] 26 (0, 0)) = v84 at *
                refine one_d 6 (some 35) rfl (by kernel_rfl) ?_
                intro o ho1 hd K hK
                cases ho1
                go_simp
                refine (CT2.out _).mono ?_
                rintro e v85 ⟨rfl, bb0⟩
                replace rb := rb.below bb0 rb.lt
                replace ra := ra.below bb0 ra.lt
                replace lw := Nat.le_trans lw bb0.size
                refine hK.out _ _ (⟨hHeld.1.below bb0 hHeld.1.lt, hHeld.2.trans (bb0.mono hHeld.2.size)⟩) (fun hHeld => ?_)
                clear bb0
                clear hK K hd
                try simp only [Act.put, List.setIfInBounds_toArray, List.set_cons_zero, List.set_cons_succ]
                exact leaf.out p q _ (by omega) ra rb hHeld
            · intro K hK
              go_simp
              refine hK.out _ _ ⟨hHeld.1.alloc _, hHeld.2.alloc hHeld.2.size _⟩ (fun hHeld => ?_)
              clear hK K
              try simp only [Act.put, List.setIfInBounds_toArray, List.set_cons_zero, List.set_cons_succ]
              have lp : Bz ≤ v82.heap.size := lw
              have lqp : q < v82.heap.size := rb.lt
              have ra : Row (v82.alloc (.cells #[.int .u64 0, .int .u64 0, .int .u64 0] 26 (0, 0))) v82.heap.size 26 [.int .u64 0, .int .u64 0, .int .u64 0] := Row.new' rfl rfl
              replace rb := rb.alloc (.cells #[.int .u64 0, .int .u64 0, .int .u64 0] 26 (0, 0))
              replace lw : Bz ≤ (v82.alloc (.cells #[.int .u64 0, .int .u64 0, .int .u64 0] 26 (0, 0))).heap.size := Nat.le_trans lw (by simp)
              generalize v82.heap.size = p at *
              generalize v82.alloc (.cells #[.int .u64 0, .int .u64 0, .int .u64 0] 26 (0, 0)) = v83 at *
              refine one_d 2 (some 31) rfl (by kernel_rfl) ?_
              intro o ho1 hd K hK
              cases ho1
              go_simp
              refine (CT1.out _).mono ?_
              rintro e v84 ⟨rfl, bb0⟩
              replace rb := rb.below bb0 rb.lt
              replace ra := ra.below bb0 ra.lt
              replace lw := Nat.le_trans lw bb0.size
              refine hK.out _ _ (⟨hHeld.1.below bb0 hHeld.1.lt, hHeld.2.trans (bb0.mono hHeld.2.size)⟩) (fun hHeld => ?_)
              clear bb0
              clear hK K hd
              try simp only [Act.put, List.setIfInBounds_toArray, List.set_cons_zero, List.set_cons_succ]
              refine one_d 6 (some 35) rfl (by kernel_rfl) ?_
              intro o ho1 hd K hK
              cases ho1
              go_simp
              refine (CT2.out _).mono ?_
              rintro e v85 ⟨rfl, bb0⟩
              replace rb := rb.below bb0 rb.lt
              replace ra := ra.below bb0 ra.lt
              replace lw := Nat.le_trans lw bb0.size
              refine hK.out _ _ (⟨hHeld.1.below bb0 hHeld.1.lt, hHeld.2.trans (bb0.mono hHeld.2.size)⟩) (fun hHeld => ?_)
              clear bb0
              clear hK K hd
              try simp only [Act.put, List.setIfInBounds_toArray, List.set_cons_zero, List.set_cons_succ]
              exact leaf.out p q _ (by omega) ra rb hHeld
        case lf =>
          intro p q wz hdis ra rb hHeld
          refine one_d 9 none rfl (by kernel_rfl) ?_
          intro o ho1 hd K hK
          cases ho1
          refine step_store_row rfl 26 (.tmp 12) (.tmp 31) rfl (p) [.int .u64 (n' : Int), .int .u64 (S' : Int), .int .u64 (V' : Int)] rfl rfl _ _ ra infoClock rfl (by simp [Value.oneCell']) ?_
          rw [hd]
          replace rb := rb.setRow_other (k := p) (by omega) (List.toArray [.int .u64 (n' : Int), .int .u64 (S' : Int), .int .u64 (V' : Int)])
          replace ra := ra.setRow [.int .u64 (n' : Int), .int .u64 (S' : Int), .int .u64 (V' : Int)]
          have hH : Row (wz.setRow p (List.toArray [.int .u64 (n' : Int), .int .u64 (S' : Int), .int .u64 (V' : Int)])) g 26 [.int .u64 (n : Int), .int .u64 (S : Int), .int .u64 (V : Int)] ∧ Below w.heap.size w (wz.setRow p (List.toArray [.int .u64 (n' : Int), .int .u64 (S' : Int), .int .u64 (V' : Int)])) := ⟨hHeld.1.setRow_other (k := p) (by omega) (List.toArray [.int .u64 (n' : Int), .int .u64 (S' : Int), .int .u64 (V' : Int)]), below_row hHeld.2 (show _ ≤ p by omega) (List.toArray [.int .u64 (n' : Int), .int .u64 (S' : Int), .int .u64 (V' : Int)])⟩
          clear hHeld
          generalize wz.setRow p (List.toArray [.int .u64 (n' : Int), .int .u64 (S' : Int), .int .u64 (V' : Int)]) = v82 at *
          refine hK.out _ _ hH (fun hHeld => ?_)
          clear hH
          clear hK K hd
          try simp only [Act.put]
          refine one_d 10 none rfl (by kernel_rfl) ?_
          intro o ho1 hd K hK
          cases ho1
          refine step_store_row rfl 26 (.tmp 13) (.tmp 35) rfl (q) [.int .u64 (n' : Int), .int .u64 (S' : Int), .int .u64 (V' : Int)] rfl rfl _ _ rb infoClock rfl (by simp [Value.oneCell']) ?_
          rw [hd]
          replace rb := rb.setRow [.int .u64 (n' : Int), .int .u64 (S' : Int), .int .u64 (V' : Int)]
          replace ra := ra.setRow_other (k := q) (by omega) (List.toArray [.int .u64 (n' : Int), .int .u64 (S' : Int), .int .u64 (V' : Int)])
          have hH : Row (v82.setRow q (List.toArray [.int .u64 (n' : Int), .int .u64 (S' : Int), .int .u64 (V' : Int)])) g 26 [.int .u64 (n : Int), .int .u64 (S : Int), .int .u64 (V : Int)] ∧ Below w.heap.size w (v82.setRow q (List.toArray [.int .u64 (n' : Int), .int .u64 (S' : Int), .int .u64 (V' : Int)])) := ⟨hHeld.1.setRow_other (k := q) (by omega) (List.toArray [.int .u64 (n' : Int), .int .u64 (S' : Int), .int .u64 (V' : Int)]), below_row hHeld.2 (show _ ≤ q by omega) (List.toArray [.int .u64 (n' : Int), .int .u64 (S' : Int), .int .u64 (V' : Int)])⟩
          clear hHeld
          generalize v82.setRow q (List.toArray [.int .u64 (n' : Int), .int .u64 (S' : Int), .int .u64 (V' : Int)]) = v83 at *
          refine hK.out _ _ hH (fun hHeld => ?_)
          clear hH
          clear hK K hd
          try simp only [Act.put]
          refine wpAnyH_done (by kernel_rfl) ?_ _
          try simp only [Act.put]
          replace r := hHeld.1
          replace bb := hHeld.2
          clear hHeld
          go_wp2
          clear r
          refine wp_region_held_drew (S := fun w' => Row w' q 26 [.int .u64 (n' : Int), .int .u64 (S' : Int), .int .u64 (V' : Int)] ∧ Row w' p 26 [.int .u64 (n' : Int), .int .u64 (S' : Int), .int .u64 (V' : Int)] ∧ Below w.heap.size w w') (by kernel_rfl) (⟨rb.drew, ra.drew, bb.drew⟩) (fun hHeld => ?_)
          generalize v83.drew = wd84 at *
          refine take_d 0 (some 36) (.agg #[.int .u64 (n' : Int), .int .u64 (S' : Int), .int .u64 (V' : Int)]) rfl (by kernel_rfl) (by kernel_rfl) (by kernel_rfl) (fun _ _ _ h => h) (fun oi h => by cases h; exact yieldsIf_load_mid (by rfl) 26 (.tmp 12) rfl p 0 rfl [.int .u64 (n' : Int), .int .u64 (S' : Int), .int .u64 (V' : Int)] _ (fun w' hS' => hS'.2.1.range) Tryd.underlying26 rfl infoClock) hHeld ?_
          try simp only [Act.put, List.setIfInBounds_toArray, List.set_cons_zero, List.set_cons_succ]
          refine take_d 2 (some 38) (.agg #[.int .u64 (n' : Int), .int .u64 (S' : Int), .int .u64 (V' : Int)]) rfl (by kernel_rfl) (by kernel_rfl) (by kernel_rfl) (fun _ _ _ h => h) (fun oi h => by cases h; exact yieldsIf_load_mid (by rfl) 26 (.tmp 13) rfl q 0 rfl [.int .u64 (n' : Int), .int .u64 (S' : Int), .int .u64 (V' : Int)] _ (fun w' hS' => hS'.1.range) Tryd.underlying26 rfl infoClock) hHeld ?_
          try simp only [Act.put, List.setIfInBounds_toArray, List.set_cons_zero, List.set_cons_succ]
          refine one_d 1 (some 37) rfl (by kernel_rfl) ?_
          intro o ho1 hd K hK
          cases ho1
          go_simp
          refine (CS.out _).mono ?_
          rintro e v85 ⟨rfl, bb0⟩
          refine hK.out _ _ (⟨hHeld.1.below bb0 hHeld.1.lt, hHeld.2.1.below bb0 hHeld.2.1.lt, hHeld.2.2.trans (bb0.mono hHeld.2.2.size)⟩) (fun hHeld => ?_)
          clear bb0
          clear hK K hd
          try simp only [Act.put, List.setIfInBounds_toArray, List.set_cons_zero, List.set_cons_succ]
          refine one_d 3 (some 39) rfl (by kernel_rfl) ?_
          intro o ho1 hd K hK
          cases ho1
          go_simp
          refine (CS.out _).mono ?_
          rintro e v86 ⟨rfl, bb0⟩
          refine hK.out _ _ (⟨hHeld.1.below bb0 hHeld.1.lt, hHeld.2.1.below bb0 hHeld.2.1.lt, hHeld.2.2.trans (bb0.mono hHeld.2.2.size)⟩) (fun hHeld => ?_)
          clear bb0
          clear hK K hd
          try simp only [Act.put, List.setIfInBounds_toArray, List.set_cons_zero, List.set_cons_succ]
          refine take_d 4 (some 40) (.bool true) rfl (by kernel_rfl) (by kernel_rfl) (by kernel_rfl) (fun _ _ _ h => h) (fun oi h => by cases h; exact Or.inl ⟨by rfl, fun w' hS' => by go_simp⟩) hHeld ?_
          try simp only [Act.put, List.setIfInBounds_toArray, List.set_cons_zero, List.set_cons_succ]
          refine take_d 5 (some 41) (.bool true) rfl (by kernel_rfl) (by kernel_rfl) (by kernel_rfl) (fun _ _ _ h => h) (fun oi h => by cases h; exact Or.inl ⟨by rfl, fun w' hS' => by go_simp⟩) hHeld ?_
          try simp only [Act.put, List.setIfInBounds_toArray, List.set_cons_zero, List.set_cons_succ]
          refine take_d 6 (some 42) (.agg #[.int .u64 (n' : Int), .int .u64 (S' : Int), .int .u64 (V' : Int)]) rfl (by kernel_rfl) (by kernel_rfl) (by kernel_rfl) (fun _ _ _ h => h) (fun oi h => by cases h; exact yieldsIf_load_mid (by rfl) 26 (.tmp 12) rfl p 0 rfl [.int .u64 (n' : Int), .int .u64 (S' : Int), .int .u64 (V' : Int)] _ (fun w' hS' => hS'.2.1.range) Tryd.underlying26 rfl infoClock) hHeld ?_
          try simp only [Act.put, List.setIfInBounds_toArray, List.set_cons_zero, List.set_cons_succ]
          refine take_d 8 (some 44) (.agg #[.int .u64 (n' : Int), .int .u64 (S' : Int), .int .u64 (V' : Int)]) rfl (by kernel_rfl) (by kernel_rfl) (by kernel_rfl) (fun _ _ _ h => h) (fun oi h => by cases h; exact yieldsIf_load_mid (by rfl) 26 (.tmp 13) rfl q 0 rfl [.int .u64 (n' : Int), .int .u64 (S' : Int), .int .u64 (V' : Int)] _ (fun w' hS' => hS'.1.range) Tryd.underlying26 rfl infoClock) hHeld ?_
          try simp only [Act.put, List.setIfInBounds_toArray, List.set_cons_zero, List.set_cons_succ]
          refine one_d 7 (some 43) rfl (by kernel_rfl) ?_
          intro o ho1 hd K hK
          cases ho1
          go_simp
          refine (CQ.out _).mono ?_
          rintro e v87 ⟨rfl, bb0⟩
          refine hK.out _ _ (⟨hHeld.1.below bb0 hHeld.1.lt, hHeld.2.1.below bb0 hHeld.2.1.lt, hHeld.2.2.trans (bb0.mono hHeld.2.2.size)⟩) (fun hHeld => ?_)
          clear bb0
          clear hK K hd
          try simp only [Act.put, List.setIfInBounds_toArray, List.set_cons_zero, List.set_cons_succ]
          refine one_d 9 (some 45) rfl (by kernel_rfl) ?_
          intro o ho1 hd K hK
          cases ho1
          go_simp
          refine (CQ.out _).mono ?_
          rintro e v88 ⟨rfl, bb0⟩
          refine hK.out _ _ (⟨hHeld.1.below bb0 hHeld.1.lt, hHeld.2.1.below bb0 hHeld.2.1.lt, hHeld.2.2.trans (bb0.mono hHeld.2.2.size)⟩) (fun hHeld => ?_)
          clear bb0
          clear hK K hd
          try simp only [Act.put, List.setIfInBounds_toArray, List.set_cons_zero, List.set_cons_succ]
          refine take_d 10 (some 46) (.bool true) rfl (by kernel_rfl) (by kernel_rfl) (by kernel_rfl) (fun _ _ _ h => h) (fun oi h => by cases h; exact Or.inl ⟨by rfl, fun w' hS' => by go_simp⟩) hHeld ?_
          try simp only [Act.put, List.setIfInBounds_toArray, List.set_cons_zero, List.set_cons_succ]
          refine take_d 11 (some 47) (.bool true) rfl (by kernel_rfl) (by kernel_rfl) (by kernel_rfl) (fun _ _ _ h => h) (fun oi h => by cases h; exact Or.inl ⟨by rfl, fun w' hS' => by go_simp⟩) hHeld ?_
          try simp only [Act.put, List.setIfInBounds_toArray, List.set_cons_zero, List.set_cons_succ]
          refine take_d 12 (some 48) (.bool true) rfl (by kernel_rfl) (by kernel_rfl) (by kernel_rfl) (fun _ _ _ h => h) (fun oi h => by cases h; exact Or.inl ⟨by rfl, fun w' hS' => by go_simp⟩) hHeld ?_
          try simp only [Act.put, List.setIfInBounds_toArray, List.set_cons_zero, List.set_cons_succ]
          refine take_d 13 (some 49) (.agg #[.int .u64 (n' : Int), .int .u64 (S' : Int), .int .u64 (V' : Int)]) rfl (by kernel_rfl) (by kernel_rfl) (by kernel_rfl) (fun _ _ _ h => h) (fun oi h => by cases h; exact yieldsIf_load_mid (by rfl) 26 (.tmp 12) rfl p 0 rfl [.int .u64 (n' : Int), .int .u64 (S' : Int), .int .u64 (V' : Int)] _ (fun w' hS' => hS'.2.1.range) Tryd.underlying26 rfl infoClock) hHeld ?_
          try simp only [Act.put, List.setIfInBounds_toArray, List.set_cons_zero, List.set_cons_succ]
          refine take_d 15 (some 51) (.slice a0 len cap0) rfl (by kernel_rfl) (by kernel_rfl) (by kernel_rfl) (fun _ _ _ h => h) (fun oi h => by cases h; exact Or.inl ⟨by rfl, fun w' hS' => by go_simp⟩) hHeld ?_
          try simp only [Act.put, List.setIfInBounds_toArray, List.set_cons_zero, List.set_cons_succ]
          refine take_d 16 (some 52) (.int .i64 (len : Int)) rfl (by kernel_rfl) (by kernel_rfl) (by kernel_rfl) (fun _ _ _ h => h) (fun oi h => by cases h; exact Or.inl ⟨by rfl, fun w' hS' => by go_simp⟩) hHeld ?_
          try simp only [Act.put, List.setIfInBounds_toArray, List.set_cons_zero, List.set_cons_succ]
          refine take_d 17 (some 53) (.int .i64 ((len : Int) + 1)) rfl (by kernel_rfl) (by kernel_rfl) (by kernel_rfl) (fun _ _ _ h => h) (fun oi h => by cases h; exact Or.inl ⟨by rfl, fun w' hS' => by have f := FL2.out; go_simp⟩) hHeld ?_
          try simp only [Act.put, List.setIfInBounds_toArray, List.set_cons_zero, List.set_cons_succ]
          refine take_d 18 (some 54) (.int .u64 ((len : Int) + 1)) rfl (by kernel_rfl) (by kernel_rfl) (by kernel_rfl) (fun _ _ _ h => h) (fun oi h => by cases h; exact Or.inl ⟨by rfl, fun w' hS' => by have f := FL.out; go_simp⟩) hHeld ?_
          try simp only [Act.put, List.setIfInBounds_toArray, List.set_cons_zero, List.set_cons_succ]
          refine one_d 14 (some 50) rfl (by kernel_rfl) ?_
          intro o ho1 hd K hK
          cases ho1
          go_simp
          refine (CC.out _).mono ?_
          rintro e v89 ⟨rfl, bb0⟩
          refine hK.out _ _ (⟨hHeld.1.below bb0 hHeld.1.lt, hHeld.2.1.below bb0 hHeld.2.1.lt, hHeld.2.2.trans (bb0.mono hHeld.2.2.size)⟩) (fun hHeld => ?_)
          clear bb0
          clear hK K hd
          try simp only [Act.put, List.setIfInBounds_toArray, List.set_cons_zero, List.set_cons_succ]
          refine take_d 19 (some 55) (.bool true) rfl (by kernel_rfl) (by kernel_rfl) (by kernel_rfl) (fun _ _ _ h => h) (fun oi h => by cases h; exact Or.inl ⟨by rfl, fun w' hS' => by have f := FN.out; go_simp⟩) hHeld ?_
          try simp only [Act.put, List.setIfInBounds_toArray, List.set_cons_zero, List.set_cons_succ]
          refine take_d 20 (some 56) (.bool true) rfl (by kernel_rfl) (by kernel_rfl) (by kernel_rfl) (fun _ _ _ h => h) (fun oi h => by cases h; exact Or.inl ⟨by rfl, fun w' hS' => by go_simp⟩) hHeld ?_
          try simp only [Act.put, List.setIfInBounds_toArray, List.set_cons_zero, List.set_cons_succ]
          refine take_d 21 (some 57) (.bool true) rfl (by kernel_rfl) (by kernel_rfl) (by kernel_rfl) (fun _ _ _ h => h) (fun oi h => by cases h; exact Or.inl ⟨by rfl, fun w' hS' => by go_simp⟩) hHeld ?_
          try simp only [Act.put, List.setIfInBounds_toArray, List.set_cons_zero, List.set_cons_succ]
          refine take_d 22 (some 58) (.agg #[.int .u64 (n' : Int), .int .u64 (S' : Int), .int .u64 (V' : Int)]) rfl (by kernel_rfl) (by kernel_rfl) (by kernel_rfl) (fun _ _ _ h => h) (fun oi h => by cases h; exact yieldsIf_load_mid (by rfl) 26 (.tmp 12) rfl p 0 rfl [.int .u64 (n' : Int), .int .u64 (S' : Int), .int .u64 (V' : Int)] _ (fun w' hS' => hS'.2.1.range) Tryd.underlying26 rfl infoClock) hHeld ?_
          try simp only [Act.put, List.setIfInBounds_toArray, List.set_cons_zero, List.set_cons_succ]
          refine take_d 24 (some 60) (.agg #[.int .u64 (n' : Int), .int .u64 (S' : Int), .int .u64 (V' : Int)]) rfl (by kernel_rfl) (by kernel_rfl) (by kernel_rfl) (fun _ _ _ h => h) (fun oi h => by cases h; exact yieldsIf_load_mid (by rfl) 26 (.tmp 13) rfl q 0 rfl [.int .u64 (n' : Int), .int .u64 (S' : Int), .int .u64 (V' : Int)] _ (fun w' hS' => hS'.1.range) Tryd.underlying26 rfl infoClock) hHeld ?_
          try simp only [Act.put, List.setIfInBounds_toArray, List.set_cons_zero, List.set_cons_succ]
          refine one_d 23 (some 59) rfl (by kernel_rfl) ?_
          intro o ho1 hd K hK
          cases ho1
          go_simp
          refine (CJ.out _).mono ?_
          rintro e v90 ⟨rfl, bb0⟩
          refine hK.out _ _ (⟨hHeld.1.below bb0 hHeld.1.lt, hHeld.2.1.below bb0 hHeld.2.1.lt, hHeld.2.2.trans (bb0.mono hHeld.2.2.size)⟩) (fun hHeld => ?_)
          clear bb0
          clear hK K hd
          try simp only [Act.put, List.setIfInBounds_toArray, List.set_cons_zero, List.set_cons_succ]
          refine one_d 25 (some 61) rfl (by kernel_rfl) ?_
          intro o ho1 hd K hK
          cases ho1
          go_simp
          refine (CJ.out _).mono ?_
          rintro e v91 ⟨rfl, bb0⟩
          refine hK.out _ _ (⟨hHeld.1.below bb0 hHeld.1.lt, hHeld.2.1.below bb0 hHeld.2.1.lt, hHeld.2.2.trans (bb0.mono hHeld.2.2.size)⟩) (fun hHeld => ?_)
          clear bb0
          clear hK K hd
          try simp only [Act.put, List.setIfInBounds_toArray, List.set_cons_zero, List.set_cons_succ]
          refine one_d 26 (some 62) rfl (by kernel_rfl) ?_
          intro o ho1 hd K hK
          cases ho1
          go_simp
          refine (CM.out _).mono ?_
          rintro e v92 ⟨rfl, bb0⟩
          refine hK.out _ _ (⟨hHeld.1.below bb0 hHeld.1.lt, hHeld.2.1.below bb0 hHeld.2.1.lt, hHeld.2.2.trans (bb0.mono hHeld.2.2.size)⟩) (fun hHeld => ?_)
          clear bb0
          clear hK K hd
          try simp only [Act.put, List.setIfInBounds_toArray, List.set_cons_zero, List.set_cons_succ]
          refine take_d 27 (some 63) (.bool true) rfl (by kernel_rfl) (by kernel_rfl) (by kernel_rfl) (fun _ _ _ h => h) (fun oi h => by cases h; exact Or.inl ⟨by rfl, fun w' hS' => by go_simp⟩) hHeld ?_
          try simp only [Act.put, List.setIfInBounds_toArray, List.set_cons_zero, List.set_cons_succ]
          refine take_d 28 (some 64) (.bool true) rfl (by kernel_rfl) (by kernel_rfl) (by kernel_rfl) (fun _ _ _ h => h) (fun oi h => by cases h; exact Or.inl ⟨by rfl, fun w' hS' => by go_simp⟩) hHeld ?_
          try simp only [Act.put, List.setIfInBounds_toArray, List.set_cons_zero, List.set_cons_succ]
          refine take_d 29 (some 65) (.int .u64 (now : Int)) rfl (by kernel_rfl) (by kernel_rfl) (by kernel_rfl) (fun _ _ _ h => h) (fun oi h => by cases h; exact Or.inl ⟨by rfl, fun w' hS' => by go_simp⟩) hHeld ?_
          try simp only [Act.put, List.setIfInBounds_toArray, List.set_cons_zero, List.set_cons_succ]
          refine take_d 30 (some 66) (.int .u64 (now : Int)) rfl (by kernel_rfl) (by kernel_rfl) (by kernel_rfl) (fun _ _ _ h => h) (fun oi h => by cases h; exact Or.inl ⟨by rfl, fun w' hS' => by go_simp⟩) hHeld ?_
          try simp only [Act.put, List.setIfInBounds_toArray, List.set_cons_zero, List.set_cons_succ]
          refine take_d 31 (some 67) (.int .u16 (ago : Int)) rfl (by kernel_rfl) (by kernel_rfl) (by kernel_rfl) (fun _ _ _ h => h) (fun oi h => by cases h; exact Or.inl ⟨by rfl, fun w' hS' => by go_simp⟩) hHeld ?_
          try simp only [Act.put, List.setIfInBounds_toArray, List.set_cons_zero, List.set_cons_succ]
          refine take_d 32 (some 68) (.int .u64 (ago : Int)) rfl (by kernel_rfl) (by kernel_rfl) (by kernel_rfl) (fun _ _ _ h => h) (fun oi h => by cases h; exact Or.inl ⟨by rfl, fun w' hS' => by have f := FA.out; go_simp⟩) hHeld ?_
          try simp only [Act.put, List.setIfInBounds_toArray, List.set_cons_zero, List.set_cons_succ]
          refine take_d 33 (some 69) (.int .u64 (bef : Int)) rfl (by kernel_rfl) (by kernel_rfl) (by kernel_rfl) (fun _ _ _ h => h) (fun oi h => by cases h; exact Or.inl ⟨by rfl, fun w' hS' => by have f := FB.out; go_simp⟩) hHeld ?_
          try simp only [Act.put, List.setIfInBounds_toArray, List.set_cons_zero, List.set_cons_succ]
          refine take_d 36 (some 72) (.int .u16 (ago : Int)) rfl (by kernel_rfl) (by kernel_rfl) (by kernel_rfl) (fun _ _ _ h => h) (fun oi h => by cases h; exact Or.inl ⟨by rfl, fun w' hS' => by go_simp⟩) hHeld ?_
          try simp only [Act.put, List.setIfInBounds_toArray, List.set_cons_zero, List.set_cons_succ]
          refine take_d 37 (some 73) (.int .u64 (ago : Int)) rfl (by kernel_rfl) (by kernel_rfl) (by kernel_rfl) (fun _ _ _ h => h) (fun oi h => by cases h; exact Or.inl ⟨by rfl, fun w' hS' => by have f := FA.out; go_simp⟩) hHeld ?_
          try simp only [Act.put, List.setIfInBounds_toArray, List.set_cons_zero, List.set_cons_succ]
          refine one_d 34 (some 70) rfl (by kernel_rfl) ?_
          intro o ho1 hd K hK
          cases ho1
          go_simp
          refine (CP.out _).mono ?_
          rintro e v93 ⟨rfl, bb0⟩
          refine hK.out _ _ (⟨hHeld.1.below bb0 hHeld.1.lt, hHeld.2.1.below bb0 hHeld.2.1.lt, hHeld.2.2.trans (bb0.mono hHeld.2.2.size)⟩) (fun hHeld => ?_)
          clear bb0
          clear hK K hd
          try simp only [Act.put, List.setIfInBounds_toArray, List.set_cons_zero, List.set_cons_succ]
          refine one_d 35 (some 71) rfl (by kernel_rfl) ?_
          intro o ho1 hd K hK
          cases ho1
          go_simp
          refine (CA.out _).mono ?_
          rintro e v94 ⟨rfl, bb0⟩
          refine hK.out _ _ (⟨hHeld.1.below bb0 hHeld.1.lt, hHeld.2.1.below bb0 hHeld.2.1.lt, hHeld.2.2.trans (bb0.mono hHeld.2.2.size)⟩) (fun hHeld => ?_)
          clear bb0
          clear hK K hd
          try simp only [Act.put, List.setIfInBounds_toArray, List.set_cons_zero, List.set_cons_succ]
          refine take_d 38 (some 74) (.bool true) rfl (by kernel_rfl) (by kernel_rfl) (by kernel_rfl) (fun _ _ _ h => h) (fun oi h => by cases h; exact Or.inl ⟨by rfl, fun w' hS' => by go_simp⟩) hHeld ?_
          try simp only [Act.put, List.setIfInBounds_toArray, List.set_cons_zero, List.set_cons_succ]
          refine take_d 39 (some 75) (.bool true) rfl (by kernel_rfl) (by kernel_rfl) (by kernel_rfl) (fun _ _ _ h => h) (fun oi h => by cases h; exact Or.inl ⟨by rfl, fun w' hS' => by go_simp⟩) hHeld ?_
          try simp only [Act.put, List.setIfInBounds_toArray, List.set_cons_zero, List.set_cons_succ]
          refine take_d 40 (some 8) (.bool true) rfl (by kernel_rfl) (by kernel_rfl) (by kernel_rfl) (fun _ _ _ h => h) (fun oi h => by cases h; exact Or.inl ⟨by rfl, fun w' hS' => by go_simp⟩) hHeld ?_
          try simp only [Act.put, List.setIfInBounds_toArray, List.set_cons_zero, List.set_cons_succ]
          refine wpAnyH_done (by kernel_rfl) ?_ _
          try simp only [Act.put]
          replace rb := hHeld.1
          replace ra := hHeld.2.1
          replace bb := hHeld.2.2
          clear hHeld
          go_wp2
          go_ret
          exact ⟨rfl, bb⟩
  · have g1 : (50 : Int) < len := by omega
    go_enter Tryd.func6, Tryd.ntmps6
    go_wp2_with fail
    refine (awake14_any w ht hp).mono ?_
    rintro e wa ⟨rfl, bb⟩
    clear ht hp
    go_wp2
    go_ret
    exact ⟨rfl, bb⟩

theorem walk (a0 : Option Addr) (len0 cap0 : Nat) (z0 : List Int) (a1 : Int) (a2 : Int) (a3 : Int) (w : World) (htab : Tab w ∧ Pow10T w) (w0 : IsRow .u64 w a0 len0 cap0 z0) (w1 : (Lit.int .u64 a1).wf = true) (w2 : (Lit.int .u64 a2).wf = true) (w3 : (Lit.int .u16 a3).wf = true) :
    Calls Tryd.prog 6 #[.slice a0 len0 cap0, .int .u64 a1, .int .u64 a2, .int .u16 a3] w fun e w' => e = .returned (.bool true) ∧ Below w.heap.size w w' := by
  obtain ⟨x1, y1⟩ := Go.bounds_u64 w1
  obtain ⟨x2, y2⟩ := Go.bounds_u64 w2
  obtain ⟨x3, y3⟩ := Go.bounds_u16 w3
  obtain ⟨t, rfl⟩ := Int.eq_ofNat_of_zero_le x1
  obtain ⟨now, rfl⟩ := Int.eq_ofNat_of_zero_le x2
  obtain ⟨ago, rfl⟩ := Int.eq_ofNat_of_zero_le x3
  exact core a0 len0 cap0 _ t now ago w htab.1 htab.2 w0.inU (by omega) (by omega) (by omega) w0.lens

end Go.Proofs.YtdcpacdfbbdnlaaDoor.ClockCutsW
