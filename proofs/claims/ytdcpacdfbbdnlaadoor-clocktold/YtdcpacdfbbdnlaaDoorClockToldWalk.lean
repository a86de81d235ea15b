/-
  Layer 14: ClockTold, the walk: behind any times a clock is as the document says.
-/
import Derived.Test.YtdcpacdfbbdnlaaDoorURow
namespace Go.Proofs.YtdcpacdfbbdnlaaDoor.ClockToldW
open Go.RowKit
set_option linter.unusedVariables false
set_option maxRecDepth 20000
set_option linter.unusedSimpArgs false
set_option maxRecDepth 20000

set_option maxHeartbeats 8000000 in
theorem core (a0 : Option Addr) (len cap0 : Nat) (f : Nat → Nat) (w : World) (ht : Tab w) (hp : Pow10T w) (hU : InU w a0 len f) :
    Calls Tryd.prog 3 #[.slice a0 len cap0] w fun e w' => e = .returned (.bool true) ∧ Below w.heap.size w w' := by
  have HU := Lib.hid hU
  clear hU
  by_cases h3 : len ≤ 300
  · have g1 : ¬ (300 : Int) < len := by omega
    go_enter Tryd.func3, Tryd.ntmps3
    go_wp2_with fail
    refine (awake14_any w ht hp).mono ?_
    rintro e wa ⟨rfl, bb⟩
    clear ht hp
    have HU2 := Lib.hid (fun wx (bx : Below w.heap.size w wx) => HU.out.below bx)
    clear HU
    have CI0 : Hid (∀ wx, Calls Tryd.prog 8 #[.agg #[.int .u64 0, .int .u64 0, .int .u64 0], .agg #[.int .u64 0, .int .u64 0, .int .u64 0]] wx fun e w' => e = .returned (.bool true) ∧ Below wx.heap.size wx w') := fun wx => is14_any 0 0 0 (by omega) T14.Ok.zero wx
    have r : Row (((wa.alloc (.cells #[.int .u64 0, .int .u64 0, .int .u64 0] 26 (0, 0))).alloc (.cells #[.int .u64 0, .int .u64 0, .int .u64 0] 28 (0, 0)))) wa.heap.size 26 [.int .u64 0, .int .u64 0, .int .u64 0] := (Row.new' rfl rfl).alloc _
    have q : Row (((wa.alloc (.cells #[.int .u64 0, .int .u64 0, .int .u64 0] 26 (0, 0))).alloc (.cells #[.int .u64 0, .int .u64 0, .int .u64 0] 28 (0, 0)))) (wa.heap.size + 1) 28 [.int .u64 0, .int .u64 0, .int .u64 0] := Row.new' rfl (by simp)
    have lz := bb.size
    replace bb : Below w.heap.size w (((wa.alloc (.cells #[.int .u64 0, .int .u64 0, .int .u64 0] 26 (0, 0))).alloc (.cells #[.int .u64 0, .int .u64 0, .int .u64 0] 28 (0, 0)))) := (bb.alloc bb.size _).alloc (by simp; omega) _
    go_wp2_with fail
    obtain ⟨g, hg⟩ : ∃ g, g = wa.heap.size := ⟨_, rfl⟩
    rw [← hg] at r q lz ⊢
    generalize ((wa.alloc (.cells #[.int .u64 0, .int .u64 0, .int .u64 0] 26 (0, 0))).alloc (.cells #[.int .u64 0, .int .u64 0, .int .u64 0] 28 (0, 0))) = wz at *
    clear hg
    refine (CI0.out _).mono ?_
    rintro e wy ⟨rfl, by0⟩
    replace r := r.below by0 r.lt
    replace q := q.below by0 q.lt
    replace bb := bb.trans (by0.mono bb.size)
    clear by0 CI0
    go_wp2
    go_loopw [18] (fun iv wr => ∃ (k n S V : Nat), k ≤ len ∧ iv = .int .i64 (k : Int) ∧ n ≤ k ∧ T14.Ok n S V ∧ Row wr g 26 [.int .u64 (n : Int), .int .u64 (S : Int), .int .u64 (V : Int)] ∧ Row wr (g + 1) 28 [.int .u64 (n : Int), .int .u64 (S : Int), .int .u64 (V : Int)] ∧ Below w.heap.size w wr) (fun iv _ => len - (intOf iv).toNat)
    case atStart => exact ⟨0, 0, 0, 0, Nat.zero_le _, rfl, Nat.le_refl _, T14.Ok.zero, r, q, bb⟩
    case round =>
      clear r q bb
      obtain ⟨k, n, S, V, hk, rfl, hn, ok, r, q, bb⟩ := hrel
      by_cases hlt : k < len
      · have hs : (k : Int) < len := by omega
        obtain ⟨bk, off, rfl, hbk, hcell⟩ := HU2.out wr bb (by omega)
        obtain ⟨htb, c0⟩ := hcell k hlt
        generalize f k = t at *
        obtain ⟨n', hn'⟩ : ∃ n', n' = n + 1 := ⟨_, rfl⟩
        obtain ⟨S', hS'⟩ : ∃ S', S' = T14.S2 n S t := ⟨_, rfl⟩
        obtain ⟨V', hV'⟩ : ∃ V', V' = T14.V2 n S V t := ⟨_, rfl⟩
        have ok2 : T14.Ok n' S' V' := by rw [hn', hS', hV']; exact ok.told t
        have CT : Hid (∀ wx, Calls Tryd.prog 9 #[.agg #[.int .u64 (n : Int), .int .u64 (S : Int), .int .u64 (V : Int)], .int .u64 (t : Int)] wx fun e w' => e = .returned (.agg #[.int .u64 (n' : Int), .int .u64 (S' : Int), .int .u64 (V' : Int)]) ∧ Below wx.heap.size wx w') := fun wx => by rw [hn', hS', hV']; exact told_any n S V t (by omega) ok.s ok.v wx
        have CR : Hid (∀ wx, Calls Tryd.prog 10 #[.agg #[.int .u64 (n : Int), .int .u64 (S : Int), .int .u64 (V : Int)], .int .u64 (t : Int)] wx fun e w' => e = .returned (.agg #[.int .u64 (n' : Int), .int .u64 (S' : Int), .int .u64 (V' : Int)]) ∧ Below wx.heap.size wx w') := fun wx => by rw [hn', hS', hV']; exact refTold_any n S V t (by omega) ok.s ok.v wx
        have CI : Hid (∀ wx, Calls Tryd.prog 8 #[.agg #[.int .u64 (n' : Int), .int .u64 (S' : Int), .int .u64 (V' : Int)], .agg #[.int .u64 (n' : Int), .int .u64 (S' : Int), .int .u64 (V' : Int)]] wx fun e w' => e = .returned (.bool true) ∧ Below wx.heap.size wx w') := fun wx => is14_any n' S' V' (by omega) ok2 wx
        have HB : Hid (n' ≤ k + 1 ∧ T14.Ok n' S' V') := ⟨by omega, ok2⟩
        clear hn' hS' hV' ok ok2 hcell hbk
        go_wp2
        refine wp_region_held_drew (S := fun w' => Below w.heap.size w w') (by kernel_rfl) ((bb.drew)) (fun hHeld => ?_)
        replace r := r.drew
        replace q := q.drew
        generalize wr.drew = wd51 at *
        refine take_d 1 (some 23) (.int .u64 (t : Int)) rfl (by kernel_rfl) (by kernel_rfl) (by kernel_rfl) (fun _ _ _ h => h) (fun oi h => by cases h; exact Or.inl ⟨by rfl, fun w' hS' => by go_simp⟩) hHeld ?_
        try simp only [Act.put, List.setIfInBounds_toArray, List.set_cons_zero, List.set_cons_succ]
        refine take_d 4 (some 26) (.int .u64 (t : Int)) rfl (by kernel_rfl) (by kernel_rfl) (by kernel_rfl) (fun _ _ _ h => h) (fun oi h => by cases h; exact Or.inl ⟨by rfl, fun w' hS' => by go_simp⟩) hHeld ?_
        try simp only [Act.put, List.setIfInBounds_toArray, List.set_cons_zero, List.set_cons_succ]
        refine two_d 0 3 rfl rfl (by kernel_rfl) ?_ ?_
        · intro K hK
          refine step_load_row rfl 26 (.tmp 3) rfl (g) rfl _ [.int .u64 (n : Int), .int .u64 (S : Int), .int .u64 (V : Int)] _ r Tryd.underlying26 rfl infoClock ?_
          refine hK.out _ _ hHeld (fun hHeld => ?_)
          clear hK K
          try simp only [Act.put, List.setIfInBounds_toArray, List.set_cons_zero, List.set_cons_succ]
          refine two_d 2 3 rfl rfl (by kernel_rfl) ?_ ?_
          · intro K hK
            go_simp
            refine (CT.out _).mono ?_
            rintro e v52 ⟨rfl, bb0⟩
            replace r := r.below bb0 r.lt
            replace q := q.below bb0 q.lt
            refine hK.out _ _ ((hHeld.trans (bb0.mono hHeld.size))) (fun hHeld => ?_)
            clear bb0
            clear hK K
            try simp only [Act.put, List.setIfInBounds_toArray, List.set_cons_zero, List.set_cons_succ]
            refine one_d 3 (some 25) rfl (by kernel_rfl) ?_
            intro o ho1 hd K hK
            cases ho1
            refine step_load_row rfl 28 (.tmp 4) rfl ((g + 1)) rfl _ [.int .u64 (n : Int), .int .u64 (S : Int), .int .u64 (V : Int)] _ q Tryd.underlying28 rfl infoRClock ?_
            refine hK.out _ _ hHeld (fun hHeld => ?_)
            clear hK K hd
            try simp only [Act.put, List.setIfInBounds_toArray, List.set_cons_zero, List.set_cons_succ]
            refine one_d 5 (some 27) rfl (by kernel_rfl) ?_
            intro o ho1 hd K hK
            cases ho1
            go_simp
            refine (CR.out _).mono ?_
            rintro e v53 ⟨rfl, bb0⟩
            replace r := r.below bb0 r.lt
            replace q := q.below bb0 q.lt
            refine hK.out _ _ ((hHeld.trans (bb0.mono hHeld.size))) (fun hHeld => ?_)
            clear bb0
            clear hK K hd
            try simp only [Act.put, List.setIfInBounds_toArray, List.set_cons_zero, List.set_cons_succ]
            refine one_d 6 none rfl (by kernel_rfl) ?_
            intro o ho1 hd K hK
            cases ho1
            refine step_store_row rfl 26 (.tmp 3) (.tmp 24) rfl (g) [.int .u64 (n' : Int), .int .u64 (S' : Int), .int .u64 (V' : Int)] rfl rfl _ _ r infoClock rfl (by simp [Value.oneCell']) ?_
            rw [hd]
            replace r := r.setRow [.int .u64 (n' : Int), .int .u64 (S' : Int), .int .u64 (V' : Int)]
            replace q := q.setRow_other (k := g) (by omega) (List.toArray [.int .u64 (n' : Int), .int .u64 (S' : Int), .int .u64 (V' : Int)])
            have hH : Below w.heap.size w (v53.setRow g (List.toArray [.int .u64 (n' : Int), .int .u64 (S' : Int), .int .u64 (V' : Int)])) := (below_row hHeld (show _ ≤ g by omega) (List.toArray [.int .u64 (n' : Int), .int .u64 (S' : Int), .int .u64 (V' : Int)]))
            clear hHeld
            generalize v53.setRow g (List.toArray [.int .u64 (n' : Int), .int .u64 (S' : Int), .int .u64 (V' : Int)]) = v54 at *
            refine hK.out _ _ hH (fun hHeld => ?_)
            clear hH
            clear hK K hd
            try simp only [Act.put]
            refine one_d 7 none rfl (by kernel_rfl) ?_
            intro o ho1 hd K hK
            cases ho1
            refine step_store_row rfl 28 (.tmp 4) (.tmp 27) rfl ((g + 1)) [.int .u64 (n' : Int), .int .u64 (S' : Int), .int .u64 (V' : Int)] rfl rfl _ _ q infoRClock rfl (by simp [Value.oneCell']) ?_
            rw [hd]
            replace r := r.setRow_other (k := (g + 1)) (by omega) (List.toArray [.int .u64 (n' : Int), .int .u64 (S' : Int), .int .u64 (V' : Int)])
            replace q := q.setRow [.int .u64 (n' : Int), .int .u64 (S' : Int), .int .u64 (V' : Int)]
            have hH : Below w.heap.size w (v54.setRow ((g + 1)) (List.toArray [.int .u64 (n' : Int), .int .u64 (S' : Int), .int .u64 (V' : Int)])) := (below_row hHeld (show _ ≤ (g + 1) by omega) (List.toArray [.int .u64 (n' : Int), .int .u64 (S' : Int), .int .u64 (V' : Int)]))
            clear hHeld
            generalize v54.setRow ((g + 1)) (List.toArray [.int .u64 (n' : Int), .int .u64 (S' : Int), .int .u64 (V' : Int)]) = v55 at *
            refine hK.out _ _ hH (fun hHeld => ?_)
            clear hH
            clear hK K hd
            try simp only [Act.put]
            refine wpAnyH_done (by kernel_rfl) ?_ _
            try simp only [Act.put]
            replace bb := hHeld
            clear hHeld
            go_wp2_with (first | refine wpList_load_row rfl 26 (.tmp 3) rfl (g) rfl _ _ _ _ r Tryd.underlying26 rfl infoClock ?_ | refine wpList_load_row rfl 28 (.tmp 4) rfl ((g + 1)) rfl _ _ _ _ q Tryd.underlying28 rfl infoRClock ?_)
            refine (CI.out _).mono ?_
            rintro e wa56 ⟨rfl, bwa56⟩
            replace r := r.below bwa56 r.lt
            replace q := q.below bwa56 q.lt
            replace bb := bb.trans (bwa56.mono bb.size)
            clear bwa56
            go_wp2
            go_roundw
            case rel => exact ⟨k + 1, n', S', V', by omega, by go_num, HB.out.1, HB.out.2, r, q, bb⟩
            case measure => simp [intOf]; omega
          · intro K hK
            refine step_load_row rfl 28 (.tmp 4) rfl ((g + 1)) rfl _ [.int .u64 (n : Int), .int .u64 (S : Int), .int .u64 (V : Int)] _ q Tryd.underlying28 rfl infoRClock ?_
            refine hK.out _ _ hHeld (fun hHeld => ?_)
            clear hK K
            try simp only [Act.put, List.setIfInBounds_toArray, List.set_cons_zero, List.set_cons_succ]
            refine one_d 2 (some 24) rfl (by kernel_rfl) ?_
            intro o ho1 hd K hK
            cases ho1
            go_simp
            refine (CT.out _).mono ?_
            rintro e v52 ⟨rfl, bb0⟩
            replace r := r.below bb0 r.lt
            replace q := q.below bb0 q.lt
            refine hK.out _ _ ((hHeld.trans (bb0.mono hHeld.size))) (fun hHeld => ?_)
            clear bb0
            clear hK K hd
            try simp only [Act.put, List.setIfInBounds_toArray, List.set_cons_zero, List.set_cons_succ]
            refine one_d 5 (some 27) rfl (by kernel_rfl) ?_
            intro o ho1 hd K hK
            cases ho1
            go_simp
            refine (CR.out _).mono ?_
            rintro e v53 ⟨rfl, bb0⟩
            replace r := r.below bb0 r.lt
            replace q := q.below bb0 q.lt
            refine hK.out _ _ ((hHeld.trans (bb0.mono hHeld.size))) (fun hHeld => ?_)
            clear bb0
            clear hK K hd
            try simp only [Act.put, List.setIfInBounds_toArray, List.set_cons_zero, List.set_cons_succ]
            refine one_d 6 none rfl (by kernel_rfl) ?_
            intro o ho1 hd K hK
            cases ho1
            refine step_store_row rfl 26 (.tmp 3) (.tmp 24) rfl (g) [.int .u64 (n' : Int), .int .u64 (S' : Int), .int .u64 (V' : Int)] rfl rfl _ _ r infoClock rfl (by simp [Value.oneCell']) ?_
            rw [hd]
            replace r := r.setRow [.int .u64 (n' : Int), .int .u64 (S' : Int), .int .u64 (V' : Int)]
            replace q := q.setRow_other (k := g) (by omega) (List.toArray [.int .u64 (n' : Int), .int .u64 (S' : Int), .int .u64 (V' : Int)])
            have hH : Below w.heap.size w (v53.setRow g (List.toArray [.int .u64 (n' : Int), .int .u64 (S' : Int), .int .u64 (V' : Int)])) := (below_row hHeld (show _ ≤ g by omega) (List.toArray [.int .u64 (n' : Int), .int .u64 (S' : Int), .int .u64 (V' : Int)]))
            clear hHeld
            generalize v53.setRow g (List.toArray [.int .u64 (n' : Int), .int .u64 (S' : Int), .int .u64 (V' : Int)]) = v54 at *
            refine hK.out _ _ hH (fun hHeld => ?_)
            clear hH
            clear hK K hd
            try simp only [Act.put]
            refine one_d 7 none rfl (by kernel_rfl) ?_
            intro o ho1 hd K hK
            cases ho1
            refine step_store_row rfl 28 (.tmp 4) (.tmp 27) rfl ((g + 1)) [.int .u64 (n' : Int), .int .u64 (S' : Int), .int .u64 (V' : Int)] rfl rfl _ _ q infoRClock rfl (by simp [Value.oneCell']) ?_
            rw [hd]
            replace r := r.setRow_other (k := (g + 1)) (by omega) (List.toArray [.int .u64 (n' : Int), .int .u64 (S' : Int), .int .u64 (V' : Int)])
            replace q := q.setRow [.int .u64 (n' : Int), .int .u64 (S' : Int), .int .u64 (V' : Int)]
            have hH : Below w.heap.size w (v54.setRow ((g + 1)) (List.toArray [.int .u64 (n' : Int), .int .u64 (S' : Int), .int .u64 (V' : Int)])) := (below_row hHeld (show _ ≤ (g + 1) by omega) (List.toArray [.int .u64 (n' : Int), .int .u64 (S' : Int), .int .u64 (V' : Int)]))
            clear hHeld
            generalize v54.setRow ((g + 1)) (List.toArray [.int .u64 (n' : Int), .int .u64 (S' : Int), .int .u64 (V' : Int)]) = v55 at *
            refine hK.out _ _ hH (fun hHeld => ?_)
            clear hH
            clear hK K hd
            try simp only [Act.put]
            refine wpAnyH_done (by kernel_rfl) ?_ _
            try simp only [Act.put]
            replace bb := hHeld
            clear hHeld
            go_wp2_with (first | refine wpList_load_row rfl 26 (.tmp 3) rfl (g) rfl _ _ _ _ r Tryd.underlying26 rfl infoClock ?_ | refine wpList_load_row rfl 28 (.tmp 4) rfl ((g + 1)) rfl _ _ _ _ q Tryd.underlying28 rfl infoRClock ?_)
            refine (CI.out _).mono ?_
            rintro e wa56 ⟨rfl, bwa56⟩
            replace r := r.below bwa56 r.lt
            replace q := q.below bwa56 q.lt
            replace bb := bb.trans (bwa56.mono bb.size)
            clear bwa56
            go_wp2
            go_roundw
            case rel => exact ⟨k + 1, n', S', V', by omega, by go_num, HB.out.1, HB.out.2, r, q, bb⟩
            case measure => simp [intOf]; omega
        · intro K hK
          refine step_load_row rfl 28 (.tmp 4) rfl ((g + 1)) rfl _ [.int .u64 (n : Int), .int .u64 (S : Int), .int .u64 (V : Int)] _ q Tryd.underlying28 rfl infoRClock ?_
          refine hK.out _ _ hHeld (fun hHeld => ?_)
          clear hK K
          try simp only [Act.put, List.setIfInBounds_toArray, List.set_cons_zero, List.set_cons_succ]
          refine one_d 0 (some 22) rfl (by kernel_rfl) ?_
          intro o ho1 hd K hK
          cases ho1
          refine step_load_row rfl 26 (.tmp 3) rfl (g) rfl _ [.int .u64 (n : Int), .int .u64 (S : Int), .int .u64 (V : Int)] _ r Tryd.underlying26 rfl infoClock ?_
          refine hK.out _ _ hHeld (fun hHeld => ?_)
          clear hK K hd
          try simp only [Act.put, List.setIfInBounds_toArray, List.set_cons_zero, List.set_cons_succ]
          refine one_d 2 (some 24) rfl (by kernel_rfl) ?_
          intro o ho1 hd K hK
          cases ho1
          go_simp
          refine (CT.out _).mono ?_
          rintro e v52 ⟨rfl, bb0⟩
          replace r := r.below bb0 r.lt
          replace q := q.below bb0 q.lt
          refine hK.out _ _ ((hHeld.trans (bb0.mono hHeld.size))) (fun hHeld => ?_)
          clear bb0
          clear hK K hd
          try simp only [Act.put, List.setIfInBounds_toArray, List.set_cons_zero, List.set_cons_succ]
          refine one_d 5 (some 27) rfl (by kernel_rfl) ?_
          intro o ho1 hd K hK
          cases ho1
          go_simp
          refine (CR.out _).mono ?_
          rintro e v53 ⟨rfl, bb0⟩
          replace r := r.below bb0 r.lt
          replace q := q.below bb0 q.lt
          refine hK.out _ _ ((hHeld.trans (bb0.mono hHeld.size))) (fun hHeld => ?_)
          clear bb0
          clear hK K hd
          try simp only [Act.put, List.setIfInBounds_toArray, List.set_cons_zero, List.set_cons_succ]
          refine one_d 6 none rfl (by kernel_rfl) ?_
          intro o ho1 hd K hK
          cases ho1
          refine step_store_row rfl 26 (.tmp 3) (.tmp 24) rfl (g) [.int .u64 (n' : Int), .int .u64 (S' : Int), .int .u64 (V' : Int)] rfl rfl _ _ r infoClock rfl (by simp [Value.oneCell']) ?_
          rw [hd]
          replace r := r.setRow [.int .u64 (n' : Int), .int .u64 (S' : Int), .int .u64 (V' : Int)]
          replace q := q.setRow_other (k := g) (by omega) (List.toArray [.int .u64 (n' : Int), .int .u64 (S' : Int), .int .u64 (V' : Int)])
          have hH : Below w.heap.size w (v53.setRow g (List.toArray [.int .u64 (n' : Int), .int .u64 (S' : Int), .int .u64 (V' : Int)])) := (below_row hHeld (show _ ≤ g by omega) (List.toArray [.int .u64 (n' : Int), .int .u64 (S' : Int), .int .u64 (V' : Int)]))
          clear hHeld
          generalize v53.setRow g (List.toArray [.int .u64 (n' : Int), .int .u64 (S' : Int), .int .u64 (V' : Int)]) = v54 at *
          refine hK.out _ _ hH (fun hHeld => ?_)
          clear hH
          clear hK K hd
          try simp only [Act.put]
          refine one_d 7 none rfl (by kernel_rfl) ?_
          intro o ho1 hd K hK
          cases ho1
          refine step_store_row rfl 28 (.tmp 4) (.tmp 27) rfl ((g + 1)) [.int .u64 (n' : Int), .int .u64 (S' : Int), .int .u64 (V' : Int)] rfl rfl _ _ q infoRClock rfl (by simp [Value.oneCell']) ?_
          rw [hd]
          replace r := r.setRow_other (k := (g + 1)) (by omega) (List.toArray [.int .u64 (n' : Int), .int .u64 (S' : Int), .int .u64 (V' : Int)])
          replace q := q.setRow [.int .u64 (n' : Int), .int .u64 (S' : Int), .int .u64 (V' : Int)]
          have hH : Below w.heap.size w (v54.setRow ((g + 1)) (List.toArray [.int .u64 (n' : Int), .int .u64 (S' : Int), .int .u64 (V' : Int)])) := (below_row hHeld (show _ ≤ (g + 1) by omega) (List.toArray [.int .u64 (n' : Int), .int .u64 (S' : Int), .int .u64 (V' : Int)]))
          clear hHeld
          generalize v54.setRow ((g + 1)) (List.toArray [.int .u64 (n' : Int), .int .u64 (S' : Int), .int .u64 (V' : Int)]) = v55 at *
          refine hK.out _ _ hH (fun hHeld => ?_)
          clear hH
          clear hK K hd
          try simp only [Act.put]
          refine wpAnyH_done (by kernel_rfl) ?_ _
          try simp only [Act.put]
          replace bb := hHeld
          clear hHeld
          go_wp2_with (first | refine wpList_load_row rfl 26 (.tmp 3) rfl (g) rfl _ _ _ _ r Tryd.underlying26 rfl infoClock ?_ | refine wpList_load_row rfl 28 (.tmp 4) rfl ((g + 1)) rfl _ _ _ _ q Tryd.underlying28 rfl infoRClock ?_)
          refine (CI.out _).mono ?_
          rintro e wa56 ⟨rfl, bwa56⟩
          replace r := r.below bwa56 r.lt
          replace q := q.below bwa56 q.lt
          replace bb := bb.trans (bwa56.mono bb.size)
          clear bwa56
          go_wp2
          go_roundw
          case rel => exact ⟨k + 1, n', S', V', by omega, by go_num, HB.out.1, HB.out.2, r, q, bb⟩
          case measure => simp [intOf]; omega
      · obtain rfl : k = len := by omega
        go_wp2
        go_ret
        exact ⟨rfl, bb⟩
  · have g1 : (300 : Int) < len := by omega
    go_enter Tryd.func3, Tryd.ntmps3
    go_wp2_with fail
    refine (awake14_any w ht hp).mono ?_
    rintro e wa ⟨rfl, bb⟩
    clear ht hp
    go_wp2
    go_ret
    exact ⟨rfl, bb⟩

theorem walk (a0 : Option Addr) (len0 cap0 : Nat) (z0 : List Int) (w : World) (htab : Tab w ∧ Pow10T w) (w0 : IsRow .u64 w a0 len0 cap0 z0) :
    Calls Tryd.prog 3 #[.slice a0 len0 cap0] w fun e w' => e = .returned (.bool true) ∧ Below w.heap.size w w' :=
  core a0 len0 cap0 _ w htab.1 htab.2 w0.inU

end Go.Proofs.YtdcpacdfbbdnlaaDoor.ClockToldW
