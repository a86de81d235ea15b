/-
  Layer 13: KeysDiffs, the walk: what any have behind any others; whether two are the same; with it the one is the same as the other.
-/
import Derived.Test.YtggkkahifoccfaaKOf
import Derived.Deep.Cut
namespace Go.Proofs.Ytggkkahifoccfaa.KeysDiffsW
open Go.RowKit
set_option linter.unusedVariables false
set_option linter.unusedSimpArgs false
set_option maxRecDepth 20000

set_option maxHeartbeats 8000000 in
theorem walk (a0 : Option Addr) (len0 cap0 : Nat) (a1 : Option Addr) (len1 cap1 : Nat) (w : World) (w0 : InActsU w a0 len0 cap0) (w1 : InActsU w a1 len1 cap1) :
    Calls Try.prog 4 #[.slice a0 len0 cap0, .slice a1 len1 cap1] w fun e w' => e = .returned (.bool true) ∧ Below w.heap.size w w' := by
  have CA : Hid (∀ wx, Calls Try.prog 7 #[] wx fun e w' => e = .returned (.bool true) ∧ Below wx.heap.size wx w') := fun wx => awake13_any wx
  by_cases hl : LightU w a0 len0 40 600
  · have HL := Lib.hid hl
    have HI1 := Lib.hid w1
    clear hl w0 w1
    by_cases hk : LightU w a1 len1 40 600
    · have HK := Lib.hid hk
      clear hk HI1
      go_enter Try.func4, Try.ntmps4
      go_wp2_with fail
      refine (CA.out _).mono ?_
      rintro e wa ⟨rfl, ba⟩
      go_wp2_with fail
      refine (light13_yes a0 len0 cap0 wa (HL.out.below ba)).mono ?_
      rintro e wb ⟨rfl, bb0⟩
      have bb := ba.trans (bb0.mono ba.size)
      clear ba bb0 CA
      go_wp2_with fail
      refine (light13_yes a1 len1 cap1 wb (HK.out.below bb)).mono ?_
      rintro e wc ⟨rfl, bc⟩
      replace bb := bb.trans (bc.mono bb.size)
      clear bc
      go_wp2_with fail
      refine (of13_any a0 len0 cap0 wc (HL.out.below bb)).mono ?_
      rintro e wd ⟨f, T, rfl, ⟨hf, hT⟩, bd⟩
      replace bb := bb.trans (bd.mono bb.size)
      clear bd HL
      go_wp2_with fail
      have r : Row ((wd.alloc (.cells #[.int .u64 (f : Int), .string T] 27 (0, 0))).alloc (.cells #[.int .u64 (f : Int), .string T] 29 (0, 0))) wd.heap.size 27 [.int .u64 (f : Int), .string T] := (Row.new' rfl rfl).alloc _
      have q : Row ((wd.alloc (.cells #[.int .u64 (f : Int), .string T] 27 (0, 0))).alloc (.cells #[.int .u64 (f : Int), .string T] 29 (0, 0))) (wd.heap.size + 1) 29 [.int .u64 (f : Int), .string T] := Row.new' rfl (by simp)
      have lbr := bb.size
      replace bb : Below w.heap.size w ((wd.alloc (.cells #[.int .u64 (f : Int), .string T] 27 (0, 0))).alloc (.cells #[.int .u64 (f : Int), .string T] 29 (0, 0))) := (bb.alloc bb.size _).alloc (by simp; omega) _
      obtain ⟨gk, hgk⟩ : ∃ g, g = wd.heap.size := ⟨_, rfl⟩
      rw [← hgk] at r q lbr ⊢
      generalize (wd.alloc (.cells #[.int .u64 (f : Int), .string T] 27 (0, 0))).alloc (.cells #[.int .u64 (f : Int), .string T] 29 (0, 0)) = we at *
      clear hgk
      refine (of13_any a1 len1 cap1 we (HK.out.below bb)).mono ?_
      rintro e wg ⟨h, U, rfl, ⟨hh, hU⟩, bg⟩
      replace r := r.below bg r.lt
      replace q := q.below bg q.lt
      replace bb := bb.trans (bg.mono bb.size)
      clear bg HK
      have m : Row ((wg.alloc (.cells #[.int .u64 (h : Int), .string U] 27 (0, 0))).alloc (.cells #[.int .u64 (h : Int), .string U] 29 (0, 0))) wg.heap.size 27 [.int .u64 (h : Int), .string U] := (Row.new' rfl rfl).alloc _
      have n : Row ((wg.alloc (.cells #[.int .u64 (h : Int), .string U] 27 (0, 0))).alloc (.cells #[.int .u64 (h : Int), .string U] 29 (0, 0))) (wg.heap.size + 1) 29 [.int .u64 (h : Int), .string U] := Row.new' rfl (by simp)
      have lrm := r.lt
      replace r := (r.alloc (.cells #[.int .u64 (h : Int), .string U] 27 (0, 0))).alloc (.cells #[.int .u64 (h : Int), .string U] 29 (0, 0))
      have lqm := q.lt
      replace q := (q.alloc (.cells #[.int .u64 (h : Int), .string U] 27 (0, 0))).alloc (.cells #[.int .u64 (h : Int), .string U] 29 (0, 0))
      have lbm := bb.size
      replace bb : Below w.heap.size w ((wg.alloc (.cells #[.int .u64 (h : Int), .string U] 27 (0, 0))).alloc (.cells #[.int .u64 (h : Int), .string U] 29 (0, 0))) := (bb.alloc bb.size _).alloc (by simp; omega) _
      go_wp2_with (first | refine wpList_load_row rfl 27 (.tmp 5) rfl gk rfl _ _ _ _ r Try.underlying27 rfl infoKeys ?_)
      obtain ⟨gm, hgm⟩ : ∃ g, g = wg.heap.size := ⟨_, rfl⟩
      rw [← hgm] at m n lbm lrm lqm ⊢
      generalize (wg.alloc (.cells #[.int .u64 (h : Int), .string U] 27 (0, 0))).alloc (.cells #[.int .u64 (h : Int), .string U] 29 (0, 0)) = wf at *
      clear hgm
      obtain ⟨E, hE⟩ : ∃ E, E = f + T.size := ⟨_, rfl⟩
      have CDf : Hid (∀ wx, Calls Try.prog 12 #[.agg #[.int .u64 (f : Int), .string T], .agg #[.int .u64 (h : Int), .string U]] wx fun e w' => e = .returned (.tuple #[.string (K13.sinceT h U E), .int .i64 (K13.sinceE h U E)]) ∧ Below wx.heap.size wx w') := fun wx => by rw [hE]; exact diff_any f T h U (by omega) (by omega) (by omega) wx
      have CE : Hid (∀ wx, Calls Try.prog 13 #[.agg #[.int .u64 (f : Int), .string T]] wx fun e w' => e = .returned (.int .u64 (E : Int)) ∧ Below wx.heap.size wx w') := fun wx => by rw [hE]; exact refEnd_any f T (by omega) wx
      have CQs : Hid (∀ wx, Calls Try.prog 11 #[.agg #[.int .u64 (h : Int), .string U], .int .u64 (E : Int)] wx fun e w' => e = .returned (.tuple #[.string (K13.sinceT h U E), .int .i64 (K13.sinceE h U E)]) ∧ Below wx.heap.size wx w') := fun wx => refSince_any h E U (by omega) (by omega) wx
      have CSm : Hid (∀ wx, Calls Try.prog 14 #[.agg #[.int .u64 (f : Int), .string T], .agg #[.int .u64 (h : Int), .string U]] wx fun e w' => e = .returned (.bool (K13.sameB f T h U)) ∧ Below wx.heap.size wx w') := fun wx => same_any13 f T h U (by omega) (by omega) (by omega) (by omega) wx
      have CQm : Hid (∀ wx, Calls Try.prog 15 #[.agg #[.int .u64 (f : Int), .string T], .agg #[.int .u64 (h : Int), .string U]] wx fun e w' => e = .returned (.bool (K13.sameB f T h U)) ∧ Below wx.heap.size wx w') := fun wx => refSame_any f T h U (by omega) (by omega) (by omega) (by omega) wx
      have CSk : Hid (∀ wx, Calls Try.prog 14 #[.agg #[.int .u64 (f : Int), .string T], .agg #[.int .u64 (f : Int), .string T]] wx fun e w' => e = .returned (.bool true) ∧ Below wx.heap.size wx w') := fun wx => by
        have := same_any13 f T f T (by omega) (by omega) (by omega) (by omega) wx
        rw [(K13.sameB_iff f T f T).2 (K13.Same.refl f T)] at this
        exact this
      generalize K13.sameB f T h U = sb at *
      have hdE : K13.sinceE h U E = 0 ∨ K13.sinceE h U E = 7 := by unfold K13.sinceE; split <;> simp
      have hdT : (K13.sinceT h U E).size ≤ 256 := by
        unfold K13.sinceT; split
        · exact Nat.zero_le _
        · rw [K13.cut_size]; omega
      have HDE := Lib.hid hdE
      generalize K13.sinceT h U E = dT at *
      generalize K13.sinceE h U E = dE at *
      have CD1 : Hid (∀ wx, Calls Try.prog 16 #[.agg #[.int .u64 (f : Int), .string T], .string dT] wx fun e w' => e = .returned (.tuple #[.agg #[.int .u64 ((K13.doN f T dT : Nat) : Int), .string (K13.doT f T dT)], .int .i64 0]) ∧ Below wx.heap.size wx w') := fun wx => do_any f T dT (by omega) (by omega) wx
      have CQ1 : Hid (∀ wx, Calls Try.prog 17 #[.agg #[.int .u64 (f : Int), .string T], .string dT] wx fun e w' => e = .returned (.tuple #[.agg #[.int .u64 ((K13.doN f T dT : Nat) : Int), .string (K13.doT f T dT)], .int .i64 0]) ∧ Below wx.heap.size wx w') := fun wx => refDo_any f T dT (by omega) (by omega) wx
      have hx1 := K13.do_end f T dT
      have hx2 := K13.do_size f T dT
      generalize K13.doN f T dT = xN at *
      generalize K13.doT f T dT = xT at *
      have CI1 : Hid (∀ wx, Calls Try.prog 18 #[.agg #[.int .u64 (xN : Int), .string xT], .agg #[.int .u64 (xN : Int), .string xT]] wx fun e w' => e = .returned (.bool true) ∧ Below wx.heap.size wx w') := fun wx => is13_any xN xT (by omega) (by omega) wx
      have CS2 : Hid (∀ wx, Calls Try.prog 14 #[.agg #[.int .u64 (xN : Int), .string xT], .agg #[.int .u64 (h : Int), .string U]] wx fun e w' => e = .returned (.bool (K13.sameB xN xT h U)) ∧ Below wx.heap.size wx w') := fun wx => same_any13 xN xT h U (by omega) (by omega) (by omega) (by omega) wx
      have CQ2 : Hid (∀ wx, Calls Try.prog 15 #[.agg #[.int .u64 (xN : Int), .string xT], .agg #[.int .u64 (h : Int), .string U]] wx fun e w' => e = .returned (.bool (K13.sameB xN xT h U)) ∧ Below wx.heap.size wx w') := fun wx => refSame_any xN xT h U (by omega) (by omega) (by omega) (by omega) wx
      generalize K13.sameB xN xT h U = s2 at *
      clear hE hdE hdT hx1 hx2 hf hT hh hU
      refine (CDf.out _).mono ?_
      rintro e wa31 ⟨rfl, bwa31⟩
      replace r := r.below bwa31 r.lt
      replace q := q.below bwa31 q.lt
      replace m := m.below bwa31 m.lt
      replace n := n.below bwa31 n.lt
      replace bb := bb.trans (bwa31.mono bb.size)
      clear bwa31
      go_wp2
      refine wp_region_held_drew (S := fun w' => Row w' gk 27 [.int .u64 (f : Int), .string T] ∧ Row w' (gk + 1) 29 [.int .u64 (f : Int), .string T] ∧ Row w' gm 27 [.int .u64 (h : Int), .string U] ∧ Row w' (gm + 1) 29 [.int .u64 (h : Int), .string U] ∧ Below w.heap.size w w') (by kernel_rfl) (⟨r.drew, q.drew, m.drew, n.drew, bb.drew⟩) (fun hHeld => ?_)
      generalize wa31.drew = wd32 at *
      refine take_d 0 (some 54) (.agg #[.int .u64 (h : Int), .string U]) rfl (by kernel_rfl) (by kernel_rfl) (by kernel_rfl) (fun _ _ _ h => h) (fun oi h => by cases h; exact yieldsIf_load_mid (by rfl) 29 (.tmp 9) rfl (gm + 1) 0 rfl [.int .u64 (h : Int), .string U] _ (fun w' hS' => hS'.2.2.2.1.range) Try.underlying29 rfl infoRK) hHeld ?_
      try simp only [Act.put, List.setIfInBounds_toArray, List.set_cons_zero, List.set_cons_succ]
      refine take_d 1 (some 55) (.agg #[.int .u64 (f : Int), .string T]) rfl (by kernel_rfl) (by kernel_rfl) (by kernel_rfl) (fun _ _ _ h => h) (fun oi h => by cases h; exact yieldsIf_load_mid (by rfl) 29 (.tmp 6) rfl (gk + 1) 0 rfl [.int .u64 (f : Int), .string T] _ (fun w' hS' => hS'.2.1.range) Try.underlying29 rfl infoRK) hHeld ?_
      try simp only [Act.put, List.setIfInBounds_toArray, List.set_cons_zero, List.set_cons_succ]
      refine one_d 2 (some 56) rfl (by kernel_rfl) ?_
      intro o ho1 hd K hK
      cases ho1
      go_simp
      refine (CE.out _).mono ?_
      rintro e v33 ⟨rfl, bb0⟩
      refine hK.out _ _ (⟨hHeld.1.below bb0 hHeld.1.lt, hHeld.2.1.below bb0 hHeld.2.1.lt, hHeld.2.2.1.below bb0 hHeld.2.2.1.lt, hHeld.2.2.2.1.below bb0 hHeld.2.2.2.1.lt, hHeld.2.2.2.2.trans (bb0.mono hHeld.2.2.2.2.size)⟩) (fun hHeld => ?_)
      clear bb0
      clear hK K hd
      try simp only [Act.put, List.setIfInBounds_toArray, List.set_cons_zero, List.set_cons_succ]
      refine one_d 3 (some 57) rfl (by kernel_rfl) ?_
      intro o ho1 hd K hK
      cases ho1
      go_simp
      refine (CQs.out _).mono ?_
      rintro e v34 ⟨rfl, bb0⟩
      refine hK.out _ _ (⟨hHeld.1.below bb0 hHeld.1.lt, hHeld.2.1.below bb0 hHeld.2.1.lt, hHeld.2.2.1.below bb0 hHeld.2.2.1.lt, hHeld.2.2.2.1.below bb0 hHeld.2.2.2.1.lt, hHeld.2.2.2.2.trans (bb0.mono hHeld.2.2.2.2.size)⟩) (fun hHeld => ?_)
      clear bb0
      clear hK K hd
      try simp only [Act.put, List.setIfInBounds_toArray, List.set_cons_zero, List.set_cons_succ]
      refine take_d 4 (some 53) (.tuple #[.string dT, .int .i64 dE]) rfl (by kernel_rfl) (by kernel_rfl) (by kernel_rfl) (fun _ _ _ h => h) (fun oi h => by cases h; exact Or.inl ⟨by rfl, fun w' hS' => by go_simp⟩) hHeld ?_
      try simp only [Act.put, List.setIfInBounds_toArray, List.set_cons_zero, List.set_cons_succ]
      refine take_d 5 (some 58) (.string dT) rfl (by kernel_rfl) (by kernel_rfl) (by kernel_rfl) (fun _ _ _ h => h) (fun oi h => by cases h; exact Or.inl ⟨by rfl, fun w' hS' => by go_simp⟩) hHeld ?_
      try simp only [Act.put, List.setIfInBounds_toArray, List.set_cons_zero, List.set_cons_succ]
      refine take_d 6 (some 59) (.int .i64 dE) rfl (by kernel_rfl) (by kernel_rfl) (by kernel_rfl) (fun _ _ _ h => h) (fun oi h => by cases h; exact Or.inl ⟨by rfl, fun w' hS' => by go_simp⟩) hHeld ?_
      try simp only [Act.put, List.setIfInBounds_toArray, List.set_cons_zero, List.set_cons_succ]
      refine take_d 7 (some 13) (.string dT) rfl (by kernel_rfl) (by kernel_rfl) (by kernel_rfl) (fun _ _ _ h => h) (fun oi h => by cases h; exact Or.inl ⟨by rfl, fun w' hS' => by go_simp⟩) hHeld ?_
      try simp only [Act.put, List.setIfInBounds_toArray, List.set_cons_zero, List.set_cons_succ]
      refine take_d 8 (some 14) (.int .i64 dE) rfl (by kernel_rfl) (by kernel_rfl) (by kernel_rfl) (fun _ _ _ h => h) (fun oi h => by cases h; exact Or.inl ⟨by rfl, fun w' hS' => by go_simp⟩) hHeld ?_
      try simp only [Act.put, List.setIfInBounds_toArray, List.set_cons_zero, List.set_cons_succ]
      refine wpAnyH_done (by kernel_rfl) ?_ _
      try simp only [Act.put]
      replace r := hHeld.1
      replace q := hHeld.2.1
      replace m := hHeld.2.2.1
      replace n := hHeld.2.2.2.1
      replace bb := hHeld.2.2.2.2
      clear hHeld
      go_wp2
      refine wp_region_held_drew (S := fun w' => Row w' gk 27 [.int .u64 (f : Int), .string T] ∧ Row w' (gk + 1) 29 [.int .u64 (f : Int), .string T] ∧ Row w' gm 27 [.int .u64 (h : Int), .string U] ∧ Row w' (gm + 1) 29 [.int .u64 (h : Int), .string U] ∧ Below w.heap.size w w') (by kernel_rfl) (⟨r.drew, q.drew, m.drew, n.drew, bb.drew⟩) (fun hHeld => ?_)
      generalize v34.drew = wd35 at *
      refine take_d 0 (some 60) (.string dT) rfl (by kernel_rfl) (by kernel_rfl) (by kernel_rfl) (fun _ _ _ h => h) (fun oi h => by cases h; exact Or.inl ⟨by rfl, fun w' hS' => by go_simp⟩) hHeld ?_
      try simp only [Act.put, List.setIfInBounds_toArray, List.set_cons_zero, List.set_cons_succ]
      refine take_d 1 (some 61) (.string dT) rfl (by kernel_rfl) (by kernel_rfl) (by kernel_rfl) (fun _ _ _ h => h) (fun oi h => by cases h; exact Or.inl ⟨by rfl, fun w' hS' => by go_simp⟩) hHeld ?_
      try simp only [Act.put, List.setIfInBounds_toArray, List.set_cons_zero, List.set_cons_succ]
      refine take_d 2 (some 62) (.bool false) rfl (by kernel_rfl) (by kernel_rfl) (by kernel_rfl) (fun _ _ _ h => h) (fun oi h => by cases h; exact Or.inl ⟨by rfl, fun w' hS' => by go_simp⟩) hHeld ?_
      try simp only [Act.put, List.setIfInBounds_toArray, List.set_cons_zero, List.set_cons_succ]
      refine take_d 3 (some 63) (.bool false) rfl (by kernel_rfl) (by kernel_rfl) (by kernel_rfl) (fun _ _ _ h => h) (fun oi h => by cases h; exact Or.inl ⟨by rfl, fun w' hS' => by go_simp⟩) hHeld ?_
      try simp only [Act.put, List.setIfInBounds_toArray, List.set_cons_zero, List.set_cons_succ]
      refine take_d 4 (some 64) (.int .i64 dE) rfl (by kernel_rfl) (by kernel_rfl) (by kernel_rfl) (fun _ _ _ h => h) (fun oi h => by cases h; exact Or.inl ⟨by rfl, fun w' hS' => by go_simp⟩) hHeld ?_
      try simp only [Act.put, List.setIfInBounds_toArray, List.set_cons_zero, List.set_cons_succ]
      refine take_d 5 (some 65) (.int .i64 dE) rfl (by kernel_rfl) (by kernel_rfl) (by kernel_rfl) (fun _ _ _ h => h) (fun oi h => by cases h; exact Or.inl ⟨by rfl, fun w' hS' => by go_simp⟩) hHeld ?_
      try simp only [Act.put, List.setIfInBounds_toArray, List.set_cons_zero, List.set_cons_succ]
      refine take_d 6 (some 66) (.bool false) rfl (by kernel_rfl) (by kernel_rfl) (by kernel_rfl) (fun _ _ _ h => h) (fun oi h => by cases h; exact Or.inl ⟨by rfl, fun w' hS' => by go_simp⟩) hHeld ?_
      try simp only [Act.put, List.setIfInBounds_toArray, List.set_cons_zero, List.set_cons_succ]
      refine take_d 7 (some 67) (.bool false) rfl (by kernel_rfl) (by kernel_rfl) (by kernel_rfl) (fun _ _ _ h => h) (fun oi h => by cases h; exact Or.inl ⟨by rfl, fun w' hS' => by go_simp⟩) hHeld ?_
      try simp only [Act.put, List.setIfInBounds_toArray, List.set_cons_zero, List.set_cons_succ]
      refine take_d 8 (some 68) (.bool false) rfl (by kernel_rfl) (by kernel_rfl) (by kernel_rfl) (fun _ _ _ h => h) (fun oi h => by cases h; exact Or.inl ⟨by rfl, fun w' hS' => by go_simp⟩) hHeld ?_
      try simp only [Act.put, List.setIfInBounds_toArray, List.set_cons_zero, List.set_cons_succ]
      refine take_d 9 (some 69) (.agg #[.int .u64 (f : Int), .string T]) rfl (by kernel_rfl) (by kernel_rfl) (by kernel_rfl) (fun _ _ _ h => h) (fun oi h => by cases h; exact yieldsIf_load_mid (by rfl) 27 (.tmp 5) rfl gk 0 rfl [.int .u64 (f : Int), .string T] _ (fun w' hS' => hS'.1.range) Try.underlying27 rfl infoKeys) hHeld ?_
      try simp only [Act.put, List.setIfInBounds_toArray, List.set_cons_zero, List.set_cons_succ]
      refine take_d 10 (some 70) (.agg #[.int .u64 (h : Int), .string U]) rfl (by kernel_rfl) (by kernel_rfl) (by kernel_rfl) (fun _ _ _ h => h) (fun oi h => by cases h; exact yieldsIf_load_mid (by rfl) 27 (.tmp 8) rfl gm 0 rfl [.int .u64 (h : Int), .string U] _ (fun w' hS' => hS'.2.2.1.range) Try.underlying27 rfl infoKeys) hHeld ?_
      try simp only [Act.put, List.setIfInBounds_toArray, List.set_cons_zero, List.set_cons_succ]
      refine take_d 12 (some 72) (.agg #[.int .u64 (f : Int), .string T]) rfl (by kernel_rfl) (by kernel_rfl) (by kernel_rfl) (fun _ _ _ h => h) (fun oi h => by cases h; exact yieldsIf_load_mid (by rfl) 29 (.tmp 6) rfl (gk + 1) 0 rfl [.int .u64 (f : Int), .string T] _ (fun w' hS' => hS'.2.1.range) Try.underlying29 rfl infoRK) hHeld ?_
      try simp only [Act.put, List.setIfInBounds_toArray, List.set_cons_zero, List.set_cons_succ]
      refine take_d 13 (some 73) (.agg #[.int .u64 (h : Int), .string U]) rfl (by kernel_rfl) (by kernel_rfl) (by kernel_rfl) (fun _ _ _ h => h) (fun oi h => by cases h; exact yieldsIf_load_mid (by rfl) 29 (.tmp 9) rfl (gm + 1) 0 rfl [.int .u64 (h : Int), .string U] _ (fun w' hS' => hS'.2.2.2.1.range) Try.underlying29 rfl infoRK) hHeld ?_
      try simp only [Act.put, List.setIfInBounds_toArray, List.set_cons_zero, List.set_cons_succ]
      refine one_d 11 (some 71) rfl (by kernel_rfl) ?_
      intro o ho1 hd K hK
      cases ho1
      go_simp
      refine (CSm.out _).mono ?_
      rintro e v36 ⟨rfl, bb0⟩
      refine hK.out _ _ (⟨hHeld.1.below bb0 hHeld.1.lt, hHeld.2.1.below bb0 hHeld.2.1.lt, hHeld.2.2.1.below bb0 hHeld.2.2.1.lt, hHeld.2.2.2.1.below bb0 hHeld.2.2.2.1.lt, hHeld.2.2.2.2.trans (bb0.mono hHeld.2.2.2.2.size)⟩) (fun hHeld => ?_)
      clear bb0
      clear hK K hd
      try simp only [Act.put, List.setIfInBounds_toArray, List.set_cons_zero, List.set_cons_succ]
      refine one_d 14 (some 74) rfl (by kernel_rfl) ?_
      intro o ho1 hd K hK
      cases ho1
      go_simp
      refine (CQm.out _).mono ?_
      rintro e v37 ⟨rfl, bb0⟩
      refine hK.out _ _ (⟨hHeld.1.below bb0 hHeld.1.lt, hHeld.2.1.below bb0 hHeld.2.1.lt, hHeld.2.2.1.below bb0 hHeld.2.2.1.lt, hHeld.2.2.2.1.below bb0 hHeld.2.2.2.1.lt, hHeld.2.2.2.2.trans (bb0.mono hHeld.2.2.2.2.size)⟩) (fun hHeld => ?_)
      clear bb0
      clear hK K hd
      try simp only [Act.put, List.setIfInBounds_toArray, List.set_cons_zero, List.set_cons_succ]
      refine take_d 15 (some 75) (.bool false) rfl (by kernel_rfl) (by kernel_rfl) (by kernel_rfl) (fun _ _ _ h => h) (fun oi h => by cases h; exact Or.inl ⟨by rfl, fun w' hS' => by go_simp⟩) hHeld ?_
      try simp only [Act.put, List.setIfInBounds_toArray, List.set_cons_zero, List.set_cons_succ]
      refine take_d 16 (some 76) (.bool false) rfl (by kernel_rfl) (by kernel_rfl) (by kernel_rfl) (fun _ _ _ h => h) (fun oi h => by cases h; exact Or.inl ⟨by rfl, fun w' hS' => by go_simp⟩) hHeld ?_
      try simp only [Act.put, List.setIfInBounds_toArray, List.set_cons_zero, List.set_cons_succ]
      refine take_d 17 (some 77) (.bool false) rfl (by kernel_rfl) (by kernel_rfl) (by kernel_rfl) (fun _ _ _ h => h) (fun oi h => by cases h; exact Or.inl ⟨by rfl, fun w' hS' => by go_simp⟩) hHeld ?_
      try simp only [Act.put, List.setIfInBounds_toArray, List.set_cons_zero, List.set_cons_succ]
      refine take_d 18 (some 78) (.agg #[.int .u64 (f : Int), .string T]) rfl (by kernel_rfl) (by kernel_rfl) (by kernel_rfl) (fun _ _ _ h => h) (fun oi h => by cases h; exact yieldsIf_load_mid (by rfl) 27 (.tmp 5) rfl gk 0 rfl [.int .u64 (f : Int), .string T] _ (fun w' hS' => hS'.1.range) Try.underlying27 rfl infoKeys) hHeld ?_
      try simp only [Act.put, List.setIfInBounds_toArray, List.set_cons_zero, List.set_cons_succ]
      refine take_d 19 (some 79) (.agg #[.int .u64 (f : Int), .string T]) rfl (by kernel_rfl) (by kernel_rfl) (by kernel_rfl) (fun _ _ _ h => h) (fun oi h => by cases h; exact yieldsIf_load_mid (by rfl) 27 (.tmp 5) rfl gk 0 rfl [.int .u64 (f : Int), .string T] _ (fun w' hS' => hS'.1.range) Try.underlying27 rfl infoKeys) hHeld ?_
      try simp only [Act.put, List.setIfInBounds_toArray, List.set_cons_zero, List.set_cons_succ]
      refine one_d 20 (some 80) rfl (by kernel_rfl) ?_
      intro o ho1 hd K hK
      cases ho1
      go_simp
      refine (CSk.out _).mono ?_
      rintro e v38 ⟨rfl, bb0⟩
      refine hK.out _ _ (⟨hHeld.1.below bb0 hHeld.1.lt, hHeld.2.1.below bb0 hHeld.2.1.lt, hHeld.2.2.1.below bb0 hHeld.2.2.1.lt, hHeld.2.2.2.1.below bb0 hHeld.2.2.2.1.lt, hHeld.2.2.2.2.trans (bb0.mono hHeld.2.2.2.2.size)⟩) (fun hHeld => ?_)
      clear bb0
      clear hK K hd
      try simp only [Act.put, List.setIfInBounds_toArray, List.set_cons_zero, List.set_cons_succ]
      refine take_d 21 (some 81) (.bool false) rfl (by kernel_rfl) (by kernel_rfl) (by kernel_rfl) (fun _ _ _ h => h) (fun oi h => by cases h; exact Or.inl ⟨by rfl, fun w' hS' => by go_simp⟩) hHeld ?_
      try simp only [Act.put, List.setIfInBounds_toArray, List.set_cons_zero, List.set_cons_succ]
      refine take_d 22 (some 82) (.bool false) rfl (by kernel_rfl) (by kernel_rfl) (by kernel_rfl) (fun _ _ _ h => h) (fun oi h => by cases h; exact Or.inl ⟨by rfl, fun w' hS' => by go_simp⟩) hHeld ?_
      try simp only [Act.put, List.setIfInBounds_toArray, List.set_cons_zero, List.set_cons_succ]
      refine wpAnyH_done (by kernel_rfl) ?_ _
      try simp only [Act.put]
      replace r := hHeld.1
      replace q := hHeld.2.1
      replace m := hHeld.2.2.1
      replace n := hHeld.2.2.2.1
      replace bb := hHeld.2.2.2.2
      clear hHeld
      rcases HDE.out with rfl | rfl
      · go_wp2_with (first | refine wpList_load_row rfl 27 (.tmp 5) rfl (gk) rfl _ _ _ _ r Try.underlying27 rfl infoKeys ?_)
        refine (CD1.out _).mono ?_
        rintro e wa39 ⟨rfl, bwa39⟩
        replace r := r.below bwa39 r.lt
        replace q := q.below bwa39 q.lt
        replace m := m.below bwa39 m.lt
        replace n := n.below bwa39 n.lt
        replace bb := bb.trans (bwa39.mono bb.size)
        clear bwa39
        have x : Row (wa39.alloc (.cells #[.int .u64 (xN : Int), .string xT] 27 (0, 0))) wa39.heap.size 27 [.int .u64 (xN : Int), .string xT] := Row.new' rfl rfl
        have lrx : gk < wa39.heap.size := r.lt
        have lqx : (gk + 1) < wa39.heap.size := q.lt
        have lmx : gm < wa39.heap.size := m.lt
        have lnx : (gm + 1) < wa39.heap.size := n.lt
        have lzx := bb.size
        replace r := r.alloc (.cells #[.int .u64 (xN : Int), .string xT] 27 (0, 0))
        replace q := q.alloc (.cells #[.int .u64 (xN : Int), .string xT] 27 (0, 0))
        replace m := m.alloc (.cells #[.int .u64 (xN : Int), .string xT] 27 (0, 0))
        replace n := n.alloc (.cells #[.int .u64 (xN : Int), .string xT] 27 (0, 0))
        replace bb := bb.alloc bb.size (.cells #[.int .u64 (xN : Int), .string xT] 27 (0, 0))
        go_wp2_with (first | refine wpList_load_row rfl 29 (.tmp 6) rfl ((gk + 1)) rfl _ _ _ _ q Try.underlying29 rfl infoRK ?_)
        obtain ⟨gx, hgx⟩ : ∃ gx, gx = wa39.heap.size := ⟨_, rfl⟩
        rw [← hgx] at x lrx lqx lmx lnx lzx ⊢
        generalize wa39.alloc (.cells #[.int .u64 (xN : Int), .string xT] 27 (0, 0)) = wa40 at *
        clear hgx
        refine (CQ1.out _).mono ?_
        rintro e wa41 ⟨rfl, bwa41⟩
        replace r := r.below bwa41 r.lt
        replace q := q.below bwa41 q.lt
        replace m := m.below bwa41 m.lt
        replace n := n.below bwa41 n.lt
        replace x := x.below bwa41 x.lt
        replace bb := bb.trans (bwa41.mono bb.size)
        clear bwa41
        go_wp2
        have y : Row (wa41.alloc (.cells #[.int .u64 (xN : Int), .string xT] 29 (0, 0))) wa41.heap.size 29 [.int .u64 (xN : Int), .string xT] := Row.new' rfl rfl
        have lry : gk < wa41.heap.size := r.lt
        have lqy : (gk + 1) < wa41.heap.size := q.lt
        have lmy : gm < wa41.heap.size := m.lt
        have lny : (gm + 1) < wa41.heap.size := n.lt
        have lxy : gx < wa41.heap.size := x.lt
        have lzy := bb.size
        replace r := r.alloc (.cells #[.int .u64 (xN : Int), .string xT] 29 (0, 0))
        replace q := q.alloc (.cells #[.int .u64 (xN : Int), .string xT] 29 (0, 0))
        replace m := m.alloc (.cells #[.int .u64 (xN : Int), .string xT] 29 (0, 0))
        replace n := n.alloc (.cells #[.int .u64 (xN : Int), .string xT] 29 (0, 0))
        replace x := x.alloc (.cells #[.int .u64 (xN : Int), .string xT] 29 (0, 0))
        replace bb := bb.alloc bb.size (.cells #[.int .u64 (xN : Int), .string xT] 29 (0, 0))
        obtain ⟨gy, hgy⟩ : ∃ gy, gy = wa41.heap.size := ⟨_, rfl⟩
        rw [← hgy] at y lry lqy lmy lny lxy lzy ⊢
        generalize wa41.alloc (.cells #[.int .u64 (xN : Int), .string xT] 29 (0, 0)) = wa42 at *
        clear hgy
        clear r q
        refine wp_region_held_drew (S := fun w' => Row w' gm 27 [.int .u64 (h : Int), .string U] ∧ Row w' (gm + 1) 29 [.int .u64 (h : Int), .string U] ∧ Row w' gx 27 [.int .u64 (xN : Int), .string xT] ∧ Row w' gy 29 [.int .u64 (xN : Int), .string xT] ∧ Below w.heap.size w w') (by kernel_rfl) (⟨m.drew, n.drew, x.drew, y.drew, bb.drew⟩) (fun hHeld => ?_)
        generalize wa42.drew = wd43 at *
        refine take_d 0 (some 97) (.int .i64 0) rfl (by kernel_rfl) (by kernel_rfl) (by kernel_rfl) (fun _ _ _ h => h) (fun oi h => by cases h; exact Or.inl ⟨by rfl, fun w' hS' => by go_simp⟩) hHeld ?_
        try simp only [Act.put, List.setIfInBounds_toArray, List.set_cons_zero, List.set_cons_succ]
        refine take_d 1 (some 98) (.bool true) rfl (by kernel_rfl) (by kernel_rfl) (by kernel_rfl) (fun _ _ _ h => h) (fun oi h => by cases h; exact Or.inl ⟨by rfl, fun w' hS' => by go_simp⟩) hHeld ?_
        try simp only [Act.put, List.setIfInBounds_toArray, List.set_cons_zero, List.set_cons_succ]
        refine take_d 2 (some 99) (.bool true) rfl (by kernel_rfl) (by kernel_rfl) (by kernel_rfl) (fun _ _ _ h => h) (fun oi h => by cases h; exact Or.inl ⟨by rfl, fun w' hS' => by go_simp⟩) hHeld ?_
        try simp only [Act.put, List.setIfInBounds_toArray, List.set_cons_zero, List.set_cons_succ]
        refine take_d 3 (some 100) (.agg #[.int .u64 (xN : Int), .string xT]) rfl (by kernel_rfl) (by kernel_rfl) (by kernel_rfl) (fun _ _ _ h => h) (fun oi h => by cases h; exact yieldsIf_load_mid (by rfl) 27 (.tmp 15) rfl gx 0 rfl [.int .u64 (xN : Int), .string xT] _ (fun w' hS' => hS'.2.2.1.range) Try.underlying27 rfl infoKeys) hHeld ?_
        try simp only [Act.put, List.setIfInBounds_toArray, List.set_cons_zero, List.set_cons_succ]
        refine take_d 4 (some 101) (.agg #[.int .u64 (xN : Int), .string xT]) rfl (by kernel_rfl) (by kernel_rfl) (by kernel_rfl) (fun _ _ _ h => h) (fun oi h => by cases h; exact yieldsIf_load_mid (by rfl) 29 (.tmp 17) rfl gy 0 rfl [.int .u64 (xN : Int), .string xT] _ (fun w' hS' => hS'.2.2.2.1.range) Try.underlying29 rfl infoRK) hHeld ?_
        try simp only [Act.put, List.setIfInBounds_toArray, List.set_cons_zero, List.set_cons_succ]
        refine one_d 5 (some 102) rfl (by kernel_rfl) ?_
        intro o ho1 hd K hK
        cases ho1
        go_simp
        refine (CI1.out _).mono ?_
        rintro e v44 ⟨rfl, bb0⟩
        refine hK.out _ _ (⟨hHeld.1.below bb0 hHeld.1.lt, hHeld.2.1.below bb0 hHeld.2.1.lt, hHeld.2.2.1.below bb0 hHeld.2.2.1.lt, hHeld.2.2.2.1.below bb0 hHeld.2.2.2.1.lt, hHeld.2.2.2.2.trans (bb0.mono hHeld.2.2.2.2.size)⟩) (fun hHeld => ?_)
        clear bb0
        clear hK K hd
        try simp only [Act.put, List.setIfInBounds_toArray, List.set_cons_zero, List.set_cons_succ]
        refine take_d 6 (some 103) (.bool true) rfl (by kernel_rfl) (by kernel_rfl) (by kernel_rfl) (fun _ _ _ h => h) (fun oi h => by cases h; exact Or.inl ⟨by rfl, fun w' hS' => by go_simp⟩) hHeld ?_
        try simp only [Act.put, List.setIfInBounds_toArray, List.set_cons_zero, List.set_cons_succ]
        refine take_d 7 (some 104) (.bool true) rfl (by kernel_rfl) (by kernel_rfl) (by kernel_rfl) (fun _ _ _ h => h) (fun oi h => by cases h; exact Or.inl ⟨by rfl, fun w' hS' => by go_simp⟩) hHeld ?_
        try simp only [Act.put, List.setIfInBounds_toArray, List.set_cons_zero, List.set_cons_succ]
        refine take_d 8 (some 105) (.agg #[.int .u64 (xN : Int), .string xT]) rfl (by kernel_rfl) (by kernel_rfl) (by kernel_rfl) (fun _ _ _ h => h) (fun oi h => by cases h; exact yieldsIf_load_mid (by rfl) 27 (.tmp 15) rfl gx 0 rfl [.int .u64 (xN : Int), .string xT] _ (fun w' hS' => hS'.2.2.1.range) Try.underlying27 rfl infoKeys) hHeld ?_
        try simp only [Act.put, List.setIfInBounds_toArray, List.set_cons_zero, List.set_cons_succ]
        refine take_d 9 (some 106) (.agg #[.int .u64 (h : Int), .string U]) rfl (by kernel_rfl) (by kernel_rfl) (by kernel_rfl) (fun _ _ _ h => h) (fun oi h => by cases h; exact yieldsIf_load_mid (by rfl) 27 (.tmp 8) rfl gm 0 rfl [.int .u64 (h : Int), .string U] _ (fun w' hS' => hS'.1.range) Try.underlying27 rfl infoKeys) hHeld ?_
        try simp only [Act.put, List.setIfInBounds_toArray, List.set_cons_zero, List.set_cons_succ]
        refine take_d 11 (some 108) (.agg #[.int .u64 (xN : Int), .string xT]) rfl (by kernel_rfl) (by kernel_rfl) (by kernel_rfl) (fun _ _ _ h => h) (fun oi h => by cases h; exact yieldsIf_load_mid (by rfl) 29 (.tmp 17) rfl gy 0 rfl [.int .u64 (xN : Int), .string xT] _ (fun w' hS' => hS'.2.2.2.1.range) Try.underlying29 rfl infoRK) hHeld ?_
        try simp only [Act.put, List.setIfInBounds_toArray, List.set_cons_zero, List.set_cons_succ]
        refine take_d 12 (some 109) (.agg #[.int .u64 (h : Int), .string U]) rfl (by kernel_rfl) (by kernel_rfl) (by kernel_rfl) (fun _ _ _ h => h) (fun oi h => by cases h; exact yieldsIf_load_mid (by rfl) 29 (.tmp 9) rfl (gm + 1) 0 rfl [.int .u64 (h : Int), .string U] _ (fun w' hS' => hS'.2.1.range) Try.underlying29 rfl infoRK) hHeld ?_
        try simp only [Act.put, List.setIfInBounds_toArray, List.set_cons_zero, List.set_cons_succ]
        refine one_d 10 (some 107) rfl (by kernel_rfl) ?_
        intro o ho1 hd K hK
        cases ho1
        go_simp
        refine (CS2.out _).mono ?_
        rintro e v45 ⟨rfl, bb0⟩
        refine hK.out _ _ (⟨hHeld.1.below bb0 hHeld.1.lt, hHeld.2.1.below bb0 hHeld.2.1.lt, hHeld.2.2.1.below bb0 hHeld.2.2.1.lt, hHeld.2.2.2.1.below bb0 hHeld.2.2.2.1.lt, hHeld.2.2.2.2.trans (bb0.mono hHeld.2.2.2.2.size)⟩) (fun hHeld => ?_)
        clear bb0
        clear hK K hd
        try simp only [Act.put, List.setIfInBounds_toArray, List.set_cons_zero, List.set_cons_succ]
        refine one_d 13 (some 110) rfl (by kernel_rfl) ?_
        intro o ho1 hd K hK
        cases ho1
        go_simp
        refine (CQ2.out _).mono ?_
        rintro e v46 ⟨rfl, bb0⟩
        refine hK.out _ _ (⟨hHeld.1.below bb0 hHeld.1.lt, hHeld.2.1.below bb0 hHeld.2.1.lt, hHeld.2.2.1.below bb0 hHeld.2.2.1.lt, hHeld.2.2.2.1.below bb0 hHeld.2.2.2.1.lt, hHeld.2.2.2.2.trans (bb0.mono hHeld.2.2.2.2.size)⟩) (fun hHeld => ?_)
        clear bb0
        clear hK K hd
        try simp only [Act.put, List.setIfInBounds_toArray, List.set_cons_zero, List.set_cons_succ]
        refine take_d 14 (some 111) (.bool true) rfl (by kernel_rfl) (by kernel_rfl) (by kernel_rfl) (fun _ _ _ h => h) (fun oi h => by cases h; exact Or.inl ⟨by rfl, fun w' hS' => by go_simp⟩) hHeld ?_
        try simp only [Act.put, List.setIfInBounds_toArray, List.set_cons_zero, List.set_cons_succ]
        refine take_d 15 (some 112) (.bool true) rfl (by kernel_rfl) (by kernel_rfl) (by kernel_rfl) (fun _ _ _ h => h) (fun oi h => by cases h; exact Or.inl ⟨by rfl, fun w' hS' => by go_simp⟩) hHeld ?_
        try simp only [Act.put, List.setIfInBounds_toArray, List.set_cons_zero, List.set_cons_succ]
        refine take_d 16 (some 4) (.bool true) rfl (by kernel_rfl) (by kernel_rfl) (by kernel_rfl) (fun _ _ _ h => h) (fun oi h => by cases h; exact Or.inl ⟨by rfl, fun w' hS' => by go_simp⟩) hHeld ?_
        try simp only [Act.put, List.setIfInBounds_toArray, List.set_cons_zero, List.set_cons_succ]
        refine wpAnyH_done (by kernel_rfl) ?_ _
        try simp only [Act.put]
        replace m := hHeld.1
        replace n := hHeld.2.1
        replace x := hHeld.2.2.1
        replace y := hHeld.2.2.2.1
        replace bb := hHeld.2.2.2.2
        clear hHeld
        go_wp2
        go_ret
        exact ⟨rfl, bb⟩
      · clear CD1 CQ1 CI1 CS2 CQ2
        go_wp2
        go_ret
        exact ⟨rfl, bb⟩
    · have HK := Lib.hid hk
      clear hk
      go_enter Try.func4, Try.ntmps4
      go_wp2_with fail
      refine (CA.out _).mono ?_
      rintro e wa ⟨rfl, ba⟩
      go_wp2_with fail
      refine (light13_yes a0 len0 cap0 wa (HL.out.below ba)).mono ?_
      rintro e wb ⟨rfl, bb0⟩
      have bb := ba.trans (bb0.mono ba.size)
      clear ba bb0 CA
      go_wp2_with fail
      refine (light13_no a1 len1 cap1 wb (HI1.out.below bb) (fun hh => HK.out (LightU.up hh bb HI1.out))).mono ?_
      rintro e wc ⟨rfl, bc⟩
      replace bb := bb.trans (bc.mono bb.size)
      clear bc HK HI1 HL
      go_wp2
      go_ret
      exact ⟨rfl, bb⟩
  · have HL := Lib.hid hl
    have HI := Lib.hid w0
    clear hl w0 w1
    go_enter Try.func4, Try.ntmps4
    go_wp2_with fail
    refine (CA.out _).mono ?_
    rintro e wa ⟨rfl, ba⟩
    go_wp2_with fail
    refine (light13_no a0 len0 cap0 wa (HI.out.below ba) (fun hh => HL.out (LightU.up hh ba HI.out))).mono ?_
    rintro e wb ⟨rfl, bb0⟩
    have bb := ba.trans (bb0.mono ba.size)
    clear ba bb0 HL CA HI
    go_wp2
    go_ret
    exact ⟨rfl, bb⟩

end Go.Proofs.Ytggkkahifoccfaa.KeysDiffsW
