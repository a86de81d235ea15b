/-
  Layer 14's statements: their example; Is.
-/
import Derived.Test.YtdcpacdfbbdnlaaDoorURef
import Derived.Test.YtdcpacdfbbdnlaaDoorRText
import Derived.Test.YtdcpacdfbbdnlaaDoorRSame
namespace Go.Proofs.YtdcpacdfbbdnlaaDoor
open Go.RowKit
set_option linter.unusedVariables false
set_option maxRecDepth 20000
set_option linter.unusedSimpArgs false
set_option maxRecDepth 20000

theorem aw2_any (w : World) (ht : Tab w) (hp : Pow10T w) : Calls Tryd.prog 22 #[] w fun e w' => e = .returned (.bool true) ∧ Below w.heap.size w w' := by
  have HA := Lib.hid (awake2_any w ht hp)
  clear ht hp
  go_enter Tryd.func22, Tryd.ntmps22
  go_wp2_with fail
  refine HA.out.mono ?_
  rintro e w1 ⟨rfl, hb⟩
  go_wp2
  go_ret
  exact ⟨rfl, hb⟩

set_option maxHeartbeats 4000000 in
theorem awake14_any (w : World) (ht : Tab w) (hp : Pow10T w) : Calls Tryd.prog 7 #[] w fun e w' => e = .returned (.bool true) ∧ Below w.heap.size w w' := by
  have HT : Hid (Tab w) := ht
  have HP : Hid (Pow10T w) := hp
  have CT : Hid (∀ wx, Calls Tryd.prog 9 #[.agg #[.int .u64 0, .int .u64 0, .int .u64 0], .int .u64 100] wx fun e w' => e = .returned (.agg #[.int .u64 1, .int .u64 800, .int .u64 200]) ∧ Below wx.heap.size wx w') := fun wx => told_first 0 0 100 wx
  have CS : Hid (∀ wx, Calls Tryd.prog 17 #[.agg #[.int .u64 1, .int .u64 800, .int .u64 200]] wx fun e w' => e = .returned (.int .u64 100) ∧ Below wx.heap.size wx w') := fun wx => smooth_any 1 800 200 (by decide) wx
  have CQ : Hid (∀ wx, Calls Tryd.prog 18 #[.agg #[.int .u64 1, .int .u64 800, .int .u64 200]] wx fun e w' => e = .returned (.int .u64 300) ∧ Below wx.heap.size wx w') := fun wx => wait_any 1 800 200 (by decide) (by decide) wx
  have CC : Hid (∀ wx, Calls Tryd.prog 21 #[.agg #[.int .u64 1, .int .u64 800, .int .u64 200]] wx fun e w' => e = .returned (.int .u64 1) ∧ Below wx.heap.size wx w') := fun wx => count_any 1 800 200 wx
  have CW : Hid (∀ wx, Tab wx → Pow10T wx → Calls Tryd.prog 22 #[] wx fun e w' => e = .returned (.bool true) ∧ Below wx.heap.size wx w') := aw2_any
  clear ht hp
  have bb : Below w.heap.size w w := Below.refl _ _
  go_enter Tryd.func7, Tryd.ntmps7
  go_wp2_with fail
  refine (CT.out _).mono ?_
  rintro e wa2 ⟨rfl, bwa2⟩
  replace bb := bb.trans (bwa2.mono bb.size)
  clear bwa2
  go_wp2_with fail
  have r : Row (wa2.alloc (.cells #[.int .u64 1, .int .u64 800, .int .u64 200] 26 (0, 0))) wa2.heap.size 26 [.int .u64 1, .int .u64 800, .int .u64 200] := Row.new' rfl rfl
  have lzr := bb.size
  replace bb := bb.alloc bb.size (.cells #[.int .u64 1, .int .u64 800, .int .u64 200] 26 (0, 0))
  obtain ⟨g, hg⟩ : ∃ g, g = wa2.heap.size := ⟨_, rfl⟩
  rw [← hg] at r lzr ⊢
  generalize wa2.alloc (.cells #[.int .u64 1, .int .u64 800, .int .u64 200] 26 (0, 0)) = wa3 at *
  clear hg
  have ba := CW.out _ (HT.out.below bb) (HP.out.below bb)
  refine ba.mono ?_
  rintro e wz ⟨rfl, bz⟩
  clear ba
  replace r := r.below bz r.lt
  replace bb := bb.trans (bz.mono bb.size)
  clear bz
  go_wp2_with (first | refine wpList_rowT (by rfl) 26 (.tmp 1) rfl (g) rfl _ _ _ (r) Tryd.underlying26 rfl infoClock ?_)
  refine (CS.out _).mono ?_
  rintro e wa4 ⟨rfl, bwa4⟩
  replace r := r.below bwa4 r.lt
  replace bb := bb.trans (bwa4.mono bb.size)
  clear bwa4
  go_wp2_with (first | refine wpList_rowT (by rfl) 26 (.tmp 1) rfl (g) rfl _ _ _ (r) Tryd.underlying26 rfl infoClock ?_)
  refine (CQ.out _).mono ?_
  rintro e wa5 ⟨rfl, bwa5⟩
  replace r := r.below bwa5 r.lt
  replace bb := bb.trans (bwa5.mono bb.size)
  clear bwa5
  go_wp2_with (first | refine wpList_rowT (by rfl) 26 (.tmp 1) rfl (g) rfl _ _ _ (r) Tryd.underlying26 rfl infoClock ?_)
  refine (CC.out _).mono ?_
  rintro e wa6 ⟨rfl, bwa6⟩
  replace r := r.below bwa6 r.lt
  replace bb := bb.trans (bwa6.mono bb.size)
  clear bwa6
  go_wp2
  go_ret
  exact ⟨rfl, bb⟩

set_option maxHeartbeats 8000000 in
theorem is14_any (n S V : Nat) (hn : n ≤ 4611686018427387904) (ok : T14.Ok n S V) (w : World) : Calls Tryd.prog 8 #[.agg #[.int .u64 (n : Int), .int .u64 (S : Int), .int .u64 (V : Int)], .agg #[.int .u64 (n : Int), .int .u64 (S : Int), .int .u64 (V : Int)]] w fun e w' => e = .returned (.bool true) ∧ Below w.heap.size w w' := by
  have hs := ok.s
  have hv := ok.v
  have hz := ok.z
  clear ok
  obtain ⟨m, hm⟩ : ∃ m, m = S / 8 := ⟨_, rfl⟩
  obtain ⟨z, hzz⟩ : ∃ z, z = T14.wait n S V := ⟨_, rfl⟩
  have FM : Hid ((S : Int) / 8 = (m : Int)) := by show _ = _; omega
  have FW : Hid (IntKind.u64.wrap (m : Int) = (m : Int)) := by show _ = _; rw [IntKind.wrap_u64]; omega
  have CC : Hid (∀ wx, Calls Tryd.prog 21 #[.agg #[.int .u64 (n : Int), .int .u64 (S : Int), .int .u64 (V : Int)]] wx fun e w' => e = .returned (.int .u64 (n : Int)) ∧ Below wx.heap.size wx w') := fun wx => count_any n S V wx
  have CS : Hid (∀ wx, Calls Tryd.prog 17 #[.agg #[.int .u64 (n : Int), .int .u64 (S : Int), .int .u64 (V : Int)]] wx fun e w' => e = .returned (.int .u64 (m : Int)) ∧ Below wx.heap.size wx w') := fun wx => by rw [hm]; exact smooth_any n S V hs wx
  have CQ : Hid (∀ wx, Calls Tryd.prog 18 #[.agg #[.int .u64 (n : Int), .int .u64 (S : Int), .int .u64 (V : Int)]] wx fun e w' => e = .returned (.int .u64 (z : Int)) ∧ Below wx.heap.size wx w') := fun wx => by rw [hzz]; exact wait_any n S V hs hv wx
  have CR : Hid (∀ wx, Calls Tryd.prog 23 #[.agg #[.int .u64 (n : Int), .int .u64 (S : Int), .int .u64 (V : Int)]] wx fun e w' => e = .returned (.int .u64 (z : Int)) ∧ Below wx.heap.size wx w') := fun wx => by rw [hzz]; exact refWait_any n S V hs hv wx
  have CJ : Hid (∀ wx, Calls Tryd.prog 20 #[.agg #[.int .u64 (n : Int), .int .u64 (S : Int), .int .u64 (V : Int)]] wx fun e w' => e = .returned (.float .f64 (R.qv (floatOfInt .f64 (2 * (V : Int))) (floatOfInt .f64 (S : Int)))) ∧ Below wx.heap.size wx w') := fun wx => jitter_any n S V hs hv wx
  have hpos : R.Pos (R.qv (floatOfInt .f64 (2 * (V : Int))) (floatOfInt .f64 (S : Int))) := R.qv_pos (R.whole_pos (2 * V)) (R.whole_pos S)
  have CM : Hid (∀ x wx, R.Pos x → Calls Tryd.prog 16 #[.float .f64 x, .float .f64 x] wx fun e w' => e = .returned (.bool true) ∧ Below wx.heap.size wx w') := fun x wx hx => (same_any x x hx.lt hx.lt wx).mono (by rintro e w' ⟨rfl, rfl⟩; exact ⟨by rw [R.Pos.same], Below.refl _ _⟩)
  have r : Row (((w.alloc (.cells #[.int .u64 (n : Int), .int .u64 (S : Int), .int .u64 (V : Int)] 26 (0, 0))).alloc (.cells #[.int .u64 (n : Int), .int .u64 (S : Int), .int .u64 (V : Int)] 28 (0, 0)))) w.heap.size 26 [.int .u64 (n : Int), .int .u64 (S : Int), .int .u64 (V : Int)] := (Row.new' rfl rfl).alloc _
  have q : Row (((w.alloc (.cells #[.int .u64 (n : Int), .int .u64 (S : Int), .int .u64 (V : Int)] 26 (0, 0))).alloc (.cells #[.int .u64 (n : Int), .int .u64 (S : Int), .int .u64 (V : Int)] 28 (0, 0)))) (w.heap.size + 1) 28 [.int .u64 (n : Int), .int .u64 (S : Int), .int .u64 (V : Int)] := Row.new' rfl (by simp)
  have bb : Below w.heap.size w (((w.alloc (.cells #[.int .u64 (n : Int), .int .u64 (S : Int), .int .u64 (V : Int)] 26 (0, 0))).alloc (.cells #[.int .u64 (n : Int), .int .u64 (S : Int), .int .u64 (V : Int)] 28 (0, 0)))) := ((Below.refl _ _).alloc (Nat.le_refl _) _).alloc (by simp) _
  by_cases h0 : S = 0
  · have hv0 := hz h0
    subst h0; subst hv0
    have hj : R.qv (floatOfInt .f64 (2 * ((0 : Nat) : Int))) (floatOfInt .f64 ((0 : Nat) : Int)) = 0 := by decide +kernel
    rw [hj] at CJ hpos
    have CM := Lib.hid (fun wx => CM.out 0 wx hpos)
    obtain rfl : m = 0 := by rw [hm]
    clear hm hzz hs hv hz hpos hj FM FW
    simp only [Int.natCast_zero] at *
    go_enter Tryd.func8, Tryd.ntmps8
    go_wp2
    generalize ((w.alloc (.cells #[.int .u64 (n : Int), .int .u64 0, .int .u64 0] 26 (0, 0))).alloc (.cells #[.int .u64 (n : Int), .int .u64 0, .int .u64 0] 28 (0, 0))) = w1 at *
    refine wp_region_held_drew (S := fun w' => Row w' w.heap.size 26 [.int .u64 (n : Int), .int .u64 0, .int .u64 0] ∧ Row w' (w.heap.size + 1) 28 [.int .u64 (n : Int), .int .u64 0, .int .u64 0] ∧ Below w.heap.size w w') (by kernel_rfl) (⟨r.drew, q.drew, bb.drew⟩) (fun hHeld => ?_)
    generalize w1.drew = wd2 at *
    refine take_d 0 (some 22) (.agg #[.int .u64 (n : Int), .int .u64 0, .int .u64 0]) rfl (by kernel_rfl) (by kernel_rfl) (by kernel_rfl) (fun _ _ _ h => h) (fun oi h => by cases h; exact yieldsIf_load_mid (by rfl) 26 (.tmp 2) rfl w.heap.size 0 rfl [.int .u64 (n : Int), .int .u64 0, .int .u64 0] _ (fun w' hS' => hS'.1.range) Tryd.underlying26 rfl infoClock) hHeld ?_
    try simp only [Act.put, List.setIfInBounds_toArray, List.set_cons_zero, List.set_cons_succ]
    refine take_d 2 (some 24) (.pointer (some ⟨(w.heap.size + 1), 0, none⟩)) rfl (by kernel_rfl) (by kernel_rfl) (by kernel_rfl) (fun _ _ _ h => h) (fun oi h => by cases h; exact Or.inl ⟨by rfl, fun w' hS' => by go_simp⟩) hHeld ?_
    try simp only [Act.put, List.setIfInBounds_toArray, List.set_cons_zero, List.set_cons_succ]
    refine take_d 3 (some 25) (.int .u64 (n : Int)) rfl (by kernel_rfl) (by kernel_rfl) (by kernel_rfl) (fun _ _ _ h => h) (fun oi h => by cases h; exact Or.inl ⟨by rfl, fun w' hS' => by have c : w'.cell? ⟨(w.heap.size + 1), 0, none⟩ = some (.int .u64 (n : Int)) := hS'.2.1.cell 0; go_simp⟩) hHeld ?_
    try simp only [Act.put, List.setIfInBounds_toArray, List.set_cons_zero, List.set_cons_succ]
    refine one_d 1 (some 23) rfl (by kernel_rfl) ?_
    intro o ho1 hd K hK
    cases ho1
    go_simp
    refine (CC.out _).mono ?_
    rintro e v3 ⟨rfl, bb0⟩
    refine hK.out _ _ (⟨hHeld.1.below bb0 hHeld.1.lt, hHeld.2.1.below bb0 hHeld.2.1.lt, hHeld.2.2.trans (bb0.mono hHeld.2.2.size)⟩) (fun hHeld => ?_)
    clear bb0
    clear hK K hd
    try simp only [Act.put, List.setIfInBounds_toArray, List.set_cons_zero, List.set_cons_succ]
    refine take_d 4 (some 26) (.bool true) rfl (by kernel_rfl) (by kernel_rfl) (by kernel_rfl) (fun _ _ _ h => h) (fun oi h => by cases h; exact Or.inl ⟨by rfl, fun w' hS' => by go_simp⟩) hHeld ?_
    try simp only [Act.put, List.setIfInBounds_toArray, List.set_cons_zero, List.set_cons_succ]
    refine take_d 5 (some 27) (.bool true) rfl (by kernel_rfl) (by kernel_rfl) (by kernel_rfl) (fun _ _ _ h => h) (fun oi h => by cases h; exact Or.inl ⟨by rfl, fun w' hS' => by go_simp⟩) hHeld ?_
    try simp only [Act.put, List.setIfInBounds_toArray, List.set_cons_zero, List.set_cons_succ]
    refine take_d 6 (some 28) (.agg #[.int .u64 (n : Int), .int .u64 0, .int .u64 0]) rfl (by kernel_rfl) (by kernel_rfl) (by kernel_rfl) (fun _ _ _ h => h) (fun oi h => by cases h; exact yieldsIf_load_mid (by rfl) 26 (.tmp 2) rfl w.heap.size 0 rfl [.int .u64 (n : Int), .int .u64 0, .int .u64 0] _ (fun w' hS' => hS'.1.range) Tryd.underlying26 rfl infoClock) hHeld ?_
    try simp only [Act.put, List.setIfInBounds_toArray, List.set_cons_zero, List.set_cons_succ]
    refine take_d 8 (some 30) (.pointer (some ⟨(w.heap.size + 1), 1, none⟩)) rfl (by kernel_rfl) (by kernel_rfl) (by kernel_rfl) (fun _ _ _ h => h) (fun oi h => by cases h; exact Or.inl ⟨by rfl, fun w' hS' => by go_simp⟩) hHeld ?_
    try simp only [Act.put, List.setIfInBounds_toArray, List.set_cons_zero, List.set_cons_succ]
    refine take_d 9 (some 31) (.int .u64 0) rfl (by kernel_rfl) (by kernel_rfl) (by kernel_rfl) (fun _ _ _ h => h) (fun oi h => by cases h; exact Or.inl ⟨by rfl, fun w' hS' => by have c : w'.cell? ⟨(w.heap.size + 1), 1, none⟩ = some (.int .u64 0) := hS'.2.1.cell 1; go_simp⟩) hHeld ?_
    try simp only [Act.put, List.setIfInBounds_toArray, List.set_cons_zero, List.set_cons_succ]
    refine take_d 10 (some 32) (.int .u64 0) rfl (by kernel_rfl) (by kernel_rfl) (by kernel_rfl) (fun _ _ _ h => h) (fun oi h => by cases h; exact Or.inl ⟨by rfl, fun w' hS' => by (go_simp; exact rfl) <;> go_simp⟩) hHeld ?_
    try simp only [Act.put, List.setIfInBounds_toArray, List.set_cons_zero, List.set_cons_succ]
    refine one_d 7 (some 29) rfl (by kernel_rfl) ?_
    intro o ho1 hd K hK
    cases ho1
    go_simp
    refine (CS.out _).mono ?_
    rintro e v4 ⟨rfl, bb0⟩
    refine hK.out _ _ (⟨hHeld.1.below bb0 hHeld.1.lt, hHeld.2.1.below bb0 hHeld.2.1.lt, hHeld.2.2.trans (bb0.mono hHeld.2.2.size)⟩) (fun hHeld => ?_)
    clear bb0
    clear hK K hd
    try simp only [Act.put, List.setIfInBounds_toArray, List.set_cons_zero, List.set_cons_succ]
    refine take_d 11 (some 33) (.bool true) rfl (by kernel_rfl) (by kernel_rfl) (by kernel_rfl) (fun _ _ _ h => h) (fun oi h => by cases h; exact Or.inl ⟨by rfl, fun w' hS' => by go_simp⟩) hHeld ?_
    try simp only [Act.put, List.setIfInBounds_toArray, List.set_cons_zero, List.set_cons_succ]
    refine take_d 12 (some 34) (.bool true) rfl (by kernel_rfl) (by kernel_rfl) (by kernel_rfl) (fun _ _ _ h => h) (fun oi h => by cases h; exact Or.inl ⟨by rfl, fun w' hS' => by go_simp⟩) hHeld ?_
    try simp only [Act.put, List.setIfInBounds_toArray, List.set_cons_zero, List.set_cons_succ]
    refine take_d 13 (some 35) (.bool true) rfl (by kernel_rfl) (by kernel_rfl) (by kernel_rfl) (fun _ _ _ h => h) (fun oi h => by cases h; exact Or.inl ⟨by rfl, fun w' hS' => by go_simp⟩) hHeld ?_
    try simp only [Act.put, List.setIfInBounds_toArray, List.set_cons_zero, List.set_cons_succ]
    refine take_d 14 (some 36) (.agg #[.int .u64 (n : Int), .int .u64 0, .int .u64 0]) rfl (by kernel_rfl) (by kernel_rfl) (by kernel_rfl) (fun _ _ _ h => h) (fun oi h => by cases h; exact yieldsIf_load_mid (by rfl) 26 (.tmp 2) rfl w.heap.size 0 rfl [.int .u64 (n : Int), .int .u64 0, .int .u64 0] _ (fun w' hS' => hS'.1.range) Tryd.underlying26 rfl infoClock) hHeld ?_
    try simp only [Act.put, List.setIfInBounds_toArray, List.set_cons_zero, List.set_cons_succ]
    refine take_d 16 (some 38) (.agg #[.int .u64 (n : Int), .int .u64 0, .int .u64 0]) rfl (by kernel_rfl) (by kernel_rfl) (by kernel_rfl) (fun _ _ _ h => h) (fun oi h => by cases h; exact yieldsIf_load_mid (by rfl) 28 (.tmp 3) rfl (w.heap.size + 1) 0 rfl [.int .u64 (n : Int), .int .u64 0, .int .u64 0] _ (fun w' hS' => hS'.2.1.range) Tryd.underlying28 rfl infoRClock) hHeld ?_
    try simp only [Act.put, List.setIfInBounds_toArray, List.set_cons_zero, List.set_cons_succ]
    refine one_d 15 (some 37) rfl (by kernel_rfl) ?_
    intro o ho1 hd K hK
    cases ho1
    go_simp
    refine (CQ.out _).mono ?_
    rintro e v5 ⟨rfl, bb0⟩
    refine hK.out _ _ (⟨hHeld.1.below bb0 hHeld.1.lt, hHeld.2.1.below bb0 hHeld.2.1.lt, hHeld.2.2.trans (bb0.mono hHeld.2.2.size)⟩) (fun hHeld => ?_)
    clear bb0
    clear hK K hd
    try simp only [Act.put, List.setIfInBounds_toArray, List.set_cons_zero, List.set_cons_succ]
    refine one_d 17 (some 39) rfl (by kernel_rfl) ?_
    intro o ho1 hd K hK
    cases ho1
    go_simp
    refine (CR.out _).mono ?_
    rintro e v6 ⟨rfl, bb0⟩
    refine hK.out _ _ (⟨hHeld.1.below bb0 hHeld.1.lt, hHeld.2.1.below bb0 hHeld.2.1.lt, hHeld.2.2.trans (bb0.mono hHeld.2.2.size)⟩) (fun hHeld => ?_)
    clear bb0
    clear hK K hd
    try simp only [Act.put, List.setIfInBounds_toArray, List.set_cons_zero, List.set_cons_succ]
    refine take_d 18 (some 40) (.bool true) rfl (by kernel_rfl) (by kernel_rfl) (by kernel_rfl) (fun _ _ _ h => h) (fun oi h => by cases h; exact Or.inl ⟨by rfl, fun w' hS' => by go_simp⟩) hHeld ?_
    try simp only [Act.put, List.setIfInBounds_toArray, List.set_cons_zero, List.set_cons_succ]
    refine take_d 19 (some 41) (.bool true) rfl (by kernel_rfl) (by kernel_rfl) (by kernel_rfl) (fun _ _ _ h => h) (fun oi h => by cases h; exact Or.inl ⟨by rfl, fun w' hS' => by go_simp⟩) hHeld ?_
    try simp only [Act.put, List.setIfInBounds_toArray, List.set_cons_zero, List.set_cons_succ]
    refine take_d 20 (some 42) (.bool true) rfl (by kernel_rfl) (by kernel_rfl) (by kernel_rfl) (fun _ _ _ h => h) (fun oi h => by cases h; exact Or.inl ⟨by rfl, fun w' hS' => by go_simp⟩) hHeld ?_
    try simp only [Act.put, List.setIfInBounds_toArray, List.set_cons_zero, List.set_cons_succ]
    refine take_d 21 (some 43) (.agg #[.int .u64 (n : Int), .int .u64 0, .int .u64 0]) rfl (by kernel_rfl) (by kernel_rfl) (by kernel_rfl) (fun _ _ _ h => h) (fun oi h => by cases h; exact yieldsIf_load_mid (by rfl) 26 (.tmp 2) rfl w.heap.size 0 rfl [.int .u64 (n : Int), .int .u64 0, .int .u64 0] _ (fun w' hS' => hS'.1.range) Tryd.underlying26 rfl infoClock) hHeld ?_
    try simp only [Act.put, List.setIfInBounds_toArray, List.set_cons_zero, List.set_cons_succ]
    refine take_d 23 (some 45) (.float .f64 0) rfl (by kernel_rfl) (by kernel_rfl) (by kernel_rfl) (fun _ _ _ h => h) (fun oi h => by cases h; exact Or.inl ⟨by rfl, fun w' hS' => by go_simp⟩) hHeld ?_
    try simp only [Act.put, List.setIfInBounds_toArray, List.set_cons_zero, List.set_cons_succ]
    refine one_d 22 (some 44) rfl (by kernel_rfl) ?_
    intro o ho1 hd K hK
    cases ho1
    go_simp
    refine (CJ.out _).mono ?_
    rintro e v7 ⟨rfl, bb0⟩
    refine hK.out _ _ (⟨hHeld.1.below bb0 hHeld.1.lt, hHeld.2.1.below bb0 hHeld.2.1.lt, hHeld.2.2.trans (bb0.mono hHeld.2.2.size)⟩) (fun hHeld => ?_)
    clear bb0
    clear hK K hd
    try simp only [Act.put, List.setIfInBounds_toArray, List.set_cons_zero, List.set_cons_succ]
    refine one_d 24 (some 46) rfl (by kernel_rfl) ?_
    intro o ho1 hd K hK
    cases ho1
    go_simp
    refine (CM.out _).mono ?_
    rintro e v8 ⟨rfl, bb0⟩
    refine hK.out _ _ (⟨hHeld.1.below bb0 hHeld.1.lt, hHeld.2.1.below bb0 hHeld.2.1.lt, hHeld.2.2.trans (bb0.mono hHeld.2.2.size)⟩) (fun hHeld => ?_)
    clear bb0
    clear hK K hd
    try simp only [Act.put, List.setIfInBounds_toArray, List.set_cons_zero, List.set_cons_succ]
    refine take_d 25 (some 47) (.bool true) rfl (by kernel_rfl) (by kernel_rfl) (by kernel_rfl) (fun _ _ _ h => h) (fun oi h => by cases h; exact Or.inl ⟨by rfl, fun w' hS' => by go_simp⟩) hHeld ?_
    try simp only [Act.put, List.setIfInBounds_toArray, List.set_cons_zero, List.set_cons_succ]
    refine take_d 26 (some 4) (.bool true) rfl (by kernel_rfl) (by kernel_rfl) (by kernel_rfl) (fun _ _ _ h => h) (fun oi h => by cases h; exact Or.inl ⟨by rfl, fun w' hS' => by go_simp⟩) hHeld ?_
    try simp only [Act.put, List.setIfInBounds_toArray, List.set_cons_zero, List.set_cons_succ]
    refine wpAnyH_done (by kernel_rfl) ?_ _
    try simp only [Act.put]
    replace r := hHeld.1
    replace q := hHeld.2.1
    replace bb := hHeld.2.2
    clear hHeld
    go_wp2
    go_ret
    exact ⟨rfl, bb⟩
  · have g0 : (0 : Int) < (S : Int) := by omega
    obtain ⟨j, hj, hp⟩ := R.div_whole (R.whole_pos (2 * V)) (show 0 < S by omega) (by omega)
    have hq : R.qv (floatOfInt .f64 (2 * (V : Int))) (floatOfInt .f64 (S : Int)) = j := by
      unfold R.qv
      rw [show (2 * (V : Int)) = ((2 * V : Nat) : Int) by omega, hj]; rfl
    rw [hq] at CJ hpos
    have hdiv : ∀ wx : World, (binOp .quo 34 (.float .f64 (floatOfInt .f64 (2 * (V : Int)))) (.float .f64 (floatOfInt .f64 (S : Int)))).run Tryd.prog wx = .ok (.float .f64 j) wx := fun wx => run_quo_some _ _ _ (by rw [show (2 * (V : Int)) = ((2 * V : Nat) : Int) by omega]; exact hj) wx
    have CM := Lib.hid (fun wx => CM.out j wx hpos)
    clear hm hzz hz hj hq hp h0 hpos
    go_enter Tryd.func8, Tryd.ntmps8
    go_wp2
    generalize ((w.alloc (.cells #[.int .u64 (n : Int), .int .u64 (S : Int), .int .u64 (V : Int)] 26 (0, 0))).alloc (.cells #[.int .u64 (n : Int), .int .u64 (S : Int), .int .u64 (V : Int)] 28 (0, 0))) = w1 at *
    refine wp_region_held_drew (S := fun w' => Row w' w.heap.size 26 [.int .u64 (n : Int), .int .u64 (S : Int), .int .u64 (V : Int)] ∧ Row w' (w.heap.size + 1) 28 [.int .u64 (n : Int), .int .u64 (S : Int), .int .u64 (V : Int)] ∧ Below w.heap.size w w') (by kernel_rfl) (⟨r.drew, q.drew, bb.drew⟩) (fun hHeld => ?_)
    generalize w1.drew = wd2 at *
    refine take_d 0 (some 22) (.agg #[.int .u64 (n : Int), .int .u64 (S : Int), .int .u64 (V : Int)]) rfl (by kernel_rfl) (by kernel_rfl) (by kernel_rfl) (fun _ _ _ h => h) (fun oi h => by cases h; exact yieldsIf_load_mid (by rfl) 26 (.tmp 2) rfl w.heap.size 0 rfl [.int .u64 (n : Int), .int .u64 (S : Int), .int .u64 (V : Int)] _ (fun w' hS' => hS'.1.range) Tryd.underlying26 rfl infoClock) hHeld ?_
    try simp only [Act.put, List.setIfInBounds_toArray, List.set_cons_zero, List.set_cons_succ]
    refine take_d 2 (some 24) (.pointer (some ⟨(w.heap.size + 1), 0, none⟩)) rfl (by kernel_rfl) (by kernel_rfl) (by kernel_rfl) (fun _ _ _ h => h) (fun oi h => by cases h; exact Or.inl ⟨by rfl, fun w' hS' => by go_simp⟩) hHeld ?_
    try simp only [Act.put, List.setIfInBounds_toArray, List.set_cons_zero, List.set_cons_succ]
    refine take_d 3 (some 25) (.int .u64 (n : Int)) rfl (by kernel_rfl) (by kernel_rfl) (by kernel_rfl) (fun _ _ _ h => h) (fun oi h => by cases h; exact Or.inl ⟨by rfl, fun w' hS' => by have c : w'.cell? ⟨(w.heap.size + 1), 0, none⟩ = some (.int .u64 (n : Int)) := hS'.2.1.cell 0; go_simp⟩) hHeld ?_
    try simp only [Act.put, List.setIfInBounds_toArray, List.set_cons_zero, List.set_cons_succ]
    refine one_d 1 (some 23) rfl (by kernel_rfl) ?_
    intro o ho1 hd K hK
    cases ho1
    go_simp
    refine (CC.out _).mono ?_
    rintro e v3 ⟨rfl, bb0⟩
    refine hK.out _ _ (⟨hHeld.1.below bb0 hHeld.1.lt, hHeld.2.1.below bb0 hHeld.2.1.lt, hHeld.2.2.trans (bb0.mono hHeld.2.2.size)⟩) (fun hHeld => ?_)
    clear bb0
    clear hK K hd
    try simp only [Act.put, List.setIfInBounds_toArray, List.set_cons_zero, List.set_cons_succ]
    refine take_d 4 (some 26) (.bool true) rfl (by kernel_rfl) (by kernel_rfl) (by kernel_rfl) (fun _ _ _ h => h) (fun oi h => by cases h; exact Or.inl ⟨by rfl, fun w' hS' => by go_simp⟩) hHeld ?_
    try simp only [Act.put, List.setIfInBounds_toArray, List.set_cons_zero, List.set_cons_succ]
    refine take_d 5 (some 27) (.bool true) rfl (by kernel_rfl) (by kernel_rfl) (by kernel_rfl) (fun _ _ _ h => h) (fun oi h => by cases h; exact Or.inl ⟨by rfl, fun w' hS' => by go_simp⟩) hHeld ?_
    try simp only [Act.put, List.setIfInBounds_toArray, List.set_cons_zero, List.set_cons_succ]
    refine take_d 6 (some 28) (.agg #[.int .u64 (n : Int), .int .u64 (S : Int), .int .u64 (V : Int)]) rfl (by kernel_rfl) (by kernel_rfl) (by kernel_rfl) (fun _ _ _ h => h) (fun oi h => by cases h; exact yieldsIf_load_mid (by rfl) 26 (.tmp 2) rfl w.heap.size 0 rfl [.int .u64 (n : Int), .int .u64 (S : Int), .int .u64 (V : Int)] _ (fun w' hS' => hS'.1.range) Tryd.underlying26 rfl infoClock) hHeld ?_
    try simp only [Act.put, List.setIfInBounds_toArray, List.set_cons_zero, List.set_cons_succ]
    refine take_d 8 (some 30) (.pointer (some ⟨(w.heap.size + 1), 1, none⟩)) rfl (by kernel_rfl) (by kernel_rfl) (by kernel_rfl) (fun _ _ _ h => h) (fun oi h => by cases h; exact Or.inl ⟨by rfl, fun w' hS' => by go_simp⟩) hHeld ?_
    try simp only [Act.put, List.setIfInBounds_toArray, List.set_cons_zero, List.set_cons_succ]
    refine take_d 9 (some 31) (.int .u64 (S : Int)) rfl (by kernel_rfl) (by kernel_rfl) (by kernel_rfl) (fun _ _ _ h => h) (fun oi h => by cases h; exact Or.inl ⟨by rfl, fun w' hS' => by have c : w'.cell? ⟨(w.heap.size + 1), 1, none⟩ = some (.int .u64 (S : Int)) := hS'.2.1.cell 1; go_simp⟩) hHeld ?_
    try simp only [Act.put, List.setIfInBounds_toArray, List.set_cons_zero, List.set_cons_succ]
    refine take_d 10 (some 32) (.int .u64 (m : Int)) rfl (by kernel_rfl) (by kernel_rfl) (by kernel_rfl) (fun _ _ _ h => h) (fun oi h => by cases h; exact Or.inl ⟨by rfl, fun w' hS' => by have f := FM.out; have f2 := FW.out; go_simp⟩) hHeld ?_
    try simp only [Act.put, List.setIfInBounds_toArray, List.set_cons_zero, List.set_cons_succ]
    refine one_d 7 (some 29) rfl (by kernel_rfl) ?_
    intro o ho1 hd K hK
    cases ho1
    go_simp
    refine (CS.out _).mono ?_
    rintro e v4 ⟨rfl, bb0⟩
    refine hK.out _ _ (⟨hHeld.1.below bb0 hHeld.1.lt, hHeld.2.1.below bb0 hHeld.2.1.lt, hHeld.2.2.trans (bb0.mono hHeld.2.2.size)⟩) (fun hHeld => ?_)
    clear bb0
    clear hK K hd
    try simp only [Act.put, List.setIfInBounds_toArray, List.set_cons_zero, List.set_cons_succ]
    refine take_d 11 (some 33) (.bool true) rfl (by kernel_rfl) (by kernel_rfl) (by kernel_rfl) (fun _ _ _ h => h) (fun oi h => by cases h; exact Or.inl ⟨by rfl, fun w' hS' => by go_simp⟩) hHeld ?_
    try simp only [Act.put, List.setIfInBounds_toArray, List.set_cons_zero, List.set_cons_succ]
    refine take_d 12 (some 34) (.bool true) rfl (by kernel_rfl) (by kernel_rfl) (by kernel_rfl) (fun _ _ _ h => h) (fun oi h => by cases h; exact Or.inl ⟨by rfl, fun w' hS' => by go_simp⟩) hHeld ?_
    try simp only [Act.put, List.setIfInBounds_toArray, List.set_cons_zero, List.set_cons_succ]
    refine take_d 13 (some 35) (.bool true) rfl (by kernel_rfl) (by kernel_rfl) (by kernel_rfl) (fun _ _ _ h => h) (fun oi h => by cases h; exact Or.inl ⟨by rfl, fun w' hS' => by go_simp⟩) hHeld ?_
    try simp only [Act.put, List.setIfInBounds_toArray, List.set_cons_zero, List.set_cons_succ]
    refine take_d 14 (some 36) (.agg #[.int .u64 (n : Int), .int .u64 (S : Int), .int .u64 (V : Int)]) rfl (by kernel_rfl) (by kernel_rfl) (by kernel_rfl) (fun _ _ _ h => h) (fun oi h => by cases h; exact yieldsIf_load_mid (by rfl) 26 (.tmp 2) rfl w.heap.size 0 rfl [.int .u64 (n : Int), .int .u64 (S : Int), .int .u64 (V : Int)] _ (fun w' hS' => hS'.1.range) Tryd.underlying26 rfl infoClock) hHeld ?_
    try simp only [Act.put, List.setIfInBounds_toArray, List.set_cons_zero, List.set_cons_succ]
    refine take_d 16 (some 38) (.agg #[.int .u64 (n : Int), .int .u64 (S : Int), .int .u64 (V : Int)]) rfl (by kernel_rfl) (by kernel_rfl) (by kernel_rfl) (fun _ _ _ h => h) (fun oi h => by cases h; exact yieldsIf_load_mid (by rfl) 28 (.tmp 3) rfl (w.heap.size + 1) 0 rfl [.int .u64 (n : Int), .int .u64 (S : Int), .int .u64 (V : Int)] _ (fun w' hS' => hS'.2.1.range) Tryd.underlying28 rfl infoRClock) hHeld ?_
    try simp only [Act.put, List.setIfInBounds_toArray, List.set_cons_zero, List.set_cons_succ]
    refine one_d 15 (some 37) rfl (by kernel_rfl) ?_
    intro o ho1 hd K hK
    cases ho1
    go_simp
    refine (CQ.out _).mono ?_
    rintro e v5 ⟨rfl, bb0⟩
    refine hK.out _ _ (⟨hHeld.1.below bb0 hHeld.1.lt, hHeld.2.1.below bb0 hHeld.2.1.lt, hHeld.2.2.trans (bb0.mono hHeld.2.2.size)⟩) (fun hHeld => ?_)
    clear bb0
    clear hK K hd
    try simp only [Act.put, List.setIfInBounds_toArray, List.set_cons_zero, List.set_cons_succ]
    refine one_d 17 (some 39) rfl (by kernel_rfl) ?_
    intro o ho1 hd K hK
    cases ho1
    go_simp
    refine (CR.out _).mono ?_
    rintro e v6 ⟨rfl, bb0⟩
    refine hK.out _ _ (⟨hHeld.1.below bb0 hHeld.1.lt, hHeld.2.1.below bb0 hHeld.2.1.lt, hHeld.2.2.trans (bb0.mono hHeld.2.2.size)⟩) (fun hHeld => ?_)
    clear bb0
    clear hK K hd
    try simp only [Act.put, List.setIfInBounds_toArray, List.set_cons_zero, List.set_cons_succ]
    refine take_d 18 (some 40) (.bool true) rfl (by kernel_rfl) (by kernel_rfl) (by kernel_rfl) (fun _ _ _ h => h) (fun oi h => by cases h; exact Or.inl ⟨by rfl, fun w' hS' => by go_simp⟩) hHeld ?_
    try simp only [Act.put, List.setIfInBounds_toArray, List.set_cons_zero, List.set_cons_succ]
    refine take_d 19 (some 41) (.bool true) rfl (by kernel_rfl) (by kernel_rfl) (by kernel_rfl) (fun _ _ _ h => h) (fun oi h => by cases h; exact Or.inl ⟨by rfl, fun w' hS' => by go_simp⟩) hHeld ?_
    try simp only [Act.put, List.setIfInBounds_toArray, List.set_cons_zero, List.set_cons_succ]
    refine take_d 20 (some 42) (.bool true) rfl (by kernel_rfl) (by kernel_rfl) (by kernel_rfl) (fun _ _ _ h => h) (fun oi h => by cases h; exact Or.inl ⟨by rfl, fun w' hS' => by go_simp⟩) hHeld ?_
    try simp only [Act.put, List.setIfInBounds_toArray, List.set_cons_zero, List.set_cons_succ]
    refine take_d 21 (some 43) (.agg #[.int .u64 (n : Int), .int .u64 (S : Int), .int .u64 (V : Int)]) rfl (by kernel_rfl) (by kernel_rfl) (by kernel_rfl) (fun _ _ _ h => h) (fun oi h => by cases h; exact yieldsIf_load_mid (by rfl) 26 (.tmp 2) rfl w.heap.size 0 rfl [.int .u64 (n : Int), .int .u64 (S : Int), .int .u64 (V : Int)] _ (fun w' hS' => hS'.1.range) Tryd.underlying26 rfl infoClock) hHeld ?_
    try simp only [Act.put, List.setIfInBounds_toArray, List.set_cons_zero, List.set_cons_succ]
    refine take_d 23 (some 45) (.float .f64 j) rfl (by kernel_rfl) (by kernel_rfl) (by kernel_rfl) (fun _ _ _ h => h) (fun oi h => by cases h; exact Or.inl ⟨by rfl, fun w' hS' => by go_simp⟩) hHeld ?_
    try simp only [Act.put, List.setIfInBounds_toArray, List.set_cons_zero, List.set_cons_succ]
    refine one_d 22 (some 44) rfl (by kernel_rfl) ?_
    intro o ho1 hd K hK
    cases ho1
    go_simp
    refine (CJ.out _).mono ?_
    rintro e v7 ⟨rfl, bb0⟩
    refine hK.out _ _ (⟨hHeld.1.below bb0 hHeld.1.lt, hHeld.2.1.below bb0 hHeld.2.1.lt, hHeld.2.2.trans (bb0.mono hHeld.2.2.size)⟩) (fun hHeld => ?_)
    clear bb0
    clear hK K hd
    try simp only [Act.put, List.setIfInBounds_toArray, List.set_cons_zero, List.set_cons_succ]
    refine one_d 24 (some 46) rfl (by kernel_rfl) ?_
    intro o ho1 hd K hK
    cases ho1
    go_simp
    refine (CM.out _).mono ?_
    rintro e v8 ⟨rfl, bb0⟩
    refine hK.out _ _ (⟨hHeld.1.below bb0 hHeld.1.lt, hHeld.2.1.below bb0 hHeld.2.1.lt, hHeld.2.2.trans (bb0.mono hHeld.2.2.size)⟩) (fun hHeld => ?_)
    clear bb0
    clear hK K hd
    try simp only [Act.put, List.setIfInBounds_toArray, List.set_cons_zero, List.set_cons_succ]
    refine take_d 25 (some 47) (.bool true) rfl (by kernel_rfl) (by kernel_rfl) (by kernel_rfl) (fun _ _ _ h => h) (fun oi h => by cases h; exact Or.inl ⟨by rfl, fun w' hS' => by go_simp⟩) hHeld ?_
    try simp only [Act.put, List.setIfInBounds_toArray, List.set_cons_zero, List.set_cons_succ]
    refine take_d 26 (some 4) (.bool true) rfl (by kernel_rfl) (by kernel_rfl) (by kernel_rfl) (fun _ _ _ h => h) (fun oi h => by cases h; exact Or.inl ⟨by rfl, fun w' hS' => by go_simp⟩) hHeld ?_
    try simp only [Act.put, List.setIfInBounds_toArray, List.set_cons_zero, List.set_cons_succ]
    refine wpAnyH_done (by kernel_rfl) ?_ _
    try simp only [Act.put]
    replace r := hHeld.1
    replace q := hHeld.2.1
    replace bb := hHeld.2.2
    clear hHeld
    go_wp2
    go_ret
    exact ⟨rfl, bb⟩

end Go.Proofs.YtdcpacdfbbdnlaaDoor
