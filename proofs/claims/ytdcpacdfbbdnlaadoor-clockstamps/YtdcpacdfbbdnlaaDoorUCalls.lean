/-
  Layer 14: the functions of clock.
-/
import Derived.Test.YtdcpacdfbbdnlaaDoorUPlain
import Derived.Test.YtdcpacdfbbdnlaaDoorUFloat
import Derived.Test.YtdcpacdfbbdnlaaDoorTLaws
import Derived.Test.YtdcpacdfbbdnlaaDoorShelf
namespace Go.Proofs.YtdcpacdfbbdnlaaDoor
open Go.RowKit
set_option linter.unusedVariables false
set_option maxRecDepth 20000
set_option linter.unusedSimpArgs false
set_option maxRecDepth 20000

theorem infoClock : (Tryd.prog.info? 26).map (·.size) = some 3 := by kernel_rfl

set_option maxHeartbeats 1000000 in
theorem count_any (n S V : Nat) (w : World) :
    Calls Tryd.prog 21 #[.agg #[.int .u64 (n : Int), .int .u64 (S : Int), .int .u64 (V : Int)]] w fun e w' => e = .returned (.int .u64 (n : Int)) ∧ Below w.heap.size w w' := by
  go_enter Tryd.func21, Tryd.ntmps21
  go_wp2
  go_ret
  exact ⟨rfl, (Below.refl _ _).alloc (Nat.le_refl _) _⟩

set_option maxHeartbeats 1000000 in
theorem smooth_any (n S V : Nat) (hs : S ≤ 480000) (w : World) :
    Calls Tryd.prog 17 #[.agg #[.int .u64 (n : Int), .int .u64 (S : Int), .int .u64 (V : Int)]] w fun e w' => e = .returned (.int .u64 ((S / 8 : Nat) : Int)) ∧ Below w.heap.size w w' := by
  go_enter Tryd.func17, Tryd.ntmps17
  go_wp2
  go_ret
  exact ⟨rfl, (Below.refl _ _).alloc (Nat.le_refl _) _⟩

set_option maxHeartbeats 1000000 in
theorem far_any (a b : Nat) (ha : a ≤ 1000000) (hb : b ≤ 1000000) (w : World) :
    Calls Tryd.prog 24 #[.int .u64 (a : Int), .int .u64 (b : Int)] w fun e w' => e = .returned (.int .u64 ((T14.far a b : Nat) : Int)) ∧ Below w.heap.size w w' := by
  obtain ⟨x, hx⟩ : ∃ x, x = max a b := ⟨_, rfl⟩
  obtain ⟨y, hy⟩ : ∃ y, y = min a b := ⟨_, rfl⟩
  obtain ⟨d, hd⟩ : ∃ d, d = T14.far a b := ⟨_, rfl⟩
  have hd2 : d = max a b - min a b := hd
  have h1 : max (a : Int) (b : Int) = (x : Int) := by omega
  have h2 : min (a : Int) (b : Int) = (y : Int) := by omega
  have h3 : (x : Int) - (y : Int) = (d : Int) := by omega
  have h4 : IntKind.u64.wrap (d : Int) = (d : Int) := by rw [IntKind.wrap_u64]; omega
  rw [← hd]
  clear hx hy hd hd2
  go_enter Tryd.func24, Tryd.ntmps24
  go_wp2
  go_ret
  exact ⟨rfl, Below.refl _ _⟩

set_option maxHeartbeats 4000000 in
theorem told_first (S V t : Nat) (w : World) :
    Calls Tryd.prog 9 #[.agg #[.int .u64 0, .int .u64 (S : Int), .int .u64 (V : Int)], .int .u64 (t : Int)] w fun e w' => e = .returned (.agg #[.int .u64 1, .int .u64 ((8 * T14.cap t : Nat) : Int), .int .u64 ((2 * T14.cap t : Nat) : Int)]) ∧ Below w.heap.size w w' := by
  obtain ⟨u, hu⟩ : ∃ u, u = T14.cap t := ⟨_, rfl⟩
  have hu2 : u = min t 60000 := hu
  have h1 : min (t : Int) 60000 = (u : Int) := by omega
  have hub : u ≤ 60000 := by omega
  have e2 : 4 * (u : Int) / 2 = 2 * (u : Int) := by omega
  have p : Row ((w.alloc (.cells #[.int .u64 0, .int .u64 (S : Int), .int .u64 (V : Int)] 26 (0, 0))).alloc (.cells #[.int .u64 0, .int .u64 0, .int .u64 0] 26 (0, 0))) (w.heap.size + 1) 26 [.int .u64 0, .int .u64 0, .int .u64 0] := Row.new' rfl (by simp)
  have b1 : Below w.heap.size w ((w.alloc (.cells #[.int .u64 0, .int .u64 (S : Int), .int .u64 (V : Int)] 26 (0, 0))).alloc (.cells #[.int .u64 0, .int .u64 0, .int .u64 0] 26 (0, 0))) := ((Below.refl _ _).alloc (Nat.le_refl _) _).alloc (by simp) _
  rw [← hu, show ((8 * u : Nat) : Int) = 8 * (u : Int) by omega, show ((2 * u : Nat) : Int) = 2 * (u : Int) by omega]
  clear hu hu2
  go_enter Tryd.func9, Tryd.ntmps9
  go_wp2_with (refine wpList_store_row rfl 26 (.tmp 4) (.tmp 16) rfl (w.heap.size + 1) _ rfl rfl _ _ p infoClock rfl (by simp [Value.oneCell']) ?_)
  exact bodyPost_ret (results_cell_row rfl _ _ (w.heap.size + 1) _ _ _ _ rfl (p.setRow [_, _, _]) Tryd.underlying26 rfl infoClock) rfl ⟨rfl, below_row b1 (by omega) _⟩

set_option maxHeartbeats 4000000 in
theorem told_more (n S V t : Nat) (h0 : 0 < n) (hn : n ≤ 4611686018427387904) (hs : S ≤ 480000) (hv : V ≤ 240000) (w : World) :
    Calls Tryd.prog 9 #[.agg #[.int .u64 (n : Int), .int .u64 (S : Int), .int .u64 (V : Int)], .int .u64 (t : Int)] w fun e w' => e = .returned (.agg #[.int .u64 ((n + 1 : Nat) : Int), .int .u64 ((S - S / 8 + T14.cap t : Nat) : Int), .int .u64 ((V - V / 4 + T14.far (T14.cap t) (S / 8) : Nat) : Int)]) ∧ Below w.heap.size w w' := by
  obtain ⟨u, hu⟩ : ∃ u, u = T14.cap t := ⟨_, rfl⟩
  obtain ⟨m, hm⟩ : ∃ m, m = S / 8 := ⟨_, rfl⟩
  obtain ⟨d, hd⟩ : ∃ d, d = T14.far u m := ⟨_, rfl⟩
  have hu2 : u = min t 60000 := hu
  have hd2 : d = max u m - min u m := hd
  have h1 : min (t : Int) 60000 = (u : Int) := by omega
  have hub : u ≤ 60000 := by omega
  have hmb : m ≤ 60000 := by omega
  have hdb : d ≤ 60000 := by omega
  have CS : Hid (∀ wx, Calls Tryd.prog 17 #[.agg #[.int .u64 (n : Int), .int .u64 (S : Int), .int .u64 (V : Int)]] wx fun e w' => e = .returned (.int .u64 (m : Int)) ∧ Below wx.heap.size wx w') := fun wx => by rw [hm]; exact smooth_any n S V hs wx
  have CD : Hid (∀ wx, Calls Tryd.prog 24 #[.int .u64 (u : Int), .int .u64 (m : Int)] wx fun e w' => e = .returned (.int .u64 (d : Int)) ∧ Below wx.heap.size wx w') := fun wx => by rw [hd]; exact far_any u m (by omega) (by omega) wx
  obtain ⟨a, ha⟩ : ∃ a, a = S - m := ⟨_, rfl⟩
  obtain ⟨c, hc⟩ : ∃ c, c = V / 4 := ⟨_, rfl⟩
  obtain ⟨b, hb⟩ : ∃ b, b = V - c := ⟨_, rfl⟩
  have f1 : (S : Int) / 8 = (m : Int) := by omega
  have f2 : (S : Int) - (m : Int) = (a : Int) := by omega
  have f3 : (V : Int) / 4 = (c : Int) := by omega
  have f4 : (V : Int) - (c : Int) = (b : Int) := by omega
  have g1 : a ≤ 480000 := by omega
  have g2 : b ≤ 240000 := by omega
  have g0 : ((n : Int) == 0) = false := by rw [beq_eq_false_iff_ne]; omega
  have r : Row (((w.alloc (.cells #[.int .u64 (n : Int), .int .u64 (S : Int), .int .u64 (V : Int)] 26 (0, 0))).alloc (.cells #[.int .u64 0, .int .u64 0, .int .u64 0] 26 (0, 0)))) w.heap.size 26 [.int .u64 (n : Int), .int .u64 (S : Int), .int .u64 (V : Int)] := (Row.new' rfl rfl).alloc _
  have p : Row (((w.alloc (.cells #[.int .u64 (n : Int), .int .u64 (S : Int), .int .u64 (V : Int)] 26 (0, 0))).alloc (.cells #[.int .u64 0, .int .u64 0, .int .u64 0] 26 (0, 0)))) (w.heap.size + 1) 26 [.int .u64 0, .int .u64 0, .int .u64 0] := Row.new' rfl (by simp)
  have bb : Below w.heap.size w (((w.alloc (.cells #[.int .u64 (n : Int), .int .u64 (S : Int), .int .u64 (V : Int)] 26 (0, 0))).alloc (.cells #[.int .u64 0, .int .u64 0, .int .u64 0] 26 (0, 0)))) := ((Below.refl _ _).alloc (Nat.le_refl _) _).alloc (by simp) _
  rw [← hu, ← hm, ← hd, ← hc, ← ha, ← hb, show ((n + 1 : Nat) : Int) = (n : Int) + 1 by omega, show ((a + u : Nat) : Int) = (a : Int) + (u : Int) by omega, show ((b + d : Nat) : Int) = (b : Int) + (d : Int) by omega]
  clear hu hu2 hm hd hd2 ha hc hb
  have F1 := Lib.hid f1
  have F2 := Lib.hid f2
  have F3 := Lib.hid f3
  have F4 := Lib.hid f4
  clear f1 f2 f3 f4
  go_enter Tryd.func9, Tryd.ntmps9
  go_wp2_with fail
  generalize ((w.alloc (.cells #[.int .u64 (n : Int), .int .u64 (S : Int), .int .u64 (V : Int)] 26 (0, 0))).alloc (.cells #[.int .u64 0, .int .u64 0, .int .u64 0] 26 (0, 0))) = w1 at *
  refine (CS.out _).mono ?_
  rintro e wa2 ⟨rfl, bwa2⟩
  replace r := r.below bwa2 r.lt
  replace p := p.below bwa2 p.lt
  replace bb := bb.trans (bwa2.mono bb.size)
  clear bwa2
  go_wp2_with fail
  refine (CD.out _).mono ?_
  rintro e wa3 ⟨rfl, bwa3⟩
  replace r := r.below bwa3 r.lt
  replace p := p.below bwa3 p.lt
  replace bb := bb.trans (bwa3.mono bb.size)
  clear bwa3
  have cr0 : wa3.cell? ⟨w.heap.size, 0, none⟩ = some (.int .u64 (n : Int)) := r.cell 0
  have cr1 : wa3.cell? ⟨w.heap.size, 1, none⟩ = some (.int .u64 (S : Int)) := r.cell 1
  have cr2 : wa3.cell? ⟨w.heap.size, 2, none⟩ = some (.int .u64 (V : Int)) := r.cell 2
  have f1 := F1.out
  have f2 := F2.out
  have f3 := F3.out
  have f4 := F4.out
  go_wp2_with (first | refine wpList_store_row rfl 26 (.tmp 4) (.tmp 40) rfl ((w.heap.size + 1)) _ rfl rfl _ _ p infoClock rfl (by simp [Value.oneCell']) ?_)
  exact bodyPost_ret (results_cell_row rfl _ _ (w.heap.size + 1) _ _ _ _ rfl (p.setRow [.int .u64 ((n : Int) + 1), .int .u64 ((a : Int) + (u : Int)), .int .u64 ((b : Int) + (d : Int))]) Tryd.underlying26 rfl infoClock) rfl ⟨rfl, below_row bb (by omega) _⟩

set_option maxHeartbeats 4000000 in
theorem wait_zero (S V : Nat) (w : World) :
    Calls Tryd.prog 18 #[.agg #[.int .u64 0, .int .u64 (S : Int), .int .u64 (V : Int)]] w fun e w' => e = .returned (.int .u64 1000) ∧ Below w.heap.size w w' := by
  go_enter Tryd.func18, Tryd.ntmps18
  go_wp2
  go_ret
  exact ⟨rfl, (Below.refl _ _).alloc (Nat.le_refl _) _⟩

set_option maxHeartbeats 4000000 in
theorem wait_more (n S V : Nat) (h0 : 0 < n) (hs : S ≤ 480000) (hv : V ≤ 240000) (w : World) :
    Calls Tryd.prog 18 #[.agg #[.int .u64 (n : Int), .int .u64 (S : Int), .int .u64 (V : Int)]] w fun e w' => e = .returned (.int .u64 ((min (max (S / 8 + V) 50) 60000 : Nat) : Int)) ∧ Below w.heap.size w w' := by
  obtain ⟨m, hm⟩ : ∃ m, m = S / 8 := ⟨_, rfl⟩
  obtain ⟨x, hx⟩ : ∃ x, x = m + V := ⟨_, rfl⟩
  obtain ⟨y, hy⟩ : ∃ y, y = max x 50 := ⟨_, rfl⟩
  obtain ⟨z, hz⟩ : ∃ z, z = min y 60000 := ⟨_, rfl⟩
  have CS : Hid (∀ wx, Calls Tryd.prog 17 #[.agg #[.int .u64 (n : Int), .int .u64 (S : Int), .int .u64 (V : Int)]] wx fun e w' => e = .returned (.int .u64 (m : Int)) ∧ Below wx.heap.size wx w') := fun wx => by rw [hm]; exact smooth_any n S V hs wx
  have F1 : Hid ((m : Int) + (V : Int) = (x : Int) ∧ IntKind.u64.wrap (x : Int) = (x : Int)) := ⟨by omega, by rw [IntKind.wrap_u64]; omega⟩
  have F2 : Hid (max (x : Int) 50 = (y : Int)) := by show _ = _; omega
  have F3 : Hid (min (y : Int) 60000 = (z : Int)) := by show _ = _; omega
  have g0 : ((n : Int) == 0) = false := by rw [beq_eq_false_iff_ne]; omega
  have r : Row ((w.alloc (.cells #[.int .u64 (n : Int), .int .u64 (S : Int), .int .u64 (V : Int)] 26 (0, 0)))) w.heap.size 26 [.int .u64 (n : Int), .int .u64 (S : Int), .int .u64 (V : Int)] := Row.new' rfl rfl
  have bb : Below w.heap.size w ((w.alloc (.cells #[.int .u64 (n : Int), .int .u64 (S : Int), .int .u64 (V : Int)] 26 (0, 0)))) := (Below.refl _ _).alloc (Nat.le_refl _) _
  rw [← hm, ← hx, ← hy, ← hz]
  clear hm hx hy hz
  go_enter Tryd.func18, Tryd.ntmps18
  go_wp2
  generalize (w.alloc (.cells #[.int .u64 (n : Int), .int .u64 (S : Int), .int .u64 (V : Int)] 26 (0, 0))) = w1 at *
  refine wp_region_held_drew (S := fun w' => Row w' w.heap.size 26 [.int .u64 (n : Int), .int .u64 (S : Int), .int .u64 (V : Int)] ∧ Below w.heap.size w w') (by kernel_rfl) (⟨r.drew, bb.drew⟩) (fun hHeld => ?_)
  generalize w1.drew = wd2 at *
  refine take_d 0 (some 6) (.agg #[.int .u64 (n : Int), .int .u64 (S : Int), .int .u64 (V : Int)]) rfl (by kernel_rfl) (by kernel_rfl) (by kernel_rfl) (fun _ _ _ h => h) (fun oi h => by cases h; exact yieldsIf_load_mid (by rfl) 26 (.tmp 1) rfl w.heap.size 0 rfl [.int .u64 (n : Int), .int .u64 (S : Int), .int .u64 (V : Int)] _ (fun w' hS' => hS'.1.range) Tryd.underlying26 rfl infoClock) hHeld ?_
  try simp only [Act.put, List.setIfInBounds_toArray, List.set_cons_zero, List.set_cons_succ]
  refine take_d 2 (some 8) (.pointer (some ⟨w.heap.size, 2, none⟩)) rfl (by kernel_rfl) (by kernel_rfl) (by kernel_rfl) (fun _ _ _ h => h) (fun oi h => by cases h; exact Or.inl ⟨by rfl, fun w' hS' => by go_simp⟩) hHeld ?_
  try simp only [Act.put, List.setIfInBounds_toArray, List.set_cons_zero, List.set_cons_succ]
  refine take_d 3 (some 9) (.int .u64 (V : Int)) rfl (by kernel_rfl) (by kernel_rfl) (by kernel_rfl) (fun _ _ _ h => h) (fun oi h => by cases h; exact Or.inl ⟨by rfl, fun w' hS' => by have c : w'.cell? ⟨w.heap.size, 2, none⟩ = some (.int .u64 (V : Int)) := hS'.1.cell 2; go_simp⟩) hHeld ?_
  try simp only [Act.put, List.setIfInBounds_toArray, List.set_cons_zero, List.set_cons_succ]
  refine one_d 1 (some 7) rfl (by kernel_rfl) ?_
  intro o ho1 hd K hK
  cases ho1
  go_simp
  refine (CS.out _).mono ?_
  rintro e v3 ⟨rfl, bb0⟩
  refine hK.out _ _ (⟨hHeld.1.below bb0 hHeld.1.lt, hHeld.2.trans (bb0.mono hHeld.2.size)⟩) (fun hHeld => ?_)
  clear bb0
  clear hK K hd
  try simp only [Act.put, List.setIfInBounds_toArray, List.set_cons_zero, List.set_cons_succ]
  refine take_d 4 (some 10) (.int .u64 (x : Int)) rfl (by kernel_rfl) (by kernel_rfl) (by kernel_rfl) (fun _ _ _ h => h) (fun oi h => by cases h; exact Or.inl ⟨by rfl, fun w' hS' => by have f := F1.out.1; have f' := F1.out.2; go_simp⟩) hHeld ?_
  try simp only [Act.put, List.setIfInBounds_toArray, List.set_cons_zero, List.set_cons_succ]
  refine take_d 5 (some 11) (.int .u64 (y : Int)) rfl (by kernel_rfl) (by kernel_rfl) (by kernel_rfl) (fun _ _ _ h => h) (fun oi h => by cases h; exact Or.inl ⟨by rfl, fun w' hS' => by have f := F2.out; go_simp⟩) hHeld ?_
  try simp only [Act.put, List.setIfInBounds_toArray, List.set_cons_zero, List.set_cons_succ]
  refine take_d 6 (some 12) (.int .u64 (z : Int)) rfl (by kernel_rfl) (by kernel_rfl) (by kernel_rfl) (fun _ _ _ h => h) (fun oi h => by cases h; exact Or.inl ⟨by rfl, fun w' hS' => by have f := F3.out; go_simp⟩) hHeld ?_
  try simp only [Act.put, List.setIfInBounds_toArray, List.set_cons_zero, List.set_cons_succ]
  refine take_d 7 (some 2) (.int .u64 (z : Int)) rfl (by kernel_rfl) (by kernel_rfl) (by kernel_rfl) (fun _ _ _ h => h) (fun oi h => by cases h; exact Or.inl ⟨by rfl, fun w' hS' => by go_simp⟩) hHeld ?_
  try simp only [Act.put, List.setIfInBounds_toArray, List.set_cons_zero, List.set_cons_succ]
  refine wpAnyH_done (by kernel_rfl) ?_ _
  try simp only [Act.put]
  replace r := hHeld.1
  replace bb := hHeld.2
  clear hHeld
  go_wp2
  go_ret
  exact ⟨rfl, bb⟩

theorem wait_any (n S V : Nat) (hs : S ≤ 480000) (hv : V ≤ 240000) (w : World) :
    Calls Tryd.prog 18 #[.agg #[.int .u64 (n : Int), .int .u64 (S : Int), .int .u64 (V : Int)]] w fun e w' => e = .returned (.int .u64 ((T14.wait n S V : Nat) : Int)) ∧ Below w.heap.size w w' := by
  unfold T14.wait
  by_cases h0 : n = 0
  · subst h0
    rw [if_pos rfl]
    exact wait_zero S V w
  · rw [if_neg h0]
    exact wait_more n S V (by omega) hs hv w

set_option maxHeartbeats 4000000 in
theorem jitter_any (n S V : Nat) (hs : S ≤ 480000) (hv : V ≤ 240000) (w : World) :
    Calls Tryd.prog 20 #[.agg #[.int .u64 (n : Int), .int .u64 (S : Int), .int .u64 (V : Int)]] w fun e w' => e = .returned (.float .f64 (R.qv (floatOfInt .f64 ((2 * V : Nat) : Int)) (floatOfInt .f64 (S : Int)))) ∧ Below w.heap.size w w' := by
  have hmul : ∀ wx : World, (binOp .mul 34 (.float .f64 4611686018427387904) (.float .f64 (floatOfInt .f64 (V : Int)))).run Tryd.prog wx = .ok (.float .f64 (floatOfInt .f64 ((2 * V : Nat) : Int))) wx := fun wx => run_float_arith wx .mul 34 .f64 _ _ _ (R.two_whole V (by omega))
  have CR : Hid (∀ wx, Calls Tryd.prog 29 #[.float .f64 (floatOfInt .f64 ((2 * V : Nat) : Int)), .float .f64 (floatOfInt .f64 (S : Int))] wx fun e w' => e = .returned (.float .f64 (R.qv (floatOfInt .f64 ((2 * V : Nat) : Int)) (floatOfInt .f64 (S : Int)))) ∧ Below wx.heap.size wx w') := fun wx => ratio_any _ _ wx
  generalize floatOfInt .f64 ((2 * V : Nat) : Int) = tv at *
  have bb : Below w.heap.size w ((w.alloc (.cells #[.int .u64 (n : Int), .int .u64 (S : Int), .int .u64 (V : Int)] 26 (0, 0)))) := (Below.refl _ _).alloc (Nat.le_refl _) _
  go_enter Tryd.func20, Tryd.ntmps20
  go_wp2_with fail
  generalize (w.alloc (.cells #[.int .u64 (n : Int), .int .u64 (S : Int), .int .u64 (V : Int)] 26 (0, 0))) = w1 at *
  refine (CR.out _).mono ?_
  rintro e w2 ⟨rfl, b2⟩
  have bb2 := bb.trans (b2.mono bb.size)
  clear b2 bb
  go_wp2
  go_ret
  exact ⟨rfl, bb2⟩

end Go.Proofs.YtdcpacdfbbdnlaaDoor
