/-
  Layer 14: the document's clock; stamps.
-/
import Derived.Test.YtdcpacdfbbdnlaaDoorUCalls
namespace Go.Proofs.YtdcpacdfbbdnlaaDoor
open Go.RowKit
set_option linter.unusedVariables false
set_option maxRecDepth 20000
set_option linter.unusedSimpArgs false
set_option maxRecDepth 20000

theorem infoRClock : (Tryd.prog.info? 28).map (·.size) = some 3 := by kernel_rfl

set_option maxHeartbeats 4000000 in
theorem refTold_zlow (S V t : Nat) (ht : t ≤ 60000) (w : World) :
    Calls Tryd.prog 10 #[.agg #[.int .u64 0, .int .u64 (S : Int), .int .u64 (V : Int)], .int .u64 (t : Int)] w fun e w' => e = .returned (.agg #[.int .u64 1, .int .u64 ((8 * t : Nat) : Int), .int .u64 ((2 * t : Nat) : Int)]) ∧ Below w.heap.size w w' := by
  have e0 : ¬ (60000 : Int) < (t : Int) := by omega
  have p : Row (((w.alloc (.cells #[.int .u64 0, .int .u64 (S : Int), .int .u64 (V : Int)] 28 (0, 0))).alloc (.cells #[.int .u64 0, .int .u64 0, .int .u64 0] 28 (0, 0)))) (w.heap.size + 1) 28 [.int .u64 0, .int .u64 0, .int .u64 0] := Row.new' rfl (by simp)
  have bb : Below w.heap.size w (((w.alloc (.cells #[.int .u64 0, .int .u64 (S : Int), .int .u64 (V : Int)] 28 (0, 0))).alloc (.cells #[.int .u64 0, .int .u64 0, .int .u64 0] 28 (0, 0)))) := ((Below.refl _ _).alloc (Nat.le_refl _) _).alloc (by simp) _
  go_enter Tryd.func10, Tryd.ntmps10
  go_wp2_with (refine wpList_store_row rfl 28 (.tmp 4) (.tmp 16) rfl (w.heap.size + 1) _ rfl rfl _ _ p infoRClock rfl (by simp [Value.oneCell']) ?_)
  exact bodyPost_ret (results_cell_row rfl _ _ (w.heap.size + 1) _ _ _ _ rfl (p.setRow [.int .u64 1, .int .u64 (8 * (t : Int)), .int .u64 (2 * (t : Int))]) Tryd.underlying28 rfl infoRClock) rfl ⟨by first | rfl | (rw [show ((8 * t : Nat) : Int) = 8 * (t : Int) by omega, show ((2 * t : Nat) : Int) = 2 * (t : Int) by omega] <;> rfl), below_row bb (by omega) _⟩

set_option maxHeartbeats 4000000 in
theorem refTold_zhigh (S V t : Nat) (ht : 60000 < t) (w : World) :
    Calls Tryd.prog 10 #[.agg #[.int .u64 0, .int .u64 (S : Int), .int .u64 (V : Int)], .int .u64 (t : Int)] w fun e w' => e = .returned (.agg #[.int .u64 1, .int .u64 ((8 * 60000 : Nat) : Int), .int .u64 ((2 * 60000 : Nat) : Int)]) ∧ Below w.heap.size w w' := by
  have e0 : (60000 : Int) < (t : Int) := by omega
  have p : Row (((w.alloc (.cells #[.int .u64 0, .int .u64 (S : Int), .int .u64 (V : Int)] 28 (0, 0))).alloc (.cells #[.int .u64 0, .int .u64 0, .int .u64 0] 28 (0, 0)))) (w.heap.size + 1) 28 [.int .u64 0, .int .u64 0, .int .u64 0] := Row.new' rfl (by simp)
  have bb : Below w.heap.size w (((w.alloc (.cells #[.int .u64 0, .int .u64 (S : Int), .int .u64 (V : Int)] 28 (0, 0))).alloc (.cells #[.int .u64 0, .int .u64 0, .int .u64 0] 28 (0, 0)))) := ((Below.refl _ _).alloc (Nat.le_refl _) _).alloc (by simp) _
  go_enter Tryd.func10, Tryd.ntmps10
  go_wp2_with (refine wpList_store_row rfl 28 (.tmp 4) (.tmp 16) rfl (w.heap.size + 1) _ rfl rfl _ _ p infoRClock rfl (by simp [Value.oneCell']) ?_)
  exact bodyPost_ret (results_cell_row rfl _ _ (w.heap.size + 1) _ _ _ _ rfl (p.setRow [.int .u64 1, .int .u64 480000, .int .u64 120000]) Tryd.underlying28 rfl infoRClock) rfl ⟨by first | rfl | (rw [show ((8 * t : Nat) : Int) = 8 * (t : Int) by omega, show ((2 * t : Nat) : Int) = 2 * (t : Int) by omega] <;> rfl), below_row bb (by omega) _⟩

set_option maxHeartbeats 4000000 in
theorem refTold_lowup (n S V t : Nat) (h0 : 0 < n) (hn : n ≤ 4611686018427387904) (hs : S ≤ 480000) (hv : V ≤ 240000) (ht : t ≤ 60000) (hm0 : S / 8 ≤ t) (w : World) :
    Calls Tryd.prog 10 #[.agg #[.int .u64 (n : Int), .int .u64 (S : Int), .int .u64 (V : Int)], .int .u64 (t : Int)] w fun e w' => e = .returned (.agg #[.int .u64 ((n + 1 : Nat) : Int), .int .u64 ((S - S / 8 + t : Nat) : Int), .int .u64 ((V - V / 4 + T14.far t (S / 8) : Nat) : Int)]) ∧ Below w.heap.size w w' := by
  obtain ⟨m, hm⟩ : ∃ m, m = S / 8 := ⟨_, rfl⟩
  obtain ⟨d, hd⟩ : ∃ d, d = T14.far t m := ⟨_, rfl⟩
  have hd2 : d = max t m - min t m := hd
  obtain ⟨a, ha⟩ : ∃ a, a = S - m := ⟨_, rfl⟩
  obtain ⟨c, hc⟩ : ∃ c, c = V / 4 := ⟨_, rfl⟩
  obtain ⟨b, hb⟩ : ∃ b, b = V - c := ⟨_, rfl⟩
  have f1 : (S : Int) / 8 = (m : Int) := by omega
  have f2 : (S : Int) - (m : Int) = (a : Int) := by omega
  have f3 : (V : Int) / 4 = (c : Int) := by omega
  have f4 : (V : Int) - (c : Int) = (b : Int) := by omega
  have g1 : a ≤ 480000 := by omega
  have g2 : b ≤ 240000 := by omega
  have g3 : d ≤ 60000 := by omega
  have g0 : ((n : Int) == 0) = false := by rw [beq_eq_false_iff_ne]; omega
  have e0 : ¬ (60000 : Int) < (t : Int) := by omega
  have e1 : ¬ (t : Int) < (m : Int) := by omega
  have e2 : (t : Int) - (m : Int) = (d : Int) := by omega
  have p : Row (((w.alloc (.cells #[.int .u64 (n : Int), .int .u64 (S : Int), .int .u64 (V : Int)] 28 (0, 0))).alloc (.cells #[.int .u64 0, .int .u64 0, .int .u64 0] 28 (0, 0)))) (w.heap.size + 1) 28 [.int .u64 0, .int .u64 0, .int .u64 0] := Row.new' rfl (by simp)
  have bb : Below w.heap.size w (((w.alloc (.cells #[.int .u64 (n : Int), .int .u64 (S : Int), .int .u64 (V : Int)] 28 (0, 0))).alloc (.cells #[.int .u64 0, .int .u64 0, .int .u64 0] 28 (0, 0)))) := ((Below.refl _ _).alloc (Nat.le_refl _) _).alloc (by simp) _
  rw [← hm, ← hd, ← hc, ← ha, ← hb, show ((n + 1 : Nat) : Int) = (n : Int) + 1 by omega, show ((a + t : Nat) : Int) = (a : Int) + (t : Int) by omega, show ((b + d : Nat) : Int) = (b : Int) + (d : Int) by omega]
  clear hm hd hd2 ha hc hb
  go_enter Tryd.func10, Tryd.ntmps10
  go_wp2_with (refine wpList_store_row rfl 28 (.tmp 4) (.tmp 48) rfl (w.heap.size + 1) _ rfl rfl _ _ p infoRClock rfl (by simp [Value.oneCell']) ?_)
  exact bodyPost_ret (results_cell_row rfl _ _ (w.heap.size + 1) _ _ _ _ rfl (p.setRow [.int .u64 ((n : Int) + 1), .int .u64 ((a : Int) + (t : Int)), .int .u64 ((b : Int) + (d : Int))]) Tryd.underlying28 rfl infoRClock) rfl ⟨rfl, below_row bb (by omega) _⟩

set_option maxHeartbeats 4000000 in
theorem refTold_lowdown (n S V t : Nat) (h0 : 0 < n) (hn : n ≤ 4611686018427387904) (hs : S ≤ 480000) (hv : V ≤ 240000) (ht : t ≤ 60000) (hm0 : t < S / 8) (w : World) :
    Calls Tryd.prog 10 #[.agg #[.int .u64 (n : Int), .int .u64 (S : Int), .int .u64 (V : Int)], .int .u64 (t : Int)] w fun e w' => e = .returned (.agg #[.int .u64 ((n + 1 : Nat) : Int), .int .u64 ((S - S / 8 + t : Nat) : Int), .int .u64 ((V - V / 4 + T14.far t (S / 8) : Nat) : Int)]) ∧ Below w.heap.size w w' := by
  obtain ⟨m, hm⟩ : ∃ m, m = S / 8 := ⟨_, rfl⟩
  obtain ⟨d, hd⟩ : ∃ d, d = T14.far t m := ⟨_, rfl⟩
  have hd2 : d = max t m - min t m := hd
  obtain ⟨a, ha⟩ : ∃ a, a = S - m := ⟨_, rfl⟩
  obtain ⟨c, hc⟩ : ∃ c, c = V / 4 := ⟨_, rfl⟩
  obtain ⟨b, hb⟩ : ∃ b, b = V - c := ⟨_, rfl⟩
  have f1 : (S : Int) / 8 = (m : Int) := by omega
  have f2 : (S : Int) - (m : Int) = (a : Int) := by omega
  have f3 : (V : Int) / 4 = (c : Int) := by omega
  have f4 : (V : Int) - (c : Int) = (b : Int) := by omega
  have g1 : a ≤ 480000 := by omega
  have g2 : b ≤ 240000 := by omega
  have g3 : d ≤ 60000 := by omega
  have g0 : ((n : Int) == 0) = false := by rw [beq_eq_false_iff_ne]; omega
  have e0 : ¬ (60000 : Int) < (t : Int) := by omega
  have e1 : (t : Int) < (m : Int) := by omega
  have e2 : (m : Int) - (t : Int) = (d : Int) := by omega
  have p : Row (((w.alloc (.cells #[.int .u64 (n : Int), .int .u64 (S : Int), .int .u64 (V : Int)] 28 (0, 0))).alloc (.cells #[.int .u64 0, .int .u64 0, .int .u64 0] 28 (0, 0)))) (w.heap.size + 1) 28 [.int .u64 0, .int .u64 0, .int .u64 0] := Row.new' rfl (by simp)
  have bb : Below w.heap.size w (((w.alloc (.cells #[.int .u64 (n : Int), .int .u64 (S : Int), .int .u64 (V : Int)] 28 (0, 0))).alloc (.cells #[.int .u64 0, .int .u64 0, .int .u64 0] 28 (0, 0)))) := ((Below.refl _ _).alloc (Nat.le_refl _) _).alloc (by simp) _
  rw [← hm, ← hd, ← hc, ← ha, ← hb, show ((n + 1 : Nat) : Int) = (n : Int) + 1 by omega, show ((a + t : Nat) : Int) = (a : Int) + (t : Int) by omega, show ((b + d : Nat) : Int) = (b : Int) + (d : Int) by omega]
  clear hm hd hd2 ha hc hb
  go_enter Tryd.func10, Tryd.ntmps10
  go_wp2_with (refine wpList_store_row rfl 28 (.tmp 4) (.tmp 48) rfl (w.heap.size + 1) _ rfl rfl _ _ p infoRClock rfl (by simp [Value.oneCell']) ?_)
  exact bodyPost_ret (results_cell_row rfl _ _ (w.heap.size + 1) _ _ _ _ rfl (p.setRow [.int .u64 ((n : Int) + 1), .int .u64 ((a : Int) + (t : Int)), .int .u64 ((b : Int) + (d : Int))]) Tryd.underlying28 rfl infoRClock) rfl ⟨rfl, below_row bb (by omega) _⟩

set_option maxHeartbeats 4000000 in
theorem refTold_highup (n S V t : Nat) (h0 : 0 < n) (hn : n ≤ 4611686018427387904) (hs : S ≤ 480000) (hv : V ≤ 240000) (ht : 60000 < t) (hm0 : S / 8 ≤ 60000) (w : World) :
    Calls Tryd.prog 10 #[.agg #[.int .u64 (n : Int), .int .u64 (S : Int), .int .u64 (V : Int)], .int .u64 (t : Int)] w fun e w' => e = .returned (.agg #[.int .u64 ((n + 1 : Nat) : Int), .int .u64 ((S - S / 8 + 60000 : Nat) : Int), .int .u64 ((V - V / 4 + T14.far 60000 (S / 8) : Nat) : Int)]) ∧ Below w.heap.size w w' := by
  obtain ⟨m, hm⟩ : ∃ m, m = S / 8 := ⟨_, rfl⟩
  obtain ⟨d, hd⟩ : ∃ d, d = T14.far 60000 m := ⟨_, rfl⟩
  have hd2 : d = max 60000 m - min 60000 m := hd
  obtain ⟨a, ha⟩ : ∃ a, a = S - m := ⟨_, rfl⟩
  obtain ⟨c, hc⟩ : ∃ c, c = V / 4 := ⟨_, rfl⟩
  obtain ⟨b, hb⟩ : ∃ b, b = V - c := ⟨_, rfl⟩
  have f1 : (S : Int) / 8 = (m : Int) := by omega
  have f2 : (S : Int) - (m : Int) = (a : Int) := by omega
  have f3 : (V : Int) / 4 = (c : Int) := by omega
  have f4 : (V : Int) - (c : Int) = (b : Int) := by omega
  have g1 : a ≤ 480000 := by omega
  have g2 : b ≤ 240000 := by omega
  have g3 : d ≤ 60000 := by omega
  have g0 : ((n : Int) == 0) = false := by rw [beq_eq_false_iff_ne]; omega
  have e0 : (60000 : Int) < (t : Int) := by omega
  have e1 : ¬ (60000 : Int) < (m : Int) := by omega
  have e2 : 60000 - (m : Int) = (d : Int) := by omega
  have p : Row (((w.alloc (.cells #[.int .u64 (n : Int), .int .u64 (S : Int), .int .u64 (V : Int)] 28 (0, 0))).alloc (.cells #[.int .u64 0, .int .u64 0, .int .u64 0] 28 (0, 0)))) (w.heap.size + 1) 28 [.int .u64 0, .int .u64 0, .int .u64 0] := Row.new' rfl (by simp)
  have bb : Below w.heap.size w (((w.alloc (.cells #[.int .u64 (n : Int), .int .u64 (S : Int), .int .u64 (V : Int)] 28 (0, 0))).alloc (.cells #[.int .u64 0, .int .u64 0, .int .u64 0] 28 (0, 0)))) := ((Below.refl _ _).alloc (Nat.le_refl _) _).alloc (by simp) _
  rw [← hm, ← hd, ← hc, ← ha, ← hb, show ((n + 1 : Nat) : Int) = (n : Int) + 1 by omega, show ((a + 60000 : Nat) : Int) = (a : Int) + 60000 by omega, show ((b + d : Nat) : Int) = (b : Int) + (d : Int) by omega]
  clear hm hd hd2 ha hc hb
  go_enter Tryd.func10, Tryd.ntmps10
  go_wp2_with (refine wpList_store_row rfl 28 (.tmp 4) (.tmp 48) rfl (w.heap.size + 1) _ rfl rfl _ _ p infoRClock rfl (by simp [Value.oneCell']) ?_)
  exact bodyPost_ret (results_cell_row rfl _ _ (w.heap.size + 1) _ _ _ _ rfl (p.setRow [.int .u64 ((n : Int) + 1), .int .u64 ((a : Int) + 60000), .int .u64 ((b : Int) + (d : Int))]) Tryd.underlying28 rfl infoRClock) rfl ⟨rfl, below_row bb (by omega) _⟩

/-- The document's Told. -/
theorem refTold_any (n S V t : Nat) (hn : n ≤ 4611686018427387904) (hs : S ≤ 480000) (hv : V ≤ 240000) (w : World) :
    Calls Tryd.prog 10 #[.agg #[.int .u64 (n : Int), .int .u64 (S : Int), .int .u64 (V : Int)], .int .u64 (t : Int)] w fun e w' => e = .returned (.agg #[.int .u64 ((n + 1 : Nat) : Int), .int .u64 ((T14.S2 n S t : Nat) : Int), .int .u64 ((T14.V2 n S V t : Nat) : Int)]) ∧ Below w.heap.size w w' := by
  unfold T14.S2 T14.V2
  by_cases h0 : n = 0
  · subst h0
    rw [if_pos rfl, if_pos rfl]
    by_cases ht : t ≤ 60000
    · rw [show T14.cap t = t by unfold T14.cap; omega]; exact refTold_zlow S V t ht w
    · rw [show T14.cap t = 60000 by unfold T14.cap; omega]; exact refTold_zhigh S V t (by omega) w
  · rw [if_neg h0, if_neg h0]
    by_cases ht : t ≤ 60000
    · rw [show T14.cap t = t by unfold T14.cap; omega]
      by_cases hm : S / 8 ≤ t
      · exact refTold_lowup n S V t (by omega) hn hs hv ht hm w
      · exact refTold_lowdown n S V t (by omega) hn hs hv ht (by omega) w
    · rw [show T14.cap t = 60000 by unfold T14.cap; omega]
      exact refTold_highup n S V t (by omega) hn hs hv (by omega) (by omega) w
/-- Told. -/
theorem told_any (n S V t : Nat) (hn : n ≤ 4611686018427387904) (hs : S ≤ 480000) (hv : V ≤ 240000) (w : World) :
    Calls Tryd.prog 9 #[.agg #[.int .u64 (n : Int), .int .u64 (S : Int), .int .u64 (V : Int)], .int .u64 (t : Int)] w fun e w' => e = .returned (.agg #[.int .u64 ((n + 1 : Nat) : Int), .int .u64 ((T14.S2 n S t : Nat) : Int), .int .u64 ((T14.V2 n S V t : Nat) : Int)]) ∧ Below w.heap.size w w' := by
  unfold T14.S2 T14.V2
  by_cases h0 : n = 0
  · subst h0
    rw [if_pos rfl, if_pos rfl]
    exact told_first S V t w
  · rw [if_neg h0, if_neg h0]
    exact told_more n S V t (by omega) hn hs hv w

set_option maxHeartbeats 4000000 in
theorem refWait_zero (S V : Nat) (w : World) :
    Calls Tryd.prog 23 #[.agg #[.int .u64 0, .int .u64 (S : Int), .int .u64 (V : Int)]] w fun e w' => e = .returned (.int .u64 1000) ∧ Below w.heap.size w w' := by
  go_enter Tryd.func23, Tryd.ntmps23
  go_wp2
  go_ret
  exact ⟨rfl, (Below.refl _ _).alloc (Nat.le_refl _) _⟩

set_option maxHeartbeats 4000000 in
theorem refWait_more (n S V : Nat) (h0 : 0 < n) (hs : S ≤ 480000) (hv : V ≤ 240000) (w : World) :
    Calls Tryd.prog 23 #[.agg #[.int .u64 (n : Int), .int .u64 (S : Int), .int .u64 (V : Int)]] w fun e w' => e = .returned (.int .u64 ((min (max (S / 8 + V) 50) 60000 : Nat) : Int)) ∧ Below w.heap.size w w' := by
  obtain ⟨m, hm⟩ : ∃ m, m = S / 8 := ⟨_, rfl⟩
  obtain ⟨x, hx⟩ : ∃ x, x = m + V := ⟨_, rfl⟩
  have f0 : (S : Int) / 8 = (m : Int) := by omega
  have f1 : (m : Int) + (V : Int) = (x : Int) := by omega
  have f2 : x ≤ 300000 := by omega
  have g0 : ((n : Int) == 0) = false := by rw [beq_eq_false_iff_ne]; omega
  have bb : Below w.heap.size w ((w.alloc (.cells #[.int .u64 (n : Int), .int .u64 (S : Int), .int .u64 (V : Int)] 28 (0, 0)))) := (Below.refl _ _).alloc (Nat.le_refl _) _
  rw [← hm, ← hx]
  clear hm hx
  by_cases h5 : x < 50
  · have k1 : (x : Int) < 50 := by omega
    rw [show min (max x 50) 60000 = 50 by omega]
    go_enter Tryd.func23, Tryd.ntmps23
    go_wp2
    go_ret
    exact ⟨rfl, bb⟩
  · have k1 : ¬ (x : Int) < 50 := by omega
    by_cases h6 : 60000 < x
    · have k2 : (60000 : Int) < x := by omega
      rw [show min (max x 50) 60000 = 60000 by omega]
      go_enter Tryd.func23, Tryd.ntmps23
      go_wp2
      go_ret
      exact ⟨rfl, bb⟩
    · have k2 : ¬ (60000 : Int) < x := by omega
      rw [show min (max x 50) 60000 = x by omega]
      go_enter Tryd.func23, Tryd.ntmps23
      go_wp2
      go_ret
      exact ⟨rfl, bb⟩
theorem refWait_any (n S V : Nat) (hs : S ≤ 480000) (hv : V ≤ 240000) (w : World) :
    Calls Tryd.prog 23 #[.agg #[.int .u64 (n : Int), .int .u64 (S : Int), .int .u64 (V : Int)]] w fun e w' => e = .returned (.int .u64 ((T14.wait n S V : Nat) : Int)) ∧ Below w.heap.size w w' := by
  unfold T14.wait
  by_cases h0 : n = 0
  · subst h0
    rw [if_pos rfl]
    exact refWait_zero S V w
  · rw [if_neg h0]
    exact refWait_more n S V (by omega) hs hv w

end Go.Proofs.YtdcpacdfbbdnlaaDoor
