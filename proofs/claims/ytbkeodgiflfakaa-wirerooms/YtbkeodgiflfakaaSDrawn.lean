/-
  Layer 3: a block's words, drawn out.
-/
import Derived.Test.YtbkeodgiflfakaaSWords
import Derived.Laws.CopyOwn
import Derived.Deep.RegionHeld3
namespace Go.Proofs.Ytbkeodgiflfakaa
open Go.RowKit
set_option linter.unusedVariables false
set_option maxRecDepth 20000

/-- What lies in the row behind k words more. -/
def drawnRow (b : List UInt8) (k : Nat) : List Nat := S.ext (S.words16 b) k ++ List.replicate (48 - k) 0
theorem drawnRow_length (b : List UInt8) (k : Nat) (h : k ≤ 48) : (drawnRow b k).length = 64 := by simp [drawnRow, S.ext_length, S.words16_length]; omega
theorem drawnRow_at (b : List UInt8) (k i : Nat) (h : i < 16 + k) : (drawnRow b k).getD i 0 = (S.ext (S.words16 b) k).getD i 0 := by
  simp only [drawnRow, List.getD_eq_getElem?_getD]
  rw [List.getElem?_append_left (by rw [S.ext_length, S.words16_length]; exact h)]
theorem drawnRow_full (b : List UInt8) : drawnRow b 48 = S.sched b := by simp [drawnRow, S.sched]
theorem drawnRow_step (b : List UInt8) (k : Nat) (h : k < 48) : (drawnRow b k).set (16 + k) (S.more (S.ext (S.words16 b) k)) = drawnRow b (k + 1) := by
  unfold drawnRow
  have e : 48 - k = (48 - (k + 1)) + 1 := by omega
  have hl : (S.ext (S.words16 b) k).length = 16 + k := by rw [S.ext_length, S.words16_length]
  rw [e, List.replicate_succ, List.set_append_right _ _ (by omega), hl, Nat.sub_self, List.set_cons_zero]
  simp [S.ext]
theorem drawnRow_ok (b : List UInt8) (k : Nat) : S.Ok (drawnRow b k) := by
  intro x hx
  rcases List.mem_append.1 hx with h | h
  · exact S.ext_ok (S.words16_ok b) k x h
  · have := (List.mem_replicate.1 h).2; omega
theorem splice_front (b : List UInt8) : splice (u32s (List.replicate 64 0)) 0 (u32s (S.words16 b)) = u32s (drawnRow b 0) := by
  unfold splice drawnRow
  rw [u32s_length, S.words16_length]
  simp [u32s, S.ext]

theorem more_is (b : List UInt8) (k : Nat) :
    S.more (S.ext (S.words16 b) k) = (((( (drawnRow b k).getD (k) 0 + S.small ((drawnRow b k).getD (k + 1) 0) 7 18 3) % 4294967296 + (drawnRow b k).getD (k + 9) 0) % 4294967296) + S.small ((drawnRow b k).getD (k + 14) 0) 17 19 10) % 4294967296 := by
  have hl : (S.ext (S.words16 b) k).length = 16 + k := by rw [S.ext_length, S.words16_length]
  rw [drawnRow_at b k _ (by omega), drawnRow_at b k _ (by omega), drawnRow_at b k _ (by omega), drawnRow_at b k _ (by omega)]
  unfold S.more
  rw [hl, show 16 + k - 16 = k from by omega, show 16 + k - 15 = k + 1 from by omega, show 16 + k - 7 = k + 9 from by omega, show 16 + k - 2 = k + 14 from by omega]

set_option maxHeartbeats 1000000 in
theorem drawn_any (b : List UInt8) (hb : b.length = 64) (w : World) :
    Calls Try.prog 95 #[.agg (W.cellsOf b).toArray] w fun e w' => e = .returned (.agg (u32s (S.sched b)).toArray) ∧ Below w.heap.size w w' := by
  have hb' := Lib.hid hb
  clear hb
  have h64 : (Try.prog.info? 110).map (·.size) = some (W.cellsOf b).toArray.size := by rw [List.size_toArray, show (W.cellsOf b).length = b.length from by simp [W.cellsOf], hb'.out]; kernel_rfl
  have h16 : (Try.prog.info? 143).map (·.size) = some (u32s (S.words16 b)).toArray.size := by rw [List.size_toArray, u32s_length, S.words16_length]; kernel_rfl
  go_enter Try.func95, Try.ntmps95
  go_wp2_with (refine wpList_load_row rfl 110 _ rfl w.heap.size rfl _ _ _ _ (((Row.new w _ _).alloc _).alloc _) Try.underlying110 rfl h64 ?_)
  refine (firstWords_any b hb'.out _).mono ?_
  rintro e w1 ⟨rfl, hb1⟩
  go_wp2_with (refine wpList_store_new rfl 143 (.tmp 4) (.tmp 7) rfl w1 _ _ _ _ rfl rfl rfl h16 (by simp [u32s_length, S.words16_length]) (u32s_one _) ?_)
  have r3 : Row w1 (w.heap.size + 1 + 1) 123 (u32s (List.replicate 64 0)) := (Row.new' (by rfl) (by simp)).below hb1 (by simp)
  have r2 : Row w1 (w.heap.size + 1) 123 (u32s (List.replicate 64 0)) := ((Row.new' (by rfl) (by simp)).alloc _).below hb1 (by simp)
  have hz := hb1.size
  simp at hz
  have hb2 : Below w.heap.size w w1 := ((((Below.refl _ _).alloc (Nat.le_refl _) _).alloc (by simp) _).alloc (by simp; omega) _).trans (hb1.mono (by simp; omega))
  clear hb1
  have r4 := (Row.new w1 143 (u32s (S.words16 b))).drew
  have hb4 : Below w.heap.size w (w1.alloc (.cells (u32s (S.words16 b)).toArray 143 (0, 0))).drew := (hb2.alloc (by omega) _).drew
  have l16 : (u32s (S.words16 b)).length = 16 := by rw [u32s_length, S.words16_length]
  have L16 := Lib.hid l16
  clear l16
  go_region_law (refine step_copy_splice rfl (.tmp 8) (.tmp 9) 141 141 rfl 93 Try.underlying141 (by kernel_rfl) _ _ _ _ _ _ rfl rfl (w.heap.size + 1 + 1) 0 _ 123 (r3.alloc _).drew (u32s (S.words16 b)) (by rw [L16.out]; rfl) (fun _ => ⟨rfl, _, rfl, r4.src⟩) (by rw [L16.out]; simp [u32s]) (u32s_cell _) (w.heap.size + 1 + 1) _ (Below.refl _ _) (Nat.le_refl _) ?_; intro w2 hg2 hb5)
  have r3' : Row w2 (w.heap.size + 1 + 1) 123 (u32s (drawnRow b 0)) := by rw [← splice_front]; exact hg2.out
  have r2' : Row w2 (w.heap.size + 1) 123 (u32s (List.replicate 64 0)) := (r2.alloc _).drew.below hb5 (by omega)
  have hb6 : Below w.heap.size w w2 := hb4.trans (hb5.mono (by omega))
  clear hg2 hb5 hb4 r4 r3 r2 hb2 hz
  go_wp2
  go_loopw [5] (fun iv wr => ∃ k : Nat, k ≤ 48 ∧ iv = .int .i64 ((16 + k : Nat) : Int) ∧ Row wr (w.heap.size + 1) 123 (u32s (List.replicate 64 0)) ∧ Row wr (w.heap.size + 1 + 1) 123 (u32s (drawnRow b k)) ∧ Below w.heap.size w wr) (fun iv _ => 64 - (intOf iv).toNat)
  case atStart => exact ⟨0, Nat.zero_le _, rfl, r2', r3', hb6⟩
  case round =>
    clear r2' r3' hb6
    obtain ⟨k, hk, rfl, r2, r3, hbl⟩ := hrel
    by_cases hlt : k < 48
    · have hl := drawnRow_length b k hk
      have ca := (r3.cell k).trans (u32s_at (by omega))
      have cb := (r3.cell (k + 1)).trans (u32s_at (by omega))
      have cc := (r3.cell (k + 9)).trans (u32s_at (by omega))
      have cd := (r3.cell (k + 14)).trans (u32s_at (by omega))
      have ce := (r3.cell (16 + k)).trans (u32s_at (by omega))
      have fe := r3.frozen (16 + k)
      have ha := (drawnRow_ok b k).getD k
      have hb := (drawnRow_ok b k).getD (k + 1)
      have hc := (drawnRow_ok b k).getD (k + 9)
      have hd := (drawnRow_ok b k).getD (k + 14)
      have HM := Lib.hid (more_is b k)
      have HS := Lib.hid (drawnRow_step b k hlt)
      generalize (drawnRow b k).getD k 0 = a at ca ha HM
      generalize (drawnRow b k).getD (k + 1) 0 = b' at cb hb HM
      generalize (drawnRow b k).getD (k + 9) 0 = c at cc hc HM
      generalize (drawnRow b k).getD (k + 14) 0 = d at cd hd HM
      generalize (drawnRow b k).getD (16 + k) 0 = e at ce
      clear hl
      obtain ⟨n, hn⟩ : ∃ n, n = 16 + k := ⟨_, rfl⟩
      obtain ⟨n1, hn1⟩ : ∃ n1, n1 = k + 1 := ⟨_, rfl⟩
      obtain ⟨n9, hn9⟩ : ∃ n9, n9 = k + 9 := ⟨_, rfl⟩
      obtain ⟨n14, hn14⟩ : ∃ n14, n14 = k + 14 := ⟨_, rfl⟩
      rw [← hn] at ce fe ⊢
      rw [← hn1] at cb
      rw [← hn9] at cc
      rw [← hn14] at cd
      have b0 : (k : Int) < 64 := by omega
      have b1 : (n1 : Int) < 64 := by omega
      have b2 : (n9 : Int) < 64 := by omega
      have b3 : (n14 : Int) < 64 := by omega
      have b4 : (n : Int) < 64 := by omega
      have e0 : IntKind.i64.wrap ((n : Int) - 16) = k := by rw [IntKind.wrap_i64]; omega
      have e1 : IntKind.i64.wrap ((n : Int) - 15) = n1 := by rw [IntKind.wrap_i64]; omega
      have e2 : IntKind.i64.wrap ((n : Int) - 7) = n9 := by rw [IntKind.wrap_i64]; omega
      have e3 : IntKind.i64.wrap ((n : Int) - 2) = n14 := by rw [IntKind.wrap_i64]; omega
      have d0 : ¬ k = n ∧ ¬ n = k := by omega
      have d1 : ¬ n1 = n ∧ ¬ n = n1 := by omega
      have d2 : ¬ n9 = n ∧ ¬ n = n9 := by omega
      have d3 : ¬ n14 = n ∧ ¬ n = n14 := by omega
      have K3 : ∀ m, Row ((wr.drewN m).setCell ⟨w.heap.size + 1 + 1, n, none⟩ (.int .u32 ((S.more (S.ext (S.words16 b) k) : Nat) : Int))) (w.heap.size + 1 + 1) 123 (u32s (drawnRow b (k + 1))) := fun m => by
        have := (r3.drewN m).set n (.int .u32 ((S.more (S.ext (S.words16 b) k) : Nat) : Int))
        rw [u32s_set] at this
        rw [← HS.out, ← hn]
        exact this
      have HN := Lib.hid hn
      clear hn hn1 hn9 hn14
      go_wp2
      go_region_held3 (fun w' => w'.cell? ⟨w.heap.size + 1 + 1, k, none⟩ = some (.int .u32 a) ∧ w'.cell? ⟨w.heap.size + 1 + 1, n1, none⟩ = some (.int .u32 b') ∧ w'.cell? ⟨w.heap.size + 1 + 1, n9, none⟩ = some (.int .u32 c) ∧ w'.cell? ⟨w.heap.size + 1 + 1, n14, none⟩ = some (.int .u32 d)) (simp [*, World.cell?_setCell_other])
        (first | (go_at_call_of 103 (Value.int IntKind.i64 7); refine (small7 _ hb _).mono ?_; rintro e w' ⟨rfl, q, rfl⟩) | (go_at_call_of 103 (Value.int IntKind.i64 17); refine (small17 _ hd _).mono ?_; rintro e w' ⟨rfl, q, rfl⟩))
      go_wp2
      go_roundw
      case rel =>
        have hv : ((((a : Int) + (S.small b' 7 18 3 : Nat)) % 4294967296 + c) % 4294967296 + (S.small d 17 19 10 : Nat)) % 4294967296 = ((S.more (S.ext (S.words16 b) k) : Nat) : Int) := by rw [HM.out]; omega
        rw [hv]
        exact ⟨k + 1, by omega, by rw [HN.out]; go_num, (r2.drewN _).other (by omega) _, K3 _, (below_drewM hbl _).setCell (by simp; omega) _⟩
      case measure => simp [intOf]; omega
    · obtain rfl : k = 48 := by omega
      rw [drawnRow_full b] at r3
      have hi : (Try.prog.info? 123).map (·.size) = some (u32s (S.sched b)).toArray.size := by rw [List.size_toArray, u32s_length, S.sched_length]; kernel_rfl
      go_wp2_with (first | refine wpList_load_row rfl 123 _ rfl (w.heap.size + 1 + 1) rfl _ _ _ _ r3 Try.underlying123 rfl hi ?_ | refine wpList_store_row rfl 123 (.tmp 2) (.tmp 38) rfl (w.heap.size + 1) _ rfl rfl _ _ r2 hi (by simp [u32s_length, S.sched_length]) (u32s_one _) ?_)
      exact bodyPost_ret (results_cell_row rfl _ _ (w.heap.size + 1) _ _ _ _ rfl (r2.setRow (u32s (S.sched b))) Try.underlying123 rfl hi) rfl ⟨rfl, below_row hbl (by omega) _⟩

end Go.Proofs.Ytbkeodgiflfakaa
