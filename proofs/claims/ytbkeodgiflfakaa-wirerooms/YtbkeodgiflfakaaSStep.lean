/-
  Layer 3: the words behind a block.
-/
import Derived.Test.YtbkeodgiflfakaaSDrawn
namespace Go.Proofs.Ytbkeodgiflfakaa
open Go.RowKit
set_option linter.unusedVariables false
set_option maxRecDepth 20000

theorem eight {l : List Nat} (h : l.length = 8) : ∃ a b c d e f g i, l = [a, b, c, d, e, f, g, i] := by
  match l, h with
  | [a, b, c, d, e, f, g, i], _ => exact ⟨a, b, c, d, e, f, g, i, rfl⟩

theorem Row.srcTake {w : World} {g t n : Nat} {l : List Value} (h : Row w g t l) : ∀ (j : Nat) v, (l.take n)[j]? = some v → w.cell? ((⟨g, 0, none⟩ : Addr).add j) = some v := by
  intro j v hj
  refine h.src j v ?_
  rw [List.getElem?_take] at hj
  split at hj
  · exact hj
  · cases hj

theorem quiet2 {P : Program} {f : FuncId} {args : Array Value} {w : World} {q n : Nat} {v : Value}
    (h : Calls P f args (w.drewN (q + n)) fun e w' => e = .returned v ∧ w' = w.drewN (q + n)) : Calls P f args (w.drewN (q + n)) fun e w'' => e = .returned v ∧ ∃ m, w'' = w.drewN (q + m) :=
  h.mono fun _ _ ⟨he, hm⟩ => ⟨he, n, hm⟩

theorem Row.under {w w' : World} {B g t : Nat} {l : List Value} (hb : Below B w w') (hg : g < B) (h : Row w g t l) : Row w' g t l := h.below hb hg

theorem x4_is (v0 v1 v2 v3 v4 v5 v6 v7 k x : Nat) :
    ((v3 : Int) + ((v7 : Int) + (S.big v4 6 11 25 : Nat) + (S.ch v4 v5 v6 : Nat) + k + x)) % 4294967296 = (((v3 + S.t1 [v0, v1, v2, v3, v4, v5, v6, v7] k x) % 4294967296 : Nat) : Int) := by
  show _ = (((v3 + ((((v7 + S.big v4 6 11 25) % 4294967296 + S.ch v4 v5 v6) % 4294967296 + k) % 4294967296 + x) % 4294967296) % 4294967296 : Nat) : Int)
  omega
theorem x0_is (v0 v1 v2 v3 v4 v5 v6 v7 k x : Nat) :
    ((v7 : Int) + (S.big v4 6 11 25 : Nat) + (S.ch v4 v5 v6 : Nat) + k + x + ((S.big v0 2 13 22 : Nat) + (S.maj v0 v1 v2 : Nat))) % 4294967296 = (((S.t1 [v0, v1, v2, v3, v4, v5, v6, v7] k x + S.t2 [v0, v1, v2, v3, v4, v5, v6, v7]) % 4294967296 : Nat) : Int) := by
  show _ = (((((((v7 + S.big v4 6 11 25) % 4294967296 + S.ch v4 v5 v6) % 4294967296 + k) % 4294967296 + x) % 4294967296 + (S.big v0 2 13 22 + S.maj v0 v1 v2) % 4294967296) % 4294967296 : Nat) : Int)
  omega

/-- The words behind a block, by whatever constants. -/
def stepK (ks h : List Nat) (b : List UInt8) : List Nat := (List.range 8).map fun i => (h.getD i 0 + (S.rnds ks (S.sched b) h 64).getD i 0) % 4294967296
/-- So many of them already laid over h. -/
def sumRow (h v : List Nat) (k : Nat) : List Nat := ((List.range 8).map fun i => (h.getD i 0 + v.getD i 0) % 4294967296).take k ++ h.drop k
theorem sumRow_length (h v : List Nat) (k : Nat) (hh : h.length = 8) (hk : k ≤ 8) : (sumRow h v k).length = 8 := by simp [sumRow, hh]; omega
theorem sumRow_at (h v : List Nat) (k : Nat) (hh : h.length = 8) (hk : k < 8) : (sumRow h v k).getD k 0 = h.getD k 0 := by
  have hl : (((List.range 8).map fun i => (h.getD i 0 + v.getD i 0) % 4294967296).take k).length = k := by simp; omega
  unfold sumRow
  generalize ((List.range 8).map fun i => (h.getD i 0 + v.getD i 0) % 4294967296).take k = F at hl
  rw [List.getD_eq_getElem?_getD, List.getElem?_append_right (by omega), hl, Nat.sub_self, List.getElem?_drop, Nat.add_zero, List.getD_eq_getElem?_getD]
theorem sumRow_step (h v : List Nat) (k : Nat) (hh : h.length = 8) (hk : k < 8) : (sumRow h v k).set k ((h.getD k 0 + v.getD k 0) % 4294967296) = sumRow h v (k + 1) := by
  have hl : (((List.range 8).map fun i => (h.getD i 0 + v.getD i 0) % 4294967296).take k).length = k := by simp; omega
  unfold sumRow
  rw [List.set_append_right _ _ (by omega), hl, Nat.sub_self, List.drop_eq_getElem_cons (by omega), List.set_cons_zero, List.take_succ_eq_append_getElem (by simp; omega), List.append_assoc]
  simp
theorem sumRow_full (ks h : List Nat) (b : List UInt8) (hh : h.length = 8) : sumRow h (S.rnds ks (S.sched b) h 64) 8 = stepK ks h b := by
  unfold sumRow stepK
  rw [List.drop_eq_nil_of_le (by omega), List.append_nil, List.take_of_length_le (by simp)]

set_option maxHeartbeats 2000000 in
theorem step_any (ks h : List Nat) (b : List UInt8) (hks : ks.length = 64) (oks : S.Ok ks) (hh : h.length = 8) (oh : S.Ok h) (hb : b.length = 64) (w : World) :
    Calls Try.prog 80 #[.agg (u32s h).toArray, .agg (W.cellsOf b).toArray, .agg (u32s ks).toArray] w fun e w' => e = .returned (.agg (u32s (stepK ks h b)).toArray) ∧ Below w.heap.size w w' := by
  have hb' := Lib.hid hb
  have hks' := Lib.hid hks
  have hh' := Lib.hid hh
  clear hb hks hh
  have h64 : (Try.prog.info? 110).map (·.size) = some (W.cellsOf b).toArray.size := by rw [List.size_toArray, show (W.cellsOf b).length = b.length from by simp [W.cellsOf], hb'.out]; kernel_rfl
  have hw64 : (Try.prog.info? 123).map (·.size) = some (u32s (S.sched b)).toArray.size := by rw [List.size_toArray, u32s_length, S.sched_length]; kernel_rfl
  have hh8 : (Try.prog.info? 121).map (·.size) = some (u32s h).toArray.size := by rw [List.size_toArray, u32s_length, hh'.out]; kernel_rfl
  go_enter Try.func80, Try.ntmps80
  go_wp2_with (refine wpList_load_row rfl 110 _ rfl (w.heap.size + 1) rfl _ _ _ _ (((Row.new' rfl (by simp)).alloc _).alloc _) Try.underlying110 rfl h64 ?_)
  refine (drawn_any b hb'.out _).mono ?_
  rintro e w1 ⟨rfl, hb1⟩
  have r0 : Row w1 w.heap.size 121 (u32s h) := ((((Row.new w _ _).alloc _).alloc _).alloc _).below hb1 (by simp; omega)
  have r2 : Row w1 (w.heap.size + 1 + 1) 123 (u32s ks) := ((Row.new' rfl (by simp)).alloc _).below hb1 (by simp)
  have r3 : Row w1 (w.heap.size + 1 + 1 + 1) 121 (u32s (List.replicate 8 0)) := (Row.new' rfl (by simp)).below hb1 (by simp)
  have hz := hb1.size
  simp at hz
  have hb2 : Below w.heap.size w w1 := (((((Below.refl _ _).alloc (Nat.le_refl _) _).alloc (by simp) _).alloc (by simp; omega) _).alloc (by simp; omega) _).trans (hb1.mono (by simp; omega))
  clear hb1
  go_wp2_with (first | refine wpList_store_new rfl 123 (.tmp 7) (.tmp 14) rfl w1 _ _ _ _ rfl rfl rfl hw64 (by simp [u32s_length, S.sched_length]) (u32s_one _) ?_ | refine wpList_load_row rfl 121 (.tmp 3) rfl w.heap.size rfl _ _ _ _ (r0.alloc _) Try.underlying121 rfl hh8 ?_ | refine wpList_store_new rfl 121 (.tmp 8) (.tmp 15) rfl (w1.alloc (.cells (u32s (S.sched b)).toArray 123 (0, 0))) _ _ _ _ rfl (by simp) rfl hh8 (by simp [u32s_length, hh'.out]) (u32s_one _) ?_)
  obtain ⟨gw, hgw⟩ : ∃ gw, gw = w1.heap.size := ⟨_, rfl⟩
  have q0 := (r0.alloc (.cells (u32s (S.sched b)).toArray 123 (0, 0))).alloc (.cells (u32s h).toArray 121 (0, 0))
  have q2 := (r2.alloc (.cells (u32s (S.sched b)).toArray 123 (0, 0))).alloc (.cells (u32s h).toArray 121 (0, 0))
  have q3 := (r3.alloc (.cells (u32s (S.sched b)).toArray 123 (0, 0))).alloc (.cells (u32s h).toArray 121 (0, 0))
  have q4 : Row _ gw 123 (u32s (S.sched b)) := (Row.new' (w := w1) rfl hgw).alloc (.cells (u32s h).toArray 121 (0, 0))
  have q5 : Row ((w1.alloc (.cells (u32s (S.sched b)).toArray 123 (0, 0))).alloc (.cells (u32s h).toArray 121 (0, 0))) (gw + 1) 121 (u32s h) := Row.new' rfl (by simp [hgw])
  have hb3 := (hb2.alloc (by omega) (.cells (u32s (S.sched b)).toArray 123 (0, 0))).alloc (by simp; omega) (.cells (u32s h).toArray 121 (0, 0))
  rw [← hgw]
  have hgz : w.heap.size + 4 ≤ gw := by omega
  clear r0 r2 r3 hb2 hz hgw
  go_loopw [16] (fun iv wr => ∃ j : Nat, j ≤ 64 ∧ iv = .int .i64 j ∧ Row wr w.heap.size 121 (u32s h) ∧ Row wr (w.heap.size + 1 + 1) 123 (u32s ks) ∧ Row wr (w.heap.size + 1 + 1 + 1) 121 (u32s (List.replicate 8 0)) ∧ Row wr gw 123 (u32s (S.sched b)) ∧ Row wr (gw + 1) 121 (u32s (S.rnds ks (S.sched b) h j)) ∧ Below w.heap.size w wr) (fun iv _ => 64 - (intOf iv).toNat)
  case atStart => exact ⟨0, Nat.zero_le _, rfl, q0, q2, q3, q4, q5, hb3⟩
  case round =>
    clear q0 q2 q3 q4 q5 hb3
    obtain ⟨j, hj, rfl, r0, r2, r3, rw, ra, hbl⟩ := hrel
    by_cases hlt : j < 64
    · have ov : S.Ok (S.rnds ks (S.sched b) h j) := S.rnds_ok oh j
      have HR : Hid (S.rnds ks (S.sched b) h (j + 1) = S.rnd (S.rnds ks (S.sched b) h j) (ks.getD j 0) ((S.sched b).getD j 0)) := rfl
      obtain ⟨v0, v1, v2, v3, v4, v5, v6, v7, hv⟩ := eight (S.rnds_length (ks := ks) (ws := S.sched b) hh'.out j)
      rw [hv] at ra ov HR
      clear hv
      have ck := (r2.cell j).trans (u32s_at (by rw [hks'.out]; exact hlt))
      have cw := (rw.cell j).trans (u32s_at (by rw [S.sched_length]; exact hlt))
      generalize ks.getD j 0 = k at ck HR
      generalize (S.sched b).getD j 0 = x at cw HR
      have c0 : wr.cell? ⟨gw + 1, 0, none⟩ = some (.int .u32 v0) := ra.cell 0
      have c1 : wr.cell? ⟨gw + 1, 1, none⟩ = some (.int .u32 v1) := ra.cell 1
      have c2 : wr.cell? ⟨gw + 1, 2, none⟩ = some (.int .u32 v2) := ra.cell 2
      have c4 : wr.cell? ⟨gw + 1, 4, none⟩ = some (.int .u32 v4) := ra.cell 4
      have c5 : wr.cell? ⟨gw + 1, 5, none⟩ = some (.int .u32 v5) := ra.cell 5
      have c6 : wr.cell? ⟨gw + 1, 6, none⟩ = some (.int .u32 v6) := ra.cell 6
      have c7 : wr.cell? ⟨gw + 1, 7, none⟩ = some (.int .u32 v7) := ra.cell 7
      have o0 : v0 < 4294967296 := ov v0 (by simp)
      have o1 : v1 < 4294967296 := ov v1 (by simp)
      have o2 : v2 < 4294967296 := ov v2 (by simp)
      have o4 : v4 < 4294967296 := ov v4 (by simp)
      have o5 : v5 < 4294967296 := ov v5 (by simp)
      have o6 : v6 < 4294967296 := ov v6 (by simp)
      have bj : (j : Int) < 64 := by omega
      clear ov
      go_wp2
      go_quiet (first | (go_at_call 96; exact Calls.quiet_of_same (big6 _ o4 _)) | (go_at_call 97; exact Calls.quiet_of_same (choice_any _ _ _ o4 o5 o6 _)))
      go_wp2
      go_quiet (first | (go_at_call 96; exact quiet2 (big2 _ o0 _)) | (go_at_call 98; exact quiet2 (majority_any _ _ _ o0 o1 o2 _)))
      go_wp2
      have hl7 : ((u32s [v0, v1, v2, v3, v4, v5, v6, v7]).take 7).length = Nat.min 7 7 := rfl
      have hf7 : 1 + ((u32s [v0, v1, v2, v3, v4, v5, v6, v7]).take 7).length ≤ (u32s [v0, v1, v2, v3, v4, v5, v6, v7]).length := Nat.le_refl 8
      have HL7 := Lib.hid hl7
      clear hl7
      go_region_law (refine step_copy_splice rfl (.tmp 52) (.tmp 53) 141 141 rfl 93 Try.underlying141 (by kernel_rfl) _ _ _ _ _ _ rfl rfl (gw + 1) 1 _ 121 ra ((u32s [v0, v1, v2, v3, v4, v5, v6, v7]).take 7) HL7.out (fun _ => ⟨rfl, _, rfl, ra.srcTake⟩) hf7 (fun v hv => u32s_cell _ v (List.mem_of_mem_take hv)) (gw + 1) _ (Below.refl _ _) (Nat.le_refl _) ?_; intro w2 hg2 hb5)
      have s0 := Row.under hb5 (by omega) (show Row _ w.heap.size _ _ from r0)
      have s2 := Row.under hb5 (by omega) (show Row _ (w.heap.size + 1 + 1) _ _ from r2)
      have s3 := Row.under hb5 (by omega) (show Row _ (w.heap.size + 1 + 1 + 1) _ _ from r3)
      have s4 := Row.under hb5 (by omega) (show Row _ gw _ _ from rw)
      have sa : Row w2 (gw + 1) 121 (u32s [v0, v0, v1, v2, v3, v4, v5, v6]) := hg2.out
      have hb6 : Below w.heap.size w w2 := (((below_drewM hbl _).trans (Below.refl _ _)).trans ((below_drewM (Below.refl _ _) _).drew)).trans (hb5.mono (by omega))
      clear hg2 hb5 HL7 hf7 r0 r2 r3 rw ra hbl c0 c1 c2 c4 c5 c6 c7 ck cw
      have d4 : w2.cell? ⟨gw + 1, 4, none⟩ = some (.int .u32 v3) := sa.cell 4
      have d0 : w2.cell? ⟨gw + 1, 0, none⟩ = some (.int .u32 v0) := sa.cell 0
      have f4 := sa.frozen 4
      have f0 := sa.frozen 0
      go_wp2
      go_roundw
      case rel =>
        rw [x4_is v0 v1 v2 v3 v4 v5 v6 v7 k x, x0_is v0 v1 v2 v3 v4 v5 v6 v7 k x]
        refine ⟨j + 1, by omega, by go_num, (s0.other (by omega) _).other (by omega) _, (s2.other (by omega) _).other (by omega) _, (s3.other (by omega) _).other (by omega) _, (s4.other (by omega) _).other (by omega) _, ?_, (hb6.setCell (by simp; omega) _).setCell (by simp; omega) _⟩
        rw [HR.out]
        exact (sa.set 4 _).set 0 _
      case measure => simp [intOf]; omega
    · obtain rfl : j = 64 := by omega
      clear r2 rw
      have ov : S.Ok (S.rnds ks (S.sched b) h 64) := S.rnds_ok oh 64
      have lv : (S.rnds ks (S.sched b) h 64).length = 8 := S.rnds_length hh'.out 64
      have HF := Lib.hid (sumRow_full ks h b hh'.out)
      generalize S.rnds ks (S.sched b) h 64 = v at ra ov lv HF
      have lv' := Lib.hid lv
      clear lv
      have r0' : Row wr w.heap.size 121 (u32s (sumRow h v 0)) := by
        have e : sumRow h v 0 = h := by simp [sumRow]
        rw [e]; exact r0
      go_wp2
      go_loopw [65] (fun iv wx => ∃ j : Nat, j ≤ 8 ∧ iv = .int .i64 j ∧ Row wx w.heap.size 121 (u32s (sumRow h v j)) ∧ Row wx (w.heap.size + 1 + 1 + 1) 121 (u32s (List.replicate 8 0)) ∧ Row wx (gw + 1) 121 (u32s v) ∧ Below w.heap.size w wx) (fun iv _ => 8 - (intOf iv).toNat)
      case atStart => exact ⟨0, Nat.zero_le _, rfl, r0', r3, ra, hbl⟩
      case round =>
        clear r0 r0' r3 ra hbl
        obtain ⟨j, hj, rfl, r0, r3, ra, hbl⟩ := hrel
        by_cases hlt : j < 8
        · have cj := (r0.cell j).trans (u32s_at (by rw [sumRow_length h v j hh'.out hj]; exact hlt))
          have cv := (ra.cell j).trans (u32s_at (by rw [lv'.out]; exact hlt))
          rw [sumRow_at h v j hh'.out hlt] at cj
          have fj := r0.frozen j
          have bj : (j : Int) < 8 := by omega
          have HS := Lib.hid (sumRow_step h v j hh'.out hlt)
          generalize h.getD j 0 = a at cj HS
          generalize v.getD j 0 = c at cv HS
          go_wp2
          go_region
          go_wp2
          go_roundw
          case rel =>
            have e : ((a : Int) + c) % 4294967296 = (((a + c) % 4294967296 : Nat) : Int) := by omega
            rw [e]
            refine ⟨j + 1, by omega, by go_num, ?_, (r3.other (by omega) _).drew, (ra.other (by omega) _).drew, (hbl.setCell (by simp) _).drew⟩
            rw [← HS.out, ← u32s_set]
            exact (r0.set j _).drew
          case measure => simp [intOf]; omega
        · obtain rfl : j = 8 := by omega
          rw [HF.out] at r0
          have hi : (Try.prog.info? 121).map (·.size) = some (u32s (stepK ks h b)).toArray.size := by rw [List.size_toArray, u32s_length, show (stepK ks h b).length = 8 from by simp [stepK]]; kernel_rfl
          go_wp2_with (first | refine wpList_load_row rfl 121 _ rfl w.heap.size rfl _ _ _ _ r0 Try.underlying121 rfl hi ?_ | refine wpList_store_row rfl 121 (.tmp 6) (.tmp 77) rfl (w.heap.size + 1 + 1 + 1) _ rfl rfl _ _ r3 hi (by simp [u32s_length, stepK]) (u32s_one _) ?_)
          exact bodyPost_ret (results_cell_row rfl _ _ (w.heap.size + 1 + 1 + 1) _ _ _ _ rfl (r3.setRow (u32s (stepK ks h b))) Try.underlying121 rfl hi) rfl ⟨rfl, below_row hbl (by omega) _⟩

end Go.Proofs.Ytbkeodgiflfakaa
