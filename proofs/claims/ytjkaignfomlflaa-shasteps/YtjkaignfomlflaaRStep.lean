/-
  Layer 3: the document's own Step.
-/
import Derived.Test.YtjkaignfomlflaaRStepA
import Derived.Deep.RegionHeld3
namespace Go.Proofs.Ytjkaignfomlflaa
open Go.RowKit
set_option linter.unusedVariables false

theorem byte_get {p : ByteArray} {b : List UInt8} (hp : p.data.toList = b) {m : Nat} (hm : m < p.size) (hb : m < b.length) : p[m] = b[m] := by subst hp; rfl

theorem small_is7 (x : Nat) (hx : x < 4294967296) : bits .xor .u32 (bits .xor .u32 (S.rotr x 7 : Nat) (S.rotr x 18 : Nat)) ((x : Int) / 8) = (S.small x 7 18 3 : Nat) := by
  rw [show (x : Int) / 8 = ((x / 2 ^ 3 : Nat) : Int) from by omega, u32_xor_nat _ _ (S.rotr_lt hx) (S.rotr_lt hx), u32_xor_nat _ _ (S.xor_lt (S.rotr_lt hx) (S.rotr_lt hx)) (S.div_lt hx)]
  rfl
theorem small_is17 (x : Nat) (hx : x < 4294967296) : bits .xor .u32 (bits .xor .u32 (S.rotr x 17 : Nat) (S.rotr x 19 : Nat)) ((x : Int) / 1024) = (S.small x 17 19 10 : Nat) := by
  rw [show (x : Int) / 1024 = ((x / 2 ^ 10 : Nat) : Int) from by omega, u32_xor_nat _ _ (S.rotr_lt hx) (S.rotr_lt hx), u32_xor_nat _ _ (S.xor_lt (S.rotr_lt hx) (S.rotr_lt hx)) (S.div_lt hx)]
  rfl
theorem big_is (x a b c : Nat) (hx : x < 4294967296) : bits .xor .u32 (bits .xor .u32 (S.rotr x a : Nat) (S.rotr x b : Nat)) (S.rotr x c : Nat) = (S.big x a b c : Nat) := by
  rw [u32_xor_nat _ _ (S.rotr_lt hx) (S.rotr_lt hx), u32_xor_nat _ _ (S.xor_lt (S.rotr_lt hx) (S.rotr_lt hx)) (S.rotr_lt hx)]
  rfl
theorem ch_is (x y z : Nat) (hx : x < 4294967296) (hy : y < 4294967296) (hz : z < 4294967296) : bits .xor .u32 (bits .and .u32 (x : Int) (y : Int)) (bits .and .u32 (4294967295 - (x : Int)) (z : Int)) = (S.ch x y z : Nat) := by
  have h1 : 4294967295 - x < 4294967296 := by omega
  rw [show (4294967295 : Int) - (x : Int) = ((4294967295 - x : Nat) : Int) from by omega, u32_and_nat _ _ hx hy, u32_and_nat _ _ h1 hz, u32_xor_nat _ _ (S.and_lt hx) (S.and_lt h1)]
  rfl
theorem maj_is (x y z : Nat) (hx : x < 4294967296) (hy : y < 4294967296) (hz : z < 4294967296) : bits .xor .u32 (bits .xor .u32 (bits .and .u32 (x : Int) (y : Int)) (bits .and .u32 (x : Int) (z : Int))) (bits .and .u32 (y : Int) (z : Int)) = (S.maj x y z : Nat) := by
  rw [u32_and_nat _ _ hx hy, u32_and_nat _ _ hx hz, u32_and_nat _ _ hy hz, u32_xor_nat _ _ (S.and_lt hx) (S.and_lt hx), u32_xor_nat _ _ (S.xor_lt (S.and_lt hx) (S.and_lt hx)) (S.and_lt hy)]
  rfl

theorem y4_is (v0 v1 v2 v3 v4 v5 v6 v7 k x : Nat) :
    ((v3 : Int) + ((v7 : Int) + (S.big v4 6 11 25 : Nat) + (S.ch v4 v5 v6 : Nat) + k + x) % 4294967296) % 4294967296 = (((v3 + S.t1 [v0, v1, v2, v3, v4, v5, v6, v7] k x) % 4294967296 : Nat) : Int) := by
  rw [← x4_is v0 v1 v2 v3 v4 v5 v6 v7 k x]; omega
theorem y0_is (v0 v1 v2 v3 v4 v5 v6 v7 k x : Nat) :
    (((v7 : Int) + (S.big v4 6 11 25 : Nat) + (S.ch v4 v5 v6 : Nat) + k + x) % 4294967296 + ((S.big v0 2 13 22 : Nat) + (S.maj v0 v1 v2 : Nat)) % 4294967296) % 4294967296 = (((S.t1 [v0, v1, v2, v3, v4, v5, v6, v7] k x + S.t2 [v0, v1, v2, v3, v4, v5, v6, v7]) % 4294967296 : Nat) : Int) := by
  rw [← x0_is v0 v1 v2 v3 v4 v5 v6 v7 k x]; omega

theorem drewN_size (w : World) : ∀ n, (w.drewN n).heap.size = w.heap.size
  | 0 => rfl
  | n + 1 => drewN_size w n

/-- So many sums already laid into a fresh row. -/
def sumOut (h v : List Nat) (k : Nat) : List Nat := ((List.range 8).map fun i => (h.getD i 0 + v.getD i 0) % 4294967296).take k ++ List.replicate (8 - k) 0
theorem sumOut_length (h v : List Nat) (k : Nat) (hk : k ≤ 8) : (sumOut h v k).length = 8 := by simp [sumOut]; omega
theorem sumOut_step (h v : List Nat) (k : Nat) (hk : k < 8) : (sumOut h v k).set k ((h.getD k 0 + v.getD k 0) % 4294967296) = sumOut h v (k + 1) := by
  have hl : (((List.range 8).map fun i => (h.getD i 0 + v.getD i 0) % 4294967296).take k).length = k := by simp; omega
  unfold sumOut
  rw [List.set_append_right _ _ (by omega), hl, Nat.sub_self, show 8 - k = (8 - (k + 1)) + 1 from by omega, List.replicate_succ, List.set_cons_zero, List.take_succ_eq_append_getElem (by simp; omega), List.append_assoc]
  simp
theorem sumOut_full (h : List Nat) (b : List UInt8) : sumOut h (S.rnds S.keys (S.sched b) h 64) 8 = S.stepL h b := by
  unfold sumOut S.stepL
  rw [List.take_of_length_le (by simp)]
  simp

set_option maxRecDepth 100000 in
set_option maxHeartbeats 4000000 in
theorem refStep_any (bh : Nat) (h : List Nat) (p : ByteArray) (hh : h.length = 8) (oh : S.Ok h) (hp : p.size = 64) (w : World) {th : Nat} (rh : Row w bh th (u32s h)) :
    Calls Try.prog 11 #[.slice (some ⟨bh, 0, none⟩) 8 8, .string p] w fun e w' => ∃ g, e = .returned (.slice (some ⟨g, 0, none⟩) 8 8) ∧ Row w' g 22 (u32s (S.stepL h p.data.toList)) ∧ Below w.heap.size w w' := by
  have hbl : p.data.toList.length = 64 := by simp; exact hp
  obtain ⟨b, hb⟩ : ∃ b, b = p.data.toList := ⟨_, rfl⟩
  rw [← hb] at hbl ⊢
  have HB : Hid (p.data.toList = b) := hb.symm
  have HBL := Lib.hid hbl
  have HH := Lib.hid hh
  have HP := Lib.hid hp
  have hbw := rh.lt
  have hp1 : p.size ≤ 64 := by omega
  have mk64 := make64
  have mk8 := make8
  clear hb hbl hh hp
  go_enter Try.func11, Try.ntmps11
  go_wp2_with fail
  refine (refK_any _).mono ?_
  rintro e w1 ⟨rfl, rk, b1⟩
  have z1 := rk.lt
  obtain ⟨gw, hgw⟩ : ∃ gw, gw = w1.heap.size := ⟨_, rfl⟩
  have rw0 : Row (w1.alloc (.cells (u32s (List.replicate 64 0)).toArray 22 (0, 0))) gw 22 (u32s (fwRow b (4 * 0))) := by rw [fwRow_zero]; exact Row.new' rfl hgw
  have rk0 := rk.alloc (.cells (u32s (List.replicate 64 0)).toArray 22 (0, 0))
  have b10 := b1.alloc b1.size (.cells (u32s (List.replicate 64 0)).toArray 22 (0, 0))
  have hgz : w.heap.size < gw := by rw [hgw]; exact z1
  go_wp2
  rw [← hgw]
  clear hgw rk b1 z1
  go_loopw [7] (fun iv wr => ∃ i : Nat, i ≤ 16 ∧ iv = .int .i64 i ∧ Row wr w.heap.size 22 (u32s S.keys) ∧ Row wr gw 22 (u32s (fwRow b (4 * i))) ∧ Below w.heap.size w wr) (fun iv _ => 16 - (intOf iv).toNat)
  case atStart => exact ⟨0, Nat.zero_le _, rfl, rk0, rw0, b10⟩
  case round =>
    clear rk0 rw0 b10
    obtain ⟨i, hi, rfl, rk, rw, hbl⟩ := hrel
    by_cases hlt : i < 16
    · go_wp2
      go_loopw [8] (fun jv wy => ∃ j : Nat, j ≤ 4 ∧ jv = .int .i64 j ∧ Row wy w.heap.size 22 (u32s S.keys) ∧ Row wy gw 22 (u32s (fwRow b (4 * i + j))) ∧ Below w.heap.size w wy) (fun jv _ => 4 - (intOf jv).toNat)
      case atStart => exact ⟨0, Nat.zero_le _, rfl, rk, rw, hbl⟩
      case round =>
        clear rk rw hbl
        obtain ⟨j, hj, rfl, rk, rw, hbl⟩ := hrel
        by_cases hlj : j < 4
        · have hm : 4 * i + j < p.size := by rw [HP.out]; omega
          have hmb : 4 * i + j < b.length := by rw [HBL.out]; omega
          have hx := S.fw_lt b (4 * i + j) (by omega)
          rw [show (4 * i + j) / 4 = i from by omega] at hx
          have ci := (rw.cell i).trans (u32s_at (by rw [fwRow_length]; omega))
          rw [fwRow_at b _ i hlt] at ci
          have fi := rw.frozen i
          have rw' := rw.set i (.int .u32 (((S.fw b (4 * i + j)).getD i 0 * 256 + b[4 * i + j].toNat : Nat) : Int))
          rw [u32s_set, fwRow_step b HBL.out i j hlt hlj] at rw'
          have hby := byte_get HB.out hm hmb
          have hy := b[4 * i + j].toNat_lt
          generalize b[4 * i + j] = y at *
          generalize (S.fw b (4 * i + j)).getD i 0 = x at *
          obtain ⟨m, hmm⟩ : ∃ m, m = 4 * i + j := ⟨_, rfl⟩
          have hm' : m < p.size := by rw [hmm]; exact hm
          have hby' : p[m] = y := by simp only [hmm]; exact hby
          have e1 : IntKind.i64.wrap (4 * (i : Int)) = 4 * (i : Int) := by rw [IntKind.wrap_i64]; omega
          have e2 : IntKind.i64.wrap (4 * (i : Int) + (j : Int)) = (m : Int) := by rw [IntKind.wrap_i64]; omega
          have e3 : 4 * (i : Int) + (j : Int) = (m : Int) := by omega
          have e4 : (m : Int) < (p.size : Int) := by omega
          have bi : (i : Int) < 64 := by omega
          clear hby hmm hm
          go_wp2
          go_region
          go_wp2
          go_roundw
          case rel =>
            rw [show (x : Int) * 256 + (y.toNat : Int) = ((x * 256 + y.toNat : Nat) : Int) from by omega]
            exact ⟨j + 1, by omega, by go_num, (rk.other (by omega) _).drew, rw'.drew, (hbl.setCell (by simp; omega) _).drew⟩
          case measure => simp [intOf]; omega
        · obtain rfl : j = 4 := by omega
          go_wp2
          go_roundw
          case rel => exact ⟨i + 1, by omega, by go_num, rk, rw, hbl⟩
          case measure => simp [intOf]; omega
    · obtain rfl : i = 16 := by omega
      rw [show 4 * 16 = 64 from rfl, fwRow_full b HBL.out] at rw
      go_wp2
      go_loopw [9] (fun iv wx => ∃ k : Nat, k ≤ 48 ∧ iv = .int .i64 ((16 + k : Nat) : Int) ∧ Row wx w.heap.size 22 (u32s S.keys) ∧ Row wx gw 22 (u32s (drawnRow b k)) ∧ Below w.heap.size w wx) (fun iv _ => 64 - (intOf iv).toNat)
      case atStart => exact ⟨0, Nat.zero_le _, rfl, rk, rw, hbl⟩
      case round =>
        clear rk rw hbl
        obtain ⟨k, hk, rfl, rk, r3, hbl⟩ := hrel
        by_cases hlt : k < 48
        · have hl := drawnRow_length b k hk
          have ca := (r3.cell k).trans (u32s_at (by omega))
          have cb := (r3.cell (k + 1)).trans (u32s_at (by omega))
          have cc := (r3.cell (k + 9)).trans (u32s_at (by omega))
          have cd := (r3.cell (k + 14)).trans (u32s_at (by omega))
          have ce := (r3.cell (16 + k)).trans (u32s_at (by omega))
          have fe := r3.frozen (16 + k)
          have ha := (drawnRow_ok b k).getD k
          have hb := (drawnRow_ok b k).getD (k + 1)
          have hc := (drawnRow_ok b k).getD (k + 9)
          have hd := (drawnRow_ok b k).getD (k + 14)
          have HM := Lib.hid (more_is b k)
          have HS := Lib.hid (drawnRow_step b k hlt)
          generalize (drawnRow b k).getD k 0 = a at ca ha HM
          generalize (drawnRow b k).getD (k + 1) 0 = b' at cb hb HM
          generalize (drawnRow b k).getD (k + 9) 0 = c at cc hc HM
          generalize (drawnRow b k).getD (k + 14) 0 = d at cd hd HM
          generalize (drawnRow b k).getD (16 + k) 0 = e at ce
          clear hl
          obtain ⟨n, hn⟩ : ∃ n, n = 16 + k := ⟨_, rfl⟩
          obtain ⟨n1, hn1⟩ : ∃ n1, n1 = k + 1 := ⟨_, rfl⟩
          obtain ⟨n9, hn9⟩ : ∃ n9, n9 = k + 9 := ⟨_, rfl⟩
          obtain ⟨n14, hn14⟩ : ∃ n14, n14 = k + 14 := ⟨_, rfl⟩
          rw [← hn] at ce fe ⊢
          rw [← hn1] at cb
          rw [← hn9] at cc
          rw [← hn14] at cd
          have b0 : (k : Int) < 64 := by omega
          have b1 : (n1 : Int) < 64 := by omega
          have b2 : (n9 : Int) < 64 := by omega
          have b3 : (n14 : Int) < 64 := by omega
          have b4 : (n : Int) < 64 := by omega
          have e0 : (n : Int) - 16 = k := by omega
          have e1 : (n : Int) - 15 = n1 := by omega
          have e2 : (n : Int) - 7 = n9 := by omega
          have e3 : (n : Int) - 2 = n14 := by omega
          have f0 : IntKind.i64.wrap ((n : Int) - 16) = k := by rw [IntKind.wrap_i64]; omega
          have f1 : IntKind.i64.wrap ((n : Int) - 15) = n1 := by rw [IntKind.wrap_i64]; omega
          have f2 : IntKind.i64.wrap ((n : Int) - 7) = n9 := by rw [IntKind.wrap_i64]; omega
          have f3 : IntKind.i64.wrap ((n : Int) - 2) = n14 := by rw [IntKind.wrap_i64]; omega
          have K3 : ∀ m, Row ((wr.drewN m).setCell ⟨gw, n, none⟩ (.int .u32 ((S.more (S.ext (S.words16 b) k) : Nat) : Int))) gw 22 (u32s (drawnRow b (k + 1))) := fun m => by
            have := (r3.drewN m).set n (.int .u32 ((S.more (S.ext (S.words16 b) k) : Nat) : Int))
            rw [u32s_set] at this
            rw [← HS.out, ← hn]
            exact this
          have HN := Lib.hid hn
          clear hn hn1 hn9 hn14
          go_wp2
          go_quiet (first | (go_at_call_of 23 (Value.int IntKind.i64 7); exact refRot0 (k := 7) rfl (by decide) (by decide) hb _) | (go_at_call_of 23 (Value.int IntKind.i64 18); exact refRot0 (k := 18) rfl (by decide) (by decide) hb _))
          go_wp2
          go_quiet (first | (go_at_call_of 23 (Value.int IntKind.i64 17); exact refRot (k := 17) rfl (by decide) (by decide) hd _) | (go_at_call_of 23 (Value.int IntKind.i64 19); exact refRot (k := 19) rfl (by decide) (by decide) hd _))
          go_wp2
          go_region
          go_wp2
          go_roundw
          case rel =>
            have hv : ((a : Int) + (S.small b' 7 18 3 : Nat) + c + (S.small d 17 19 10 : Nat)) % 4294967296 = ((S.more (S.ext (S.words16 b) k) : Nat) : Int) := by rw [HM.out]; omega
            rw [small_is7 b' hb, small_is17 d hd, hv]
            exact ⟨k + 1, by omega, by rw [HN.out]; go_num, (rk.drewN _).other (by omega) _, K3 _, (below_drewM hbl _).setCell (by simp; omega) _⟩
          case measure => simp [intOf]; omega
        · obtain rfl : k = 48 := by omega
          rw [drawnRow_full b] at r3
          have rh1 : Row wr bh th (u32s h) := rh.below hbl hbw
          obtain ⟨h0, h1, h2, h3, h4, h5, h6, h7, hE⟩ := eight HH.out
          have s0 : ∀ i, wr.cell? ⟨bh, i, none⟩ = (u32s h)[i]? := rh1.cell
          rw [hE] at s0
          simp only [u32s, List.map_cons, List.map_nil] at s0
          have zw : bh < wr.heap.size := rh1.lt
          go_wp2
          go_region_held3 (fun w' => ∀ i, w'.cell? ⟨bh, i, none⟩ = ([.int .u32 (h0 : Int), .int .u32 (h1 : Int), .int .u32 (h2 : Int), .int .u32 (h3 : Int), .int .u32 (h4 : Int), .int .u32 (h5 : Int), .int .u32 (h6 : Int), .int .u32 (h7 : Int)] : List Value)[i]?) (first | assumption | (intro i; exact s0 i) | (intro i; show (wr.alloc _).cell? _ = _; rw [World.cell?_alloc_lt _ _ _ (by exact zw)]; exact s0 i)) (fail)
          have rk1 := (rk.alloc (.cells (u32s [h0, h1, h2, h3, h4, h5, h6, h7]).toArray 22 (0, 0))).drew
          have rw1 := (r3.alloc (.cells (u32s [h0, h1, h2, h3, h4, h5, h6, h7]).toArray 22 (0, 0))).drew
          have rv1 := (Row.new wr 22 (u32s [h0, h1, h2, h3, h4, h5, h6, h7])).drew
          have bl1 := (hbl.alloc hbl.size (.cells (u32s [h0, h1, h2, h3, h4, h5, h6, h7]).toArray 22 (0, 0))).drew
          clear s0 zw rk r3 hbl rh1
          go_wp2
          go_loopw [12, 13] (fun vv iv wx => ∃ gv j : Nat, j ≤ 64 ∧ iv = .int .i64 j ∧ vv = .slice (some ⟨gv, 0, none⟩) 8 8 ∧ Row wx w.heap.size 22 (u32s S.keys) ∧ Row wx gw 22 (u32s (S.sched b)) ∧ Row wx gv 22 (u32s (S.rnds S.keys (S.sched b) h j)) ∧ Below w.heap.size w wx) (fun _ iv _ => 64 - (intOf iv).toNat)
          case atStart => exact ⟨wr.heap.size, 0, Nat.zero_le _, rfl, rfl, rk1, rw1, by rw [hE]; exact rv1, bl1⟩
          case round =>
            clear rk1 rw1 rv1 bl1 hE
            obtain ⟨gv, j, hj, rfl, rfl, rk, rw, ra, hbl⟩ := hrel
            by_cases hlt : j < 64
            · have ov : S.Ok (S.rnds S.keys (S.sched b) h j) := S.rnds_ok oh j
              have HR : Hid (S.rnds S.keys (S.sched b) h (j + 1) = S.rnd (S.rnds S.keys (S.sched b) h j) (S.keys.getD j 0) ((S.sched b).getD j 0)) := rfl
              obtain ⟨v0, v1, v2, v3, v4, v5, v6, v7, hv⟩ := eight (S.rnds_length (ks := S.keys) (ws := S.sched b) HH.out j)
              rw [hv] at ra ov HR
              clear hv
              have ck := (rk.cell j).trans (u32s_at (by rw [S.keys_length]; exact hlt))
              have cw := (rw.cell j).trans (u32s_at (by rw [S.sched_length]; exact hlt))
              generalize S.keys.getD j 0 = kk at ck HR
              generalize (S.sched b).getD j 0 = x at cw HR
              have c0 : wr.cell? ⟨gv, 0, none⟩ = some (.int .u32 v0) := ra.cell 0
              have c1 : wr.cell? ⟨gv, 1, none⟩ = some (.int .u32 v1) := ra.cell 1
              have c2 : wr.cell? ⟨gv, 2, none⟩ = some (.int .u32 v2) := ra.cell 2
              have c3 : wr.cell? ⟨gv, 3, none⟩ = some (.int .u32 v3) := ra.cell 3
              have c4 : wr.cell? ⟨gv, 4, none⟩ = some (.int .u32 v4) := ra.cell 4
              have c5 : wr.cell? ⟨gv, 5, none⟩ = some (.int .u32 v5) := ra.cell 5
              have c6 : wr.cell? ⟨gv, 6, none⟩ = some (.int .u32 v6) := ra.cell 6
              have c7 : wr.cell? ⟨gv, 7, none⟩ = some (.int .u32 v7) := ra.cell 7
              have s0 : ∀ m i, (wr.drewN m).cell? ⟨gv, i, none⟩ = ([.int .u32 (v0 : Int), .int .u32 (v1 : Int), .int .u32 (v2 : Int), .int .u32 (v3 : Int), .int .u32 (v4 : Int), .int .u32 (v5 : Int), .int .u32 (v6 : Int), .int .u32 (v7 : Int)] : List Value)[i]? := fun m i => (ra.drewN m).cell i
              have zw : ∀ m, gv < (wr.drewN m).heap.size := fun m => (ra.drewN m).lt
              have S0 := Lib.hid s0
              have ZW := Lib.hid zw
              have o0 : v0 < 4294967296 := ov v0 (by simp)
              have o1 : v1 < 4294967296 := ov v1 (by simp)
              have o2 : v2 < 4294967296 := ov v2 (by simp)
              have o3 : v3 < 4294967296 := ov v3 (by simp)
              have o4 : v4 < 4294967296 := ov v4 (by simp)
              have o5 : v5 < 4294967296 := ov v5 (by simp)
              have o6 : v6 < 4294967296 := ov v6 (by simp)
              have bj : (j : Int) < 64 := by omega
              clear ov s0 zw
              go_wp2
              go_quiet (first | (go_at_call_of 23 (Value.int IntKind.i64 6); exact refRot0 (k := 6) rfl (by decide) (by decide) o4 _) | (go_at_call_of 23 (Value.int IntKind.i64 11); exact refRot0 (k := 11) rfl (by decide) (by decide) o4 _) | (go_at_call_of 23 (Value.int IntKind.i64 25); exact refRot0 (k := 25) rfl (by decide) (by decide) o4 _))
              go_wp2
              go_quiet (fail)
              go_wp2
              go_quiet (fail)
              go_wp2
              go_quiet (first | (go_at_call_of 23 (Value.int IntKind.i64 2); exact refRot (k := 2) rfl (by decide) (by decide) o0 _) | (go_at_call_of 23 (Value.int IntKind.i64 13); exact refRot (k := 13) rfl (by decide) (by decide) o0 _) | (go_at_call_of 23 (Value.int IntKind.i64 22); exact refRot (k := 22) rfl (by decide) (by decide) o0 _))
              go_wp2
              go_quiet (fail)
              go_wp2
              go_region_held3 (fun w' => ∀ i, w'.cell? ⟨gv, i, none⟩ = ([.int .u32 (v0 : Int), .int .u32 (v1 : Int), .int .u32 (v2 : Int), .int .u32 (v3 : Int), .int .u32 (v4 : Int), .int .u32 (v5 : Int), .int .u32 (v6 : Int), .int .u32 (v7 : Int)] : List Value)[i]?) (first | assumption | (intro i; (try simp only [World.drewN_drewN, World.cell?_drew]); exact S0.out _ i) | (intro i; (try simp only [World.drewN_drewN, World.cell?_drew]); rw [World.cell?_alloc_lt _ _ _ (by exact ZW.out _)]; exact S0.out _ i)) (fail)
              go_wp2
              go_roundw
              case rel =>
                rw [big_is v4 6 11 25 o4, ch_is v4 v5 v6 o4 o5 o6, big_is v0 2 13 22 o0, maj_is v0 v1 v2 o0 o1 o2, y0_is v0 v1 v2 v3 v4 v5 v6 v7 kk x, y4_is v0 v1 v2 v3 v4 v5 v6 v7 kk x]
                refine ⟨_, j + 1, by omega, by go_num, rfl, (rk.drewN _).alloc _, (rw.drewN _).alloc _, ?_, (below_drewM hbl _).alloc (below_drewM hbl _).size _⟩
                rw [HR.out]
                exact Row.new' rfl (by first | rfl | exact (drewN_size _ _).symm)
              case measure => simp [intOf]; omega
            · obtain rfl : j = 64 := by omega
              clear rk rw
              have lv : (S.rnds S.keys (S.sched b) h 64).length = 8 := S.rnds_length HH.out 64
              have HF := Lib.hid (sumOut_full h b)
              generalize S.rnds S.keys (S.sched b) h 64 = v at ra lv HF
              have LV := Lib.hid lv
              have rh1 : Row wr bh th (u32s h) := rh.below hbl hbw
              obtain ⟨go, hgo⟩ : ∃ go, go = wr.heap.size := ⟨_, rfl⟩
              have za : gv < go := by rw [hgo]; exact ra.lt
              have zo : w.heap.size ≤ go := by rw [hgo]; exact hbl.size
              have ro0 : Row (wr.alloc (.cells (u32s (List.replicate 8 0)).toArray 22 (0, 0))) go 22 (u32s (sumOut h v 0)) := Row.new' rfl hgo
              have ra0 := ra.alloc (.cells (u32s (List.replicate 8 0)).toArray 22 (0, 0))
              have rh0 := rh1.alloc (.cells (u32s (List.replicate 8 0)).toArray 22 (0, 0))
              have bl0 := hbl.alloc hbl.size (.cells (u32s (List.replicate 8 0)).toArray 22 (0, 0))
              clear lv
              go_wp2
              rw [← hgo]
              clear hgo ra rh1 hbl
              go_loopw [20] (fun iv wx => ∃ j : Nat, j ≤ 8 ∧ iv = .int .i64 j ∧ Row wx bh th (u32s h) ∧ Row wx gv 22 (u32s v) ∧ Row wx go 22 (u32s (sumOut h v j)) ∧ Below w.heap.size w wx) (fun iv _ => 8 - (intOf iv).toNat)
              case atStart => exact ⟨0, Nat.zero_le _, rfl, rh0, ra0, ro0, bl0⟩
              case round =>
                clear rh0 ra0 ro0 bl0
                obtain ⟨j, hj, rfl, rh2, ra, ro, hbl⟩ := hrel
                by_cases hlt : j < 8
                · have ch := (rh2.cell j).trans (u32s_at (by rw [HH.out]; exact hlt))
                  have cv := (ra.cell j).trans (u32s_at (by rw [LV.out]; exact hlt))
                  have fj := ro.frozen j
                  have co := (ro.cell j).trans (u32s_at (by rw [sumOut_length h v j hj]; exact hlt))
                  have bj : (j : Int) < 8 := by omega
                  have HS := Lib.hid (sumOut_step h v j hlt)
                  generalize (sumOut h v j).getD j 0 = o at co
                  generalize h.getD j 0 = a at ch HS
                  generalize v.getD j 0 = c at cv HS
                  go_wp2
                  go_region
                  go_wp2
                  go_roundw
                  case rel =>
                    have e : ((a : Int) + c) % 4294967296 = (((a + c) % 4294967296 : Nat) : Int) := by omega
                    rw [e]
                    refine ⟨j + 1, by omega, by go_num, (rh2.other (by omega) _).drew, (ra.other (by omega) _).drew, ?_, (hbl.setCell (by simp; omega) _).drew⟩
                    rw [← HS.out, ← u32s_set]
                    exact (ro.set j _).drew
                  case measure => simp [intOf]; omega
                · obtain rfl : j = 8 := by omega
                  rw [HF.out] at ro
                  go_wp2
                  go_ret
                  exact ⟨_, rfl, ro, hbl⟩

end Go.Proofs.Ytjkaignfomlflaa
