/-
  Layer 5: mixed.
-/
import Derived.Test.YtbkeodgiflfakaaARows
import Derived.Deep.RegionHeld3
import Derived.Deep.RegionLaw
import Derived.Laws.CopyOwn
namespace Go.Proofs.Ytbkeodgiflfakaa
open Go.RowKit
set_option linter.unusedVariables false
set_option maxRecDepth 20000

set_option maxHeartbeats 400000 in
theorem below_any (x : List UInt8) (hx : x.length = 4) (g r k : Nat) (hr : r < 4) (hk : k < 4) (w : World) (hw : Row w g 131 (W.cellsOf x)) :
    Calls Try.prog 89 #[.int .i64 (r : Int), .int .i64 (k : Int), .pointer (some ⟨g, 0, none⟩)] w fun e w' => e = .returned (.int .u8 ((x.getD ((r + k) % 4) 0).toNat : Int)) ∧ w' = w := by
  have hm : (r + k) % 4 < 4 := Nat.mod_lt _ (by decide)
  have c := (hw.cell ((r + k) % 4)).trans (c8_at (by rw [hx]; exact hm))
  generalize x.getD ((r + k) % 4) 0 = v at *
  have hq : ((r : Int) + k) % 4 = (((r + k) % 4 : Nat) : Int) := by omega
  generalize (r + k) % 4 = q at *
  go_enter Try.func89, Try.ntmps89
  go_wp2
  go_ret
  exact ⟨rfl, rfl⟩

theorem Row.srcAt {w : World} {g t o : Nat} {l cs : List Value} (h : Row w g t l) (hcs : ∀ (j : Nat) v, cs[j]? = some v → l[o + j]? = some v) : ∀ (j : Nat) v, cs[j]? = some v → w.cell? ((⟨g, o, none⟩ : Addr).add j) = some v := by
  intro j v hj
  have e : (⟨g, o, none⟩ : Addr).add j = ⟨g, o + j, none⟩ := by unfold Addr.add; split <;> simp_all
  rw [e, h.cell]; exact hcs j v hj

theorem splice_whole {cur cs : List Value} (h : cs.length = cur.length) : splice cur 0 cs = cs := by simp [splice, h]

theorem mix_at (b : List UInt8) (j r : Nat) (hj : j < 4) (hr : r < 4) (hb : b.length = 16) :
    (E.mix b).getD (4 * j + r) 0 = E.mix1 (((b.drop (4 * j)).take 4).getD ((r + 0) % 4) 0) (((b.drop (4 * j)).take 4).getD ((r + 1) % 4) 0) (((b.drop (4 * j)).take 4).getD ((r + 2) % 4) 0) (((b.drop (4 * j)).take 4).getD ((r + 3) % 4) 0) := by
  have h (i : Nat) : ((b.drop (4 * j)).take 4).getD (i % 4) 0 = b.getD (4 * j + i % 4) 0 := by
    have : i % 4 < 4 := Nat.mod_lt _ (by decide)
    simp [List.getD_eq_getElem?_getD, this]
  rw [h, h, h, h]
  have h1 : (4 * j + r) / 4 * 4 = 4 * j := by omega
  have h2 : (4 * j + r) % 4 = r := by omega
  simp only [E.mix, List.getD_eq_getElem?_getD, List.getElem?_map]
  rw [List.getElem?_range (by omega)]
  simp only [Option.map_some, Option.getD_some]
  rw [h1, h2, show (r + 0) % 4 = r from by omega]

set_option maxHeartbeats 2000000 in
theorem mix_any (b : List UInt8) (hb : b.length = 16) (w : World) :
    Calls Try.prog 74 #[.agg (W.cellsOf b).toArray] w fun e w' => e = .returned (.agg (W.cellsOf (E.mix b)).toArray) ∧ Below w.heap.size w w' := by
  have HB := Lib.hid hb
  clear hb
  have hF : (E.mix b).length = b.length := by rw [E.mix_length, HB.out]
  have HFull := Lib.hid (E.fill_full (E.mix_length b) HB.out)
  have HF := Lib.hid hF
  clear hF
  go_enter Try.func74, Try.ntmps74
  go_wp2
  go_loopw [3, 4, 5, 6, 7, 8] (fun av _ _ _ _ _ wr => ∃ j : Nat, j ≤ 4 ∧ av = .int .i64 ((4 * j : Nat) : Int) ∧ Row wr w.heap.size 51 (W.cellsOf (E.fill (E.mix b) b (4 * j))) ∧ Row wr (w.heap.size + 1) 51 (W.cellsOf (List.replicate 16 0)) ∧ Below w.heap.size w wr) (fun av _ _ _ _ _ _ => 16 - (intOf av).toNat)
  case atStart =>
    refine ⟨0, Nat.zero_le _, rfl, ?_, ?_, ?_⟩
    · rw [show 4 * 0 = 0 from rfl, E.fill_zero]; exact (Row.new w _ _).alloc _
    · exact Row.new' rfl (by simp)
    · exact ((Below.refl _ _).alloc (Nat.le_refl _) _).alloc (by simp) _
  case round =>
    obtain ⟨j, hj, rfl, r0, r1, hbl⟩ := hrel
    by_cases hlt : j < 4
    · have hs : ((4 * j : Nat) : Int) < 16 := by omega
      generalize hat : 4 * j = p at *
      have hs' : (p : Int) ≤ 16 := by omega
      have hne : ¬ 16 = p := by omega
      have hp16 : p + 4 ≤ 16 := by omega
      have hxl : ((b.drop p).take 4).length = 4 := by simp [HB.out]; omega
      have HX := Lib.hid hxl
      have HSL : Hid (∀ (j : Nat) v, (W.cellsOf ((b.drop p).take 4))[j]? = some v → (W.cellsOf (E.fill (E.mix b) b p))[p + j]? = some v) := by
        intro j v hj
        have hl : ((E.mix b).take p).length = p := by rw [List.length_take, E.mix_length]; omega
        have hj4 : j < 4 := by
          have := (List.getElem?_eq_some_iff.1 hj).1
          rw [c8_len, hxl] at this; exact this
        simp only [W.cellsOf, List.getElem?_map, List.getElem?_take, hj4, if_true, List.getElem?_drop] at hj ⊢
        unfold E.fill
        rw [List.getElem?_append_right (by omega), hl, List.getElem?_drop, show p + (p + j - p) = p + j from by omega]
        exact hj
      have HM : Hid (∀ r, r < 4 → (E.mix b).getD (p + r) 0 = E.mix1 (((b.drop p).take 4).getD ((r + 0) % 4) 0) (((b.drop p).take 4).getD ((r + 1) % 4) 0) (((b.drop p).take 4).getD ((r + 2) % 4) 0) (((b.drop p).take 4).getD ((r + 3) % 4) 0)) := fun r hr => by
        rw [← hat]; exact mix_at b j r hlt hr HB.out
      have HN : Hid ((W.cellsOf ((b.drop p).take 4)).length = Nat.min (16 - p) 4) := by
        rw [c8_len, hxl]; show 4 = min (16 - p) 4; omega
      have HF4 : Hid (0 + (W.cellsOf ((b.drop p).take 4)).length ≤ (W.cellsOf (List.replicate 4 0)).length) := by rw [c8_len, hxl, c8_len]; show 0 + 4 ≤ 4; omega
      have HSP : Hid (splice (W.cellsOf (List.replicate 4 0)) 0 (W.cellsOf ((b.drop p).take 4)) = W.cellsOf ((b.drop p).take 4)) := by
        exact splice_whole (by rw [c8_len, c8_len, hxl]; rfl)
      have HAT := Lib.hid hat
      clear hat hxl hj
      go_wp2
      go_region_law (refine step_copy_splice rfl (.tmp 13) (.tmp 15) 78 78 rfl 5 Try.underlying78 (by kernel_rfl) _ _ _ _ _ _ rfl rfl wr.heap.size 0 _ 131 (Row.new' (l := W.cellsOf (List.replicate 4 0)) rfl rfl).drew (W.cellsOf ((b.drop p).take 4)) HN.out (fun _ => ⟨rfl, _, rfl, (Row.drew (r0.alloc _)).srcAt HSL.out⟩) HF4.out (c8_one _) wr.heap.size _ (Below.refl _ _) (Nat.le_refl _) ?_; intro w2 hg2 hb5)
      have s3 : Row w2 wr.heap.size 131 (W.cellsOf ((b.drop p).take 4)) := by have := hg2.out; rw [HSP.out] at this; exact this
      have s0 := Row.below (Row.drew (r0.alloc (Obj.cells #[Value.int .u8 0, Value.int .u8 0, Value.int .u8 0, Value.int .u8 0] 131 (0, 0)))) hb5 r0.lt
      have s1 := Row.below (Row.drew (r1.alloc (Obj.cells #[Value.int .u8 0, Value.int .u8 0, Value.int .u8 0, Value.int .u8 0] 131 (0, 0)))) hb5 r1.lt
      have hbz : w.heap.size + 1 < wr.heap.size := r1.lt
      have sb : Below w.heap.size w w2 := ((hbl.alloc (by omega) _).drew).trans (hb5.mono (by omega))
      clear hg2 hb5 r0 r1 hbl HN HF4 HSP HSL
      generalize (b.drop p).take 4 = x at *
      generalize hgc : wr.heap.size = gc at *
      clear hgc
      clear wr
      go_wp2
      go_loopw [6, 7, 8, 18] (fun _ _ _ iv wy => ∃ r : Nat, r ≤ 4 ∧ iv = .int .i64 r ∧ Row wy w.heap.size 51 (W.cellsOf (E.fill (E.mix b) b (p + r))) ∧ Row wy (w.heap.size + 1) 51 (W.cellsOf (List.replicate 16 0)) ∧ Row wy gc 131 (W.cellsOf x) ∧ Below w.heap.size w wy) (fun _ _ _ iv _ => 4 - (intOf iv).toNat)
      case atStart => exact ⟨0, Nat.zero_le _, rfl, s0, s1, s3, sb⟩
      case round =>
        clear s0 s1 s3 sb
        obtain ⟨r, hr, rfl, r0, r1, r3, hbl⟩ := hrel
        by_cases hlt4 : r < 4
        · have hlen : p + r < b.length := by rw [HB.out]; omega
          have c0 := (r0.cell (p + r)).trans (c8_at (by rw [E.fill_length HF.out]; exact hlen))
          have f0 := r0.frozen (p + r)
          have HMr := HM.out r hlt4
          have C0 : Hid (∀ wx, Row wx gc 131 (W.cellsOf x) → Calls Try.prog 89 #[.int .i64 (r : Int), .int .i64 0, .pointer (some ⟨gc, 0, none⟩)] wx fun e w' => e = .returned (.int .u8 ((x.getD ((r + 0) % 4) 0).toNat : Int)) ∧ w' = wx) := fun wx h => below_any x HX.out gc r 0 hlt4 (by decide) wx h
          have C1 : Hid (∀ wx, Row wx gc 131 (W.cellsOf x) → Calls Try.prog 89 #[.int .i64 (r : Int), .int .i64 1, .pointer (some ⟨gc, 0, none⟩)] wx fun e w' => e = .returned (.int .u8 ((x.getD ((r + 1) % 4) 0).toNat : Int)) ∧ w' = wx) := fun wx h => below_any x HX.out gc r 1 hlt4 (by decide) wx h
          have C2 : Hid (∀ wx, Row wx gc 131 (W.cellsOf x) → Calls Try.prog 89 #[.int .i64 (r : Int), .int .i64 2, .pointer (some ⟨gc, 0, none⟩)] wx fun e w' => e = .returned (.int .u8 ((x.getD ((r + 2) % 4) 0).toNat : Int)) ∧ w' = wx) := fun wx h => below_any x HX.out gc r 2 hlt4 (by decide) wx h
          have C3 : Hid (∀ wx, Row wx gc 131 (W.cellsOf x) → Calls Try.prog 89 #[.int .i64 (r : Int), .int .i64 3, .pointer (some ⟨gc, 0, none⟩)] wx fun e w' => e = .returned (.int .u8 ((x.getD ((r + 3) % 4) 0).toNat : Int)) ∧ w' = wx) := fun wx h => below_any x HX.out gc r 3 hlt4 (by decide) wx h
          have K0 : Hid (∀ wx, Row wx w.heap.size 51 (W.cellsOf (E.fill (E.mix b) b (p + r))) → Row (wx.setCell ⟨w.heap.size, p + r, none⟩ (.int .u8 (((E.mix b).getD (p + r) 0).toNat : Int))) w.heap.size 51 (W.cellsOf (E.fill (E.mix b) b (p + (r + 1))))) := fun wx h0 => by
            have := h0.set (p + r) (.int .u8 (((E.mix b).getD (p + r) 0).toNat : Int))
            rwa [c8_set, E.fill_step HF.out hlen] at this
          generalize x.getD ((r + 0) % 4) 0 = v0 at *
          generalize x.getD ((r + 1) % 4) 0 = v1 at *
          generalize x.getD ((r + 2) % 4) 0 = v2 at *
          generalize x.getD ((r + 3) % 4) 0 = v3 at *
          have x1 := xor8 (E.dbl v0) (E.dbl v1)
          have x2 := xor8 (E.dbl v0 ^^^ E.dbl v1) v1
          have x3 := xor8 (E.dbl v0 ^^^ E.dbl v1 ^^^ v1) v2
          have x4 := xor8 (E.dbl v0 ^^^ E.dbl v1 ^^^ v1 ^^^ v2) v3
          rw [show E.dbl v0 ^^^ E.dbl v1 ^^^ v1 ^^^ v2 ^^^ v3 = (E.mix b).getD (p + r) 0 from HMr.symm] at x4
          generalize E.dbl v0 ^^^ E.dbl v1 ^^^ v1 ^^^ v2 = y3 at *
          generalize E.dbl v0 ^^^ E.dbl v1 ^^^ v1 = y2 at *
          generalize E.dbl v0 ^^^ E.dbl v1 = y1 at *
          clear HMr
          generalize (E.mix b).getD (p + r) 0 = z at *
          have hs4 : (r : Int) < 4 := by omega
          have hpr : (p : Int) + r = ((p + r : Nat) : Int) := by omega
          have hp20 : p + r < 16 := by omega
          generalize hq : p + r = q at *
          have HQ := Lib.hid hq
          clear hq
          go_wp2_with fail
          refine (C0.out _ r3).mono ?_
          rintro e w1 ⟨rfl, rfl⟩
          go_wp2_with fail
          refine (C1.out _ r3).mono ?_
          rintro e w1 ⟨rfl, rfl⟩
          go_wp2_with fail
          refine (double_any v0 _).mono ?_
          rintro e w1 ⟨rfl, rfl⟩
          go_wp2_with fail
          refine (double_any v1 _).mono ?_
          rintro e w1 ⟨rfl, rfl⟩
          go_wp2_with fail
          refine (C2.out _ r3).mono ?_
          rintro e w1 ⟨rfl, rfl⟩
          go_wp2_with fail
          refine (C3.out _ r3).mono ?_
          rintro e w1 ⟨rfl, rfl⟩
          go_wp2
          go_roundw
          case rel => exact ⟨r + 1, by omega, by go_num, K0.out _ r0, r1.other (by omega) _, r3.other (by omega) _, hbl.setCell (by simp) _⟩
          case measure => simp [intOf]; omega
        · obtain rfl : r = 4 := by omega
          go_wp2
          go_roundw
          case rel =>
            refine ⟨j + 1, by omega, ?_, ?_, r1, hbl⟩
            · have := HAT.out; go_num
            · rw [show 4 * (j + 1) = p + 4 from by have := HAT.out; omega]; exact r0
          case measure => simp [intOf]; omega
    · obtain rfl : j = 4 := by omega
      rw [show 4 * 4 = 16 from rfl, HFull.out] at r0
      have hi := info16 (E.mix_length b)
      go_wp2_with (first | refine wpList_load_row rfl 51 _ rfl w.heap.size rfl _ _ _ _ r0 Try.underlying51 rfl hi ?_ | refine wpList_store_row rfl 51 (.tmp 2) (.tmp 47) rfl (w.heap.size + 1) _ rfl rfl _ _ r1 hi (by simp [c8_len, E.mix_length]) (c8_all _) ?_)
      exact bodyPost_ret (results_cell_row rfl _ _ (w.heap.size + 1) _ _ _ _ rfl (r1.setRow (W.cellsOf (E.mix b))) Try.underlying51 rfl hi) rfl ⟨rfl, below_row hbl (by omega) _⟩

end Go.Proofs.Ytbkeodgiflfakaa
