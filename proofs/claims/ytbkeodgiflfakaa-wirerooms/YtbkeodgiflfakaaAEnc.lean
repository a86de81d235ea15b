/-
  Layer 5: Encrypt.
-/
import Derived.Test.YtbkeodgiflfakaaAKeys
import Derived.Test.YtbkeodgiflfakaaAMix
import Derived.Test.YtbkeodgiflfakaaAShift
import Derived.Test.YtbkeodgiflfakaaABox
namespace Go.Proofs.Ytbkeodgiflfakaa
open Go.RowKit
set_option linter.unusedVariables false
set_option maxRecDepth 20000

theorem info16k {b : List UInt8} (h : b.length = 16) : (Try.prog.info? 53).map (·.size) = some (W.cellsOf b).toArray.size := by
  rw [List.size_toArray, c8_len, h]; kernel_rfl

set_option maxHeartbeats 4000000 in
theorem enc_any (k b : List UInt8) (hk : k.length = 16) (hb : b.length = 16) (w : World) :
    Calls Try.prog 64 #[.agg (W.cellsOf k).toArray, .agg (W.cellsOf b).toArray] w fun e w' => e = .returned (.agg (W.cellsOf (E.enc k b)).toArray) ∧ Below w.heap.size w w' := by
  have HK := Lib.hid hk
  have HB := Lib.hid hb
  clear hk hb
  obtain ⟨box, hbox⟩ : ∃ box, box = E.sbox := ⟨_, rfl⟩
  have HL : Hid (box.length = 256) := by rw [hbox]; exact E.sbox_length
  have CBX : Hid (∀ wx, Calls Try.prog 71 #[] wx fun e w' => e = .returned (.agg (W.cellsOf box).toArray) ∧ Below wx.heap.size wx w') := fun wx => by rw [hbox]; exact box_any wx
  have CKS : Hid (∀ wx, Calls Try.prog 72 #[.agg (W.cellsOf k).toArray, .agg (W.cellsOf box).toArray] wx fun e w' => e = .returned (.agg (W.cellsOf (E.rks k 11)).toArray) ∧ Below wx.heap.size wx w') := fun wx => by rw [hbox]; exact keys_any k HK.out wx
  have CSH : Hid (∀ x : List UInt8, x.length = 16 → ∀ wx, Calls Try.prog 75 #[.agg (W.cellsOf x).toArray, .agg (W.cellsOf box).toArray] wx fun e w' => e = .returned (.agg (W.cellsOf (E.shift x)).toArray) ∧ Below wx.heap.size wx w') := fun x hx wx => by rw [hbox]; exact shift_any x hx wx
  clear hbox
  have CMX : Hid (∀ x : List UInt8, x.length = 16 → ∀ wx, Calls Try.prog 74 #[.agg (W.cellsOf x).toArray] wx fun e w' => e = .returned (.agg (W.cellsOf (E.mix x)).toArray) ∧ Below wx.heap.size wx w') := fun x hx wx => mix_any x hx wx
  have COV : Hid (∀ x y : List UInt8, x.length = 16 → y.length = 16 → ∀ wx, Calls Try.prog 73 #[.agg (W.cellsOf x).toArray, .agg (W.cellsOf y).toArray] wx fun e w' => e = .returned (.agg (W.cellsOf (E.over x y)).toArray) ∧ Below wx.heap.size wx w') := fun x y hx hy wx => over_any x y hx hy wx
  have hikk := info16k HK.out
  have hik := info16 HK.out
  have hib := info16 HB.out
  have hibx := info256 HL.out
  have HRKS := Lib.hid (E.rks_length HK.out 11)
  have hiks := info176 HRKS.out
  have HO1 : Hid (Try.zeroCells114.size = (W.cellsOf box).toArray.size) := by
    have h1 : Try.zeroCells114.size = 256 := by kernel_rfl
    have h2 : (W.cellsOf box).toArray.size = 256 := by rw [List.size_toArray, c8_len, HL.out]
    exact h1.trans h2.symm
  have HO2 : Hid (Try.zeroCells116.size = (W.cellsOf (E.rks k 11)).toArray.size) := by
    have h1 : Try.zeroCells116.size = 176 := by kernel_rfl
    have h2 : (W.cellsOf (E.rks k 11)).toArray.size = 176 := by rw [List.size_toArray, c8_len, HRKS.out]
    exact h1.trans h2.symm
  have HP0 := Lib.hid (rks_part HK.out (i := 0) (by decide))
  go_enter Try.func64, Try.ntmps64
  go_wp2_with fail
  refine (CBX.out _).mono ?_
  rintro e w1 ⟨rfl, b1⟩
  have r0 : Row w1 w.heap.size 53 (W.cellsOf k) := Row.below (((Row.new w _ _).alloc _).alloc _) b1 (by simp; omega)
  have r1 : Row w1 (w.heap.size + 1) 51 (W.cellsOf b) := Row.below ((Row.new' rfl (by simp)).alloc _) b1 (by simp)
  have r2 : Row w1 (w.heap.size + 1 + 1) 51 (W.cellsOf (List.replicate 16 0)) := Row.below (Row.new' rfl (by simp)) b1 (by simp)
  have hz := b1.size
  simp at hz
  have hb1 : Below w.heap.size w w1 := ((((Below.refl _ _).alloc (Nat.le_refl _) _).alloc (by simp) _).alloc (by simp; omega) _).trans (b1.mono (by simp; omega))
  clear b1
  have r0a := r0.alloc (.cells (W.cellsOf box).toArray 114 (0, 0))
  have r3a : Row (w1.alloc (.cells (W.cellsOf box).toArray 114 (0, 0))) w1.heap.size 114 (W.cellsOf box) := Row.new' rfl rfl
  go_wp2_with (first | refine wpList_store_new rfl 114 (.tmp 5) (.tmp 8) rfl w1 _ _ _ _ rfl rfl rfl hibx HO1.out (c8_all _) ?_ | refine wpList_load_row rfl 51 (.tmp 9) rfl w.heap.size rfl _ _ _ _ r0a Try.underlying51 rfl hik ?_ | refine wpList_load_row rfl 114 (.tmp 5) rfl w1.heap.size rfl _ _ _ _ r3a Try.underlying114 rfl hibx ?_)
  refine (CKS.out _).mono ?_
  rintro e w2 ⟨rfl, b2⟩
  have p0 := Row.below r0a b2 (by have := r0.lt; simp; omega)
  have p1 := Row.below (r1.alloc (.cells (W.cellsOf box).toArray 114 (0, 0))) b2 (by have := r1.lt; simp; omega)
  have p2 := Row.below (r2.alloc (.cells (W.cellsOf box).toArray 114 (0, 0))) b2 (by have := r2.lt; simp; omega)
  have p3 := Row.below r3a b2 (by simp)
  have hz2 := b2.size
  simp at hz2
  have hb2 : Below w.heap.size w w2 := (hb1.alloc (by omega) _).trans (b2.mono (by simp; omega))
  generalize hg3 : w1.heap.size = g3 at *
  clear b2 r0 r1 r2 r0a r3a hb1 hg3
  clear w1
  have p1a := p1.alloc (.cells (W.cellsOf (E.rks k 11)).toArray 116 (0, 0))
  have p4a : Row (w2.alloc (.cells (W.cellsOf (E.rks k 11)).toArray 116 (0, 0))) w2.heap.size 116 (W.cellsOf (E.rks k 11)) := Row.new' rfl rfl
  have HR0 := Lib.hid (E.rk_length HK.out 0)
  have hrg : (w2.alloc (.cells (W.cellsOf (E.rks k 11)).toArray 116 (0, 0))).rangeAt w2.heap.size 0 (W.cellsOf (E.rk k 0)) := by
    have := p4a.rangeOf 0 16
    rw [c8_part, show 0 = 16 * 0 from rfl, HP0.out] at this; exact this
  have hir0 := info16' HR0.out
  go_wp2_with (first | refine wpList_store_new rfl 116 (.tmp 6) (.tmp 12) rfl w2 _ _ _ _ rfl rfl rfl hiks HO2.out (c8_all _) ?_ | refine wpList_load_row rfl 51 (.tmp 3) rfl (w.heap.size + 1) rfl _ _ _ _ p1a Try.underlying51 rfl hib ?_ | refine wpList_load_mid rfl 51 (.tmp 14) rfl w2.heap.size 0 rfl _ _ hrg Try.underlying51 rfl hir0 ?_)
  refine (COV.out b (E.rk k 0) HB.out HR0.out _).mono ?_
  rintro e w3 ⟨rfl, b3⟩
  have q1 := Row.below p1a b3 (by have := p1.lt; simp; omega)
  have q2 := Row.below (p2.alloc (.cells (W.cellsOf (E.rks k 11)).toArray 116 (0, 0))) b3 (by have := p2.lt; simp; omega)
  have q3 := Row.below (p3.alloc (.cells (W.cellsOf (E.rks k 11)).toArray 116 (0, 0))) b3 (by have := p3.lt; simp; omega)
  have q4 := Row.below p4a b3 (by simp)
  have hz3 : w.heap.size + 1 + 1 < g3 := by omega
  have hz4 : g3 < w2.heap.size := by omega
  have hb3 : Below w.heap.size w w3 := (hb2.alloc (by omega) _).trans (b3.mono (by simp; omega))
  generalize hg4 : w2.heap.size = g4 at *
  clear b3 p0 p1 p2 p3 p1a p4a hb2 hrg hz2 hz hg4
  clear w2
  have hs1 := info16 (E.over_length b (E.rk k 0))
  go_wp2_with (first | refine wpList_store_row rfl 51 (.tmp 3) (.tmp 16) rfl (w.heap.size + 1) _ rfl rfl _ _ q1 hs1 (by rw [List.size_toArray, List.size_toArray, c8_len, c8_len, HB.out, E.over_length]) (c8_all _) ?_)
  have v1 := q1.setRow (W.cellsOf (E.over b (E.rk k 0)))
  have v2 := q2.setRow_other (show w.heap.size + 1 + 1 ≠ w.heap.size + 1 by omega) (W.cellsOf (E.over b (E.rk k 0))).toArray
  have v3 := q3.setRow_other (show g3 ≠ w.heap.size + 1 by omega) (W.cellsOf (E.over b (E.rk k 0))).toArray
  have v4 := q4.setRow_other (show g4 ≠ w.heap.size + 1 by omega) (W.cellsOf (E.over b (E.rk k 0))).toArray
  have vb := below_row hb3 (show w.heap.size ≤ w.heap.size + 1 by omega) (W.cellsOf (E.over b (E.rk k 0))).toArray
  clear q1 q2 q3 q4 hb3 hs1 hikk hik hib hibx hiks hir0 CBX CKS HO1 HO2 HP0 HR0
  go_loopw [7] (fun iv wr => ∃ i : Nat, i ≤ 9 ∧ iv = .int .i64 ((i : Int) + 1) ∧ Row wr (w.heap.size + 1) 51 (W.cellsOf (E.st k b i)) ∧ Row wr (w.heap.size + 1 + 1) 51 (W.cellsOf (List.replicate 16 0)) ∧ Row wr g3 114 (W.cellsOf box) ∧ Row wr g4 116 (W.cellsOf (E.rks k 11)) ∧ Below w.heap.size w wr) (fun iv _ => 10 - (intOf iv).toNat)
  case atStart => exact ⟨0, Nat.zero_le _, rfl, v1, v2, v3, v4, vb⟩
  case round =>
    clear v1 v2 v3 v4 vb
    obtain ⟨i, hi, rfl, r1, r2, r3, r4, rb⟩ := hrel
    have hu1 : Try.prog.underlying 51 = some (.array 16 5) := Try.underlying51
    have hu2 : Try.prog.underlying 114 = some (.array 256 5) := Try.underlying114
    have hi2 := info256' HL.out
    have HSL := Lib.hid (E.st_length k b i)
    have HRL1 := Lib.hid (E.rk_length HK.out (i + 1))
    have hi3 := info16' HSL.out
    have hi4 := info16' HRL1.out
    have HP := Lib.hid (rks_part HK.out (i := i + 1) (by omega))
    have l1 : Hid (∀ wx, Row wx (w.heap.size + 1) 51 (W.cellsOf (E.st k b i)) → wx.rangeAt (w.heap.size + 1) 0 (W.cellsOf (E.st k b i))) := fun wx h => by have := h.rangeOf 0 16; rwa [List.drop_zero, List.take_of_length_le (by rw [c8_len, HSL.out]; decide)] at this
    have l3 : Hid (∀ wx, Row wx g3 114 (W.cellsOf box) → wx.rangeAt g3 0 (W.cellsOf box)) := fun wx h => by have := h.rangeOf 0 256; rwa [List.drop_zero, List.take_of_length_le (by rw [c8_len, HL.out]; decide)] at this
    have l4 : Hid (∀ wx, Row wx g4 116 (W.cellsOf (E.rks k 11)) → wx.rangeAt g4 ((i + 1) * 16) (W.cellsOf (E.rk k (i + 1)))) := fun wx h => by have := h.rangeOf ((i + 1) * 16) 16; rwa [c8_part, Nat.mul_comm (i + 1) 16, HP.out, Nat.mul_comm 16 (i + 1)] at this
    by_cases hlt : i < 9
    · have hs : (i : Int) + 1 < 10 := by omega
      have hs11 : (i : Int) + 1 < 11 := by omega
      have hn1 : ¬ ((i : Int) + 1 < 0) := by omega
      go_wp2_with fail
      refine wp_region_held_drew (S := fun w' => w'.rangeAt g3 0 (W.cellsOf box) ∧ w'.rangeAt g4 ((i + 1) * 16) (W.cellsOf (E.rk k (i + 1)))) (by kernel_rfl) ⟨l3.out _ r3, l4.out _ r4⟩ (fun hHeld => ?_)
      refine take_d 1 (some 22) (.agg (W.cellsOf box).toArray) rfl (by kernel_rfl) (by kernel_rfl) (by kernel_rfl) (fun _ _ _ h => h) (fun oi h => by cases h; exact yieldsIf_load_mid (by rfl) 114 (.tmp 5) rfl g3 0 rfl (W.cellsOf box) _ (fun w' hS' => hS'.1) hu2 rfl hi2) hHeld ?_
      try simp only [Act.put, List.setIfInBounds_toArray, List.set_cons_zero, List.set_cons_succ]
      refine take_d 4 (some 25) (.int .i64 ((i : Int) + 1)) rfl (by kernel_rfl) (by kernel_rfl) (by kernel_rfl) (fun _ _ _ h => h) (fun oi h => by cases h; exact Or.inl ⟨by rfl, fun w' hS' => by go_simp⟩) hHeld ?_
      try simp only [Act.put, List.setIfInBounds_toArray, List.set_cons_zero, List.set_cons_succ]
      refine take_d 5 (some 26) (.pointer (some ⟨g4, (i + 1) * 16, none⟩)) rfl (by kernel_rfl) (by kernel_rfl) (by kernel_rfl) (fun _ _ _ h => h) (fun oi h => by cases h; exact Or.inl ⟨by rfl, fun w' hS' => by go_simp⟩) hHeld ?_
      try simp only [Act.put, List.setIfInBounds_toArray, List.set_cons_zero, List.set_cons_succ]
      refine take_d 6 (some 27) (.agg (W.cellsOf (E.rk k (i + 1))).toArray) rfl (by kernel_rfl) (by kernel_rfl) (by kernel_rfl) (fun _ _ _ h => h) (fun oi h => by cases h; exact yieldsIf_load_mid (by rfl) 51 (.tmp 26) rfl g4 ((i + 1) * 16) rfl (W.cellsOf (E.rk k (i + 1))) _ (fun w' hS' => hS'.2) hu1 rfl hi4) hHeld ?_
      try simp only [Act.put, List.setIfInBounds_toArray, List.set_cons_zero, List.set_cons_succ]
      refine one_d 0 (some 21) rfl (by kernel_rfl) ?_
      intro o ho hd K hK
      cases ho
      rw [if_pos (by rfl)]
      refine wp_load_mid 51 (.tmp 3) rfl (w.heap.size + 1) 0 rfl (W.cellsOf (E.st k b i)) _ (l1.out _ r1) hu1 rfl hi3 ?_
      refine hK.out _ _ hHeld (fun hHeld => ?_)
      clear hK K
      try simp only [Act.put, List.setIfInBounds_toArray]
      have d1 := r1.drew
      have d2 := r2.drew
      have d3 := r3.drew
      have d4 := r4.drew
      have db := rb.drew
      clear r1 r2 r3 r4 rb
      refine one_d 2 (some 23) rfl (by kernel_rfl) ?_
      intro o ho hd K hK
      cases ho
      go_simp
      refine (CSH.out _ HSL.out _).mono ?_
      rintro e wA ⟨rfl, bb⟩
      have e1 := Row.below d1 bb d1.lt
      have e2 := Row.below d2 bb d2.lt
      have e3 := Row.below d3 bb d3.lt
      have e4 := Row.below d4 bb d4.lt
      have eb := db.trans (bb.mono db.size)
      clear bb hHeld hd d1 d2 d3 d4 db
      refine hK.out _ _ ⟨l3.out _ e3, l4.out _ e4⟩ (fun hHeld => ?_)
      clear hK K
      try simp only [Act.put, List.setIfInBounds_toArray, List.set_cons_zero, List.set_cons_succ]
      refine one_d 3 (some 24) rfl (by kernel_rfl) ?_
      intro o ho hd K hK
      cases ho
      go_simp
      refine (CMX.out _ (E.shift_length _) _).mono ?_
      rintro e wB ⟨rfl, bb⟩
      have f1 := Row.below e1 bb e1.lt
      have f2 := Row.below e2 bb e2.lt
      have f3 := Row.below e3 bb e3.lt
      have f4 := Row.below e4 bb e4.lt
      have fb := eb.trans (bb.mono eb.size)
      clear bb hHeld hd e1 e2 e3 e4 eb
      refine hK.out _ _ ⟨l3.out _ f3, l4.out _ f4⟩ (fun hHeld => ?_)
      clear hK K
      try simp only [Act.put, List.setIfInBounds_toArray, List.set_cons_zero, List.set_cons_succ]
      refine one_d 7 (some 28) rfl (by kernel_rfl) ?_
      intro o ho hd K hK
      cases ho
      go_simp
      refine (COV.out _ _ (E.mix_length _) HRL1.out _).mono ?_
      rintro e wC ⟨rfl, bb⟩
      have s1 := Row.below f1 bb f1.lt
      have s2 := Row.below f2 bb f2.lt
      have s3 := Row.below f3 bb f3.lt
      have s4 := Row.below f4 bb f4.lt
      have sb := fb.trans (bb.mono fb.size)
      clear bb hHeld hd f1 f2 f3 f4 fb
      refine hK.out _ _ ⟨l3.out _ s3, l4.out _ s4⟩ (fun hHeld => ?_)
      clear hK K
      try simp only [Act.put, List.setIfInBounds_toArray, List.set_cons_zero, List.set_cons_succ]
      refine one_d 8 none rfl (by kernel_rfl) ?_
      intro o ho hd K hK
      cases ho
      have HT : Hid (wC.there (w.heap.size + 1) 0 (W.cellsOf (E.over (E.mix (E.shift (E.st k b i))) (E.rk k (i + 1)))).toArray.size) := by
        have := s1.there (o := 0) (n := 16) (by rw [c8_len, HSL.out]; decide)
        have e : (W.cellsOf (E.over (E.mix (E.shift (E.st k b i))) (E.rk k (i + 1)))).toArray.size = 16 := by rw [List.size_toArray, c8_len, E.over_length]
        rw [← e] at this; exact this
      rw [if_pos (by rfl)]
      refine wp_store_mid 51 (.tmp 3) (.tmp 28) rfl (w.heap.size + 1) 0 (W.cellsOf (E.over (E.mix (E.shift (E.st k b i))) (E.rk k (i + 1)))).toArray rfl rfl HT.out (info16 (E.over_length _ _)) (c8_all _) ?_
      have v1 := Row.setCells (W.cellsOf (E.over (E.mix (E.shift (E.st k b i))) (E.rk k (i + 1)))) 0 _ _ s1 (by rw [c8_len, c8_len, HSL.out, E.over_length]; decide)
      rw [splice_whole (by rw [c8_len, c8_len, HSL.out, E.over_length])] at v1
      have v2 := Row.setCells_other (show w.heap.size + 1 + 1 ≠ w.heap.size + 1 by omega) (W.cellsOf (E.over (E.mix (E.shift (E.st k b i))) (E.rk k (i + 1)))) 0 _ _ s2
      have v3 := Row.setCells_other (show g3 ≠ w.heap.size + 1 by omega) (W.cellsOf (E.over (E.mix (E.shift (E.st k b i))) (E.rk k (i + 1)))) 0 _ _ s3
      have v4 := Row.setCells_other (show g4 ≠ w.heap.size + 1 by omega) (W.cellsOf (E.over (E.mix (E.shift (E.st k b i))) (E.rk k (i + 1)))) 0 _ _ s4
      have vb := below_setCells (show w.heap.size ≤ w.heap.size + 1 by omega) (W.cellsOf (E.over (E.mix (E.shift (E.st k b i))) (E.rk k (i + 1)))) 0 _ sb
      refine hK.out _ _ ⟨l3.out _ v3, l4.out _ v4⟩ (fun hHeld => ?_)
      clear hK K hHeld HT s1 s2 s3 s4 sb l1 l3 l4 hu1 hu2 hi2 hi3 hi4
      refine wpAnyH_done (by kernel_rfl) ?_ _
      try simp only [Act.put]
      have HSI : Hid (E.over (E.mix (E.shift (E.st k b i))) (E.rk k (i + 1)) = E.st k b (i + 1)) := rfl
      generalize wC.setCells (w.heap.size + 1) 0 (W.cellsOf (E.over (E.mix (E.shift (E.st k b i))) (E.rk k (i + 1)))) = wD at *
      rw [HSI.out] at v1
      go_wp2
      go_roundw
      case rel => exact ⟨i + 1, by omega, by go_num, v1, v2, v3, v4, vb⟩
      case measure => simp [intOf]; omega
    · obtain rfl : i = 9 := by omega
      go_wp2_with fail
      refine wp_region_held_drew (S := fun w' => w'.rangeAt g3 0 (W.cellsOf box) ∧ w'.rangeAt g4 ((9 + 1) * 16) (W.cellsOf (E.rk k (9 + 1)))) (by kernel_rfl) ⟨l3.out _ r3, l4.out _ r4⟩ (fun hHeld => ?_)
      refine take_d 1 (some 30) (.agg (W.cellsOf box).toArray) rfl (by kernel_rfl) (by kernel_rfl) (by kernel_rfl) (fun _ _ _ h => h) (fun oi h => by cases h; exact yieldsIf_load_mid (by rfl) 114 (.tmp 5) rfl g3 0 rfl (W.cellsOf box) _ (fun w' hS' => hS'.1) hu2 rfl hi2) hHeld ?_
      try simp only [Act.put, List.setIfInBounds_toArray, List.set_cons_zero, List.set_cons_succ]
      refine take_d 3 (some 32) (.pointer (some ⟨g4, (9 + 1) * 16, none⟩)) rfl (by kernel_rfl) (by kernel_rfl) (by kernel_rfl) (fun _ _ _ h => h) (fun oi h => by cases h; exact Or.inl ⟨by rfl, fun w' hS' => by go_simp⟩) hHeld ?_
      try simp only [Act.put, List.setIfInBounds_toArray, List.set_cons_zero, List.set_cons_succ]
      refine take_d 4 (some 33) (.agg (W.cellsOf (E.rk k (9 + 1))).toArray) rfl (by kernel_rfl) (by kernel_rfl) (by kernel_rfl) (fun _ _ _ h => h) (fun oi h => by cases h; exact yieldsIf_load_mid (by rfl) 51 (.tmp 32) rfl g4 ((9 + 1) * 16) rfl (W.cellsOf (E.rk k (9 + 1))) _ (fun w' hS' => hS'.2) hu1 rfl hi4) hHeld ?_
      try simp only [Act.put, List.setIfInBounds_toArray, List.set_cons_zero, List.set_cons_succ]
      refine one_d 0 (some 29) rfl (by kernel_rfl) ?_
      intro o ho hd K hK
      cases ho
      rw [if_pos (by rfl)]
      refine wp_load_mid 51 (.tmp 3) rfl (w.heap.size + 1) 0 rfl (W.cellsOf (E.st k b 9)) _ (l1.out _ r1) hu1 rfl hi3 ?_
      refine hK.out _ _ hHeld (fun hHeld => ?_)
      clear hK K
      try simp only [Act.put, List.setIfInBounds_toArray]
      have d1 := r1.drew
      have d2 := r2.drew
      have d3 := r3.drew
      have d4 := r4.drew
      have db := rb.drew
      clear r1 r2 r3 r4 rb
      refine one_d 2 (some 31) rfl (by kernel_rfl) ?_
      intro o ho hd K hK
      cases ho
      go_simp
      refine (CSH.out _ HSL.out _).mono ?_
      rintro e wA ⟨rfl, bb⟩
      have e1 := Row.below d1 bb d1.lt
      have e2 := Row.below d2 bb d2.lt
      have e3 := Row.below d3 bb d3.lt
      have e4 := Row.below d4 bb d4.lt
      have eb := db.trans (bb.mono db.size)
      clear bb hHeld hd d1 d2 d3 d4 db
      refine hK.out _ _ ⟨l3.out _ e3, l4.out _ e4⟩ (fun hHeld => ?_)
      clear hK K
      try simp only [Act.put, List.setIfInBounds_toArray, List.set_cons_zero, List.set_cons_succ]
      refine one_d 5 (some 34) rfl (by kernel_rfl) ?_
      intro o ho hd K hK
      cases ho
      go_simp
      refine (COV.out _ _ (E.shift_length _) HRL1.out _).mono ?_
      rintro e wC ⟨rfl, bb⟩
      have s1 := Row.below e1 bb e1.lt
      have s2 := Row.below e2 bb e2.lt
      have s3 := Row.below e3 bb e3.lt
      have s4 := Row.below e4 bb e4.lt
      have sb := eb.trans (bb.mono eb.size)
      clear bb hHeld hd e1 e2 e3 e4 eb
      refine hK.out _ _ ⟨l3.out _ s3, l4.out _ s4⟩ (fun hHeld => ?_)
      clear hK K
      try simp only [Act.put, List.setIfInBounds_toArray, List.set_cons_zero, List.set_cons_succ]
      refine one_d 6 none rfl (by kernel_rfl) ?_
      intro o ho hd K hK
      cases ho
      have HT : Hid (wC.there (w.heap.size + 1 + 1) 0 (W.cellsOf (E.over (E.shift (E.st k b 9)) (E.rk k (9 + 1)))).toArray.size) := by
        have := s2.there (o := 0) (n := 16) (by rw [c8_len]; decide)
        have e : (W.cellsOf (E.over (E.shift (E.st k b 9)) (E.rk k (9 + 1)))).toArray.size = 16 := by rw [List.size_toArray, c8_len, E.over_length]
        rw [← e] at this; exact this
      rw [if_pos (by rfl)]
      refine wp_store_mid 51 (.tmp 4) (.tmp 34) rfl (w.heap.size + 1 + 1) 0 (W.cellsOf (E.over (E.shift (E.st k b 9)) (E.rk k (9 + 1)))).toArray rfl rfl HT.out (info16 (E.over_length _ _)) (c8_all _) ?_
      have v2 := Row.setCells (W.cellsOf (E.over (E.shift (E.st k b 9)) (E.rk k (9 + 1)))) 0 _ _ s2 (by rw [c8_len, c8_len, E.over_length]; decide)
      rw [splice_whole (by rw [c8_len, c8_len, E.over_length]; rfl)] at v2
      have v3 := Row.setCells_other (show g3 ≠ w.heap.size + 1 + 1 by omega) (W.cellsOf (E.over (E.shift (E.st k b 9)) (E.rk k (9 + 1)))) 0 _ _ s3
      have v4 := Row.setCells_other (show g4 ≠ w.heap.size + 1 + 1 by omega) (W.cellsOf (E.over (E.shift (E.st k b 9)) (E.rk k (9 + 1)))) 0 _ _ s4
      have vb := below_setCells (show w.heap.size ≤ w.heap.size + 1 + 1 by omega) (W.cellsOf (E.over (E.shift (E.st k b 9)) (E.rk k (9 + 1)))) 0 _ sb
      refine hK.out _ _ ⟨l3.out _ v3, l4.out _ v4⟩ (fun hHeld => ?_)
      clear hK K hHeld HT s1 s2 s3 s4 sb l1 l3 l4 hu1 hu2 hi2 hi3 hi4
      refine wpAnyH_done (by kernel_rfl) ?_ _
      try simp only [Act.put]
      have HSI : Hid (E.over (E.shift (E.st k b 9)) (E.rk k (9 + 1)) = E.enc k b) := rfl
      generalize wC.setCells (w.heap.size + 1 + 1) 0 (W.cellsOf (E.over (E.shift (E.st k b 9)) (E.rk k (9 + 1)))) = wD at *
      rw [HSI.out] at v2
      have hiE := info16 (E.enc_length k b)
      go_wp2_with fail
      exact bodyPost_ret (results_cell_row rfl _ _ (w.heap.size + 1 + 1) _ _ _ _ rfl v2 Try.underlying51 rfl hiE) rfl ⟨rfl, vb⟩

end Go.Proofs.Ytbkeodgiflfakaa
