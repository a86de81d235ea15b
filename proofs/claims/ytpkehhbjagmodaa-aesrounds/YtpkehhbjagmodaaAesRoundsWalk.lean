/-
  Layer 5: the walk of AesRounds: it answers true at every key.
-/
import Derived.Test.YtpkehhbjagmodaaAAwake
import Derived.Test.YtpkehhbjagmodaaALaws
import Derived.Test.YtpkehhbjagmodaaAConv
import Derived.OpenShut
namespace Go.Proofs.Ytpkehhbjagmodaa.AesRoundsW
open Go.RowKit
set_option linter.unusedVariables false

set_option maxHeartbeats 4000000 in
theorem core (a0 : ByteArray) (w : World) (w0 : a0.size ≤ maxLen) :
    Calls Try.prog 6 #[.string a0] w fun e w' => e = .returned (.bool true) ∧ Below w.heap.size w w' := by
  unfold maxLen at w0
  go_enter Try.func6, Try.ntmps6
  go_wp2_with fail
  refine (awake5_any _).mono ?_
  rintro e w1 ⟨rfl, hb1⟩
  by_cases hL : a0.size = 16
  case neg =>
    have hn : ¬ ((a0.size : Int) = 16) := by omega
    go_wp2
    go_ret
    exact ⟨rfl, hb1⟩
  case pos =>
  have hn : (a0.size : Int) = 16 := by omega
  have CN : Hid (∀ wx, Calls Try.prog 12 #[.string a0] wx fun e w' => e = .returned (.tuple #[.agg (W.cellsOf a0.data.toList).toArray, .int .i64 0]) ∧ Below wx.heap.size wx w') := fun wx => new_yes a0 hL wx
  have HK : Hid (a0.data.toList.length = 16) := by simpa [Hid] using hL
  have HCV : Hid (∀ wx, ∃ cap wc, (convert 9 30 (.string a0)).run Try.prog wx = .ok (.slice (some ⟨wx.heap.size, 0, none⟩) 16 cap) wc ∧ 16 ≤ cap ∧ wc.rangeAt wx.heap.size 0 (W.cellsOf a0.data.toList) ∧ Below wx.heap.size wx wc) := fun wx => conv16 a0 hL wx
  obtain ⟨k, hk⟩ : ∃ k, k = a0.data.toList := ⟨_, rfl⟩
  rw [← hk] at CN HK HCV
  have HKE := Lib.hid hk
  clear hk
  obtain ⟨box, hbox⟩ : ∃ box, box = E.sbox := ⟨_, rfl⟩
  have HBX := Lib.hid hbox
  have HL : Hid (box.length = 256) := by rw [hbox]; exact E.sbox_length
  have HSB : Hid (∀ x : UInt8, (W.cellsOf box)[x.toNat]? = some (.int .u8 ((E.sub x).toNat : Int))) := fun x => by rw [c8_at (by rw [HL.out]; exact x.toNat_lt), hbox]; rfl
  have CBX : Hid (∀ wx, Calls Try.prog 18 #[] wx fun e w' => e = .returned (.agg (W.cellsOf box).toArray) ∧ Below wx.heap.size wx w') := fun wx => by rw [hbox]; exact box_any wx
  have CRS : Hid (∀ wx, Calls Try.prog 15 #[.agg (W.cellsOf k).toArray] wx fun e w' => e = .returned (.agg (W.cellsOf (E.rks k 11)).toArray) ∧ Below wx.heap.size wx w') := fun wx => rounds_any k HK.out wx
  clear hbox hL
  have hik := info16k HK.out
  have hibx := info256 HL.out
  have HRKS := Lib.hid (E.rks_length HK.out 11)
  have hiks := info176 HRKS.out
  have HO0 : Hid ((W.cellsOf (List.replicate 16 0)).toArray.size = (W.cellsOf k).toArray.size) := by rw [List.size_toArray, List.size_toArray, c8_len, c8_len, HK.out]; rfl
  obtain ⟨z2, hz2⟩ : ∃ z2 : List UInt8, z2 = List.replicate 256 0 := ⟨_, rfl⟩
  have hzc1 : Try.zeroCells40 = (W.cellsOf z2).toArray := by rw [hz2]; kernel_rfl
  have HZ2 : Hid ((W.cellsOf z2).toArray.size = (W.cellsOf box).toArray.size) := by
    have h1 : (W.cellsOf z2).toArray.size = 256 := by rw [List.size_toArray, c8_len, hz2, List.length_replicate]
    have h2 : (W.cellsOf box).toArray.size = 256 := by rw [List.size_toArray, c8_len, HL.out]
    exact h1.trans h2.symm
  have hzc2 : Try.zeroCells34 = (W.cellsOf (keyRow k 0)).toArray := by rw [keyRow_zero]; kernel_rfl
  have HZ1 : Hid ((W.cellsOf (keyRow k 0)).toArray.size = (W.cellsOf (E.rks k 11)).toArray.size) := by
    have h1 : (W.cellsOf (keyRow k 0)).toArray.size = 176 := by rw [List.size_toArray, c8_len, keyRow_length HK.out (by decide)]
    have h2 : (W.cellsOf (E.rks k 11)).toArray.size = 176 := by rw [List.size_toArray, c8_len, HRKS.out]
    exact h1.trans h2.symm
  clear hz2
  go_wp2_with fail
  refine (CN.out _).mono ?_
  rintro e w2 ⟨rfl, b2⟩
  have hb2 : Below w.heap.size w w2 := hb1.trans (b2.mono hb1.size)
  clear b2 hb1
  have r0 : Row (w2.alloc (.cells (W.cellsOf k).toArray 26 (0, 0))) w2.heap.size 26 (W.cellsOf k) := Row.new' rfl rfl
  go_wp2_with (first | refine wpList_store_new rfl 26 (.tmp 3) (.tmp 21) rfl w2 _ _ _ _ rfl rfl rfl hik HO0.out (c8_all _) ?_ | refine wpList_load_row rfl 26 (.tmp 3) rfl w2.heap.size rfl _ _ _ _ r0 Try.underlying26 rfl hik ?_)
  refine (CRS.out _).mono ?_
  rintro e w3 ⟨rfl, b3⟩
  have hb3 : Below w.heap.size w w3 := (hb2.alloc hb2.size _).trans (b3.mono (by have := hb2.size; simp; omega))
  clear b3 hb2 r0
  go_wp2_with fail
  refine (CBX.out _).mono ?_
  rintro e w4 ⟨rfl, b4⟩
  have hb4 : Below w.heap.size w w4 := hb3.trans (b4.mono hb3.size)
  clear b4 hb3
  obtain ⟨wa, hwa⟩ : ∃ wa, wa = (w4.alloc (.cells Try.zeroCells34 34 (0, 0))).alloc (.cells Try.zeroCells40 40 (0, 0)) := ⟨_, rfl⟩
  have r1 : Row wa w4.heap.size 34 (W.cellsOf (keyRow k 0)) := by rw [hwa]; exact (Row.new' hzc2 rfl).alloc _
  have r2 : Row wa (w4.heap.size + 1) 40 (W.cellsOf z2) := by rw [hwa]; exact Row.new' hzc1 (by simp)
  have rb : Below w.heap.size w wa := by rw [hwa]; exact (hb4.alloc hb4.size _).alloc (by have := hb4.size; simp; omega) _
  have q1 := r1.setRow (W.cellsOf (E.rks k 11))
  have q2 := r2.setRow_other (show w4.heap.size + 1 ≠ w4.heap.size by omega) (W.cellsOf (E.rks k 11)).toArray
  have qb := below_row rb hb4.size (W.cellsOf (E.rks k 11)).toArray
  have v1 := q1.setRow_other (show w4.heap.size ≠ w4.heap.size + 1 by omega) (W.cellsOf box).toArray
  have v2 := q2.setRow (W.cellsOf box)
  have vb := below_row qb (show w.heap.size ≤ w4.heap.size + 1 from by have := hb4.size; omega) (W.cellsOf box).toArray
  have hz4 := hb4.size
  clear rb qb hzc1 hzc2
  subst hwa
  go_wp2_with (first | refine wpList_store_row rfl 34 (.tmp 5) (.tmp 24) rfl w4.heap.size _ rfl rfl _ _ r1 hiks HZ1.out (c8_all _) ?_ | refine wpList_store_row rfl 40 (.tmp 6) (.tmp 25) rfl (w4.heap.size + 1) _ rfl rfl _ _ q2 hibx HZ2.out (c8_all _) ?_)
  clear r1 r2 q1 q2 hb4 hibx hiks hik HZ1 HZ2 HO0 CN CBX CRS
  generalize hg5 : w4.heap.size = g5 at *
  clear hg5
  go_loopw [7, 8, 9, 10, 11, 12] (fun tv iv _ _ _ _ wr => ∃ i : Nat, i ≤ 10 ∧ iv = .int .i64 ((i : Int) + 1) ∧ tv = .int .u8 ((E.dblN 1 i).toNat : Int) ∧ Row wr g5 34 (W.cellsOf (E.rks k 11)) ∧ Row wr (g5 + 1) 40 (W.cellsOf box) ∧ Below w.heap.size w wr) (fun _ iv _ _ _ _ _ => 11 - (intOf iv).toNat)
  case atStart => exact ⟨0, Nat.zero_le _, rfl, rfl, v1, v2, vb⟩
  case round =>
    clear v1 v2 vb
    obtain ⟨i, hi, rfl, rfl, r1, r2, rb⟩ := hrel
    by_cases hlt : i < 10
    · have hs : (i : Int) + 1 < 11 := by omega
      have hn1 : ¬ ((i : Int) + 1 < 0) := by omega
      have hs0 : (i : Int) < 11 := by omega
      have hwi : IntKind.i64.wrap (i : Int) = (i : Int) := by rw [IntKind.wrap_i64]; omega
      have hu1 : Try.prog.underlying 23 = some (.array 16 5) := Try.underlying23
      have HRL := Lib.hid (E.rk_length HK.out i)
      have HRL1 := Lib.hid (E.rk_length HK.out (i + 1))
      have hi1 := info16' HRL.out
      have hi2 := info16' HRL1.out
      have HP := Lib.hid (rks_part HK.out (i := i) (by omega))
      have HP1 := Lib.hid (rks_part HK.out (i := i + 1) (by omega))
      have HNX : Hid (E.rk k (i + 1) = E.next (E.rk k i) (E.dblN 1 i)) := rfl
      have l1 : Hid (∀ wx, Row wx g5 34 (W.cellsOf (E.rks k 11)) → wx.rangeAt g5 (i * 16) (W.cellsOf (E.rk k i))) := fun wx h => by have := h.rangeOf (i * 16) 16; rwa [c8_part, Nat.mul_comm i 16, HP.out, Nat.mul_comm 16 i] at this
      have l2 : Hid (∀ wx, Row wx g5 34 (W.cellsOf (E.rks k 11)) → wx.rangeAt g5 ((i + 1) * 16) (W.cellsOf (E.rk k (i + 1)))) := fun wx h => by have := h.rangeOf ((i + 1) * 16) 16; rwa [c8_part, Nat.mul_comm (i + 1) 16, HP1.out, Nat.mul_comm 16 (i + 1)] at this
      go_wp2_with fail
      refine wp_region_held_drew (S := fun w' => w'.rangeAt g5 (i * 16) (W.cellsOf (E.rk k i)) ∧ w'.rangeAt g5 ((i + 1) * 16) (W.cellsOf (E.rk k (i + 1)))) (by kernel_rfl) ⟨l1.out _ r1, l2.out _ r1⟩ (fun hHeld => ?_)
      refine take_d 0 (some 30) (.int .i64 ((i : Int) + 1)) rfl (by kernel_rfl) (by kernel_rfl) (by kernel_rfl) (fun _ _ _ h => h) (fun oi h => by cases h; exact Or.inl ⟨by rfl, fun w' hS' => by go_simp⟩) hHeld ?_
      try simp only [Act.put, List.setIfInBounds_toArray, List.set_cons_zero, List.set_cons_succ]
      refine take_d 1 (some 31) (.int .i64 (i : Int)) rfl (by kernel_rfl) (by kernel_rfl) (by kernel_rfl) (fun _ _ _ h => h) (fun oi h => by cases h; exact Or.inl ⟨by rfl, fun w' hS' => by go_simp⟩) hHeld ?_
      try simp only [Act.put, List.setIfInBounds_toArray, List.set_cons_zero, List.set_cons_succ]
      refine take_d 2 (some 32) (.pointer (some ⟨g5, i * 16, none⟩)) rfl (by kernel_rfl) (by kernel_rfl) (by kernel_rfl) (fun _ _ _ h => h) (fun oi h => by cases h; exact Or.inl ⟨by rfl, fun w' hS' => by go_simp⟩) hHeld ?_
      try simp only [Act.put, List.setIfInBounds_toArray, List.set_cons_zero, List.set_cons_succ]
      refine take_d 3 (some 33) (.agg (W.cellsOf (E.rk k i)).toArray) rfl (by kernel_rfl) (by kernel_rfl) (by kernel_rfl) (fun _ _ _ h => h) (fun oi h => by cases h; exact yieldsIf_load_mid (by rfl) 23 (.tmp 32) rfl g5 (i * 16) rfl (W.cellsOf (E.rk k i)) _ (fun w' hS' => hS'.1) hu1 rfl hi1) hHeld ?_
      try simp only [Act.put, List.setIfInBounds_toArray, List.set_cons_zero, List.set_cons_succ]
      refine take_d 4 (some 34) (.int .i64 ((i : Int) + 1)) rfl (by kernel_rfl) (by kernel_rfl) (by kernel_rfl) (fun _ _ _ h => h) (fun oi h => by cases h; exact Or.inl ⟨by rfl, fun w' hS' => by go_simp⟩) hHeld ?_
      try simp only [Act.put, List.setIfInBounds_toArray, List.set_cons_zero, List.set_cons_succ]
      refine take_d 5 (some 35) (.pointer (some ⟨g5, (i + 1) * 16, none⟩)) rfl (by kernel_rfl) (by kernel_rfl) (by kernel_rfl) (fun _ _ _ h => h) (fun oi h => by cases h; exact Or.inl ⟨by rfl, fun w' hS' => by go_simp⟩) hHeld ?_
      try simp only [Act.put, List.setIfInBounds_toArray, List.set_cons_zero, List.set_cons_succ]
      refine take_d 6 (some 36) (.agg (W.cellsOf (E.rk k (i + 1))).toArray) rfl (by kernel_rfl) (by kernel_rfl) (by kernel_rfl) (fun _ _ _ h => h) (fun oi h => by cases h; exact yieldsIf_load_mid (by rfl) 23 (.tmp 35) rfl g5 ((i + 1) * 16) rfl (W.cellsOf (E.rk k (i + 1))) _ (fun w' hS' => hS'.2) hu1 rfl hi2) hHeld ?_
      try simp only [Act.put, List.setIfInBounds_toArray, List.set_cons_zero, List.set_cons_succ]
      refine two_d 7 8 rfl rfl (by kernel_rfl) ?_ ?_
      · intro K hK
        go_simp
        refine hK.out _ _ ⟨l1.out _ (r1.drew.alloc _), l2.out _ (r1.drew.alloc _)⟩ (fun hHeld => ?_)
        clear hK K
        try simp only [Act.put, List.setIfInBounds_toArray, List.set_cons_zero, List.set_cons_succ]
        refine one_d 8 (some 10) rfl (by kernel_rfl) ?_
        intro o ho hd K hK
        cases ho
        go_simp
        refine hK.out _ _ ⟨l1.out _ ((r1.drew.alloc _).alloc _), l2.out _ ((r1.drew.alloc _).alloc _)⟩ (fun hHeld => ?_)
        clear hK K hd
        try simp only [Act.put, List.setIfInBounds_toArray, List.set_cons_zero, List.set_cons_succ]
        have hzr := r2.lt
        have y1 := (r1.drew.alloc (.cells (W.cellsOf (List.replicate 16 0)).toArray 23 (0, 0))).alloc (.cells (W.cellsOf (List.replicate 16 0)).toArray 23 (0, 0))
        have y2 := (r2.drew.alloc (.cells (W.cellsOf (List.replicate 16 0)).toArray 23 (0, 0))).alloc (.cells (W.cellsOf (List.replicate 16 0)).toArray 23 (0, 0))
        have yb := (rb.drew.alloc (show w.heap.size ≤ wr.drew.heap.size from rb.size) (.cells (W.cellsOf (List.replicate 16 0)).toArray 23 (0, 0))).alloc (by have := rb.size; simp; omega) (.cells (W.cellsOf (List.replicate 16 0)).toArray 23 (0, 0))
        have ya : Row ((wr.drew.alloc (.cells (W.cellsOf (List.replicate 16 0)).toArray 23 (0, 0))).alloc (.cells (W.cellsOf (List.replicate 16 0)).toArray 23 (0, 0))) (wr.heap.size) 23 (W.cellsOf (List.replicate 16 0)) := (Row.new' rfl rfl).alloc _
        have yc : Row ((wr.drew.alloc (.cells (W.cellsOf (List.replicate 16 0)).toArray 23 (0, 0))).alloc (.cells (W.cellsOf (List.replicate 16 0)).toArray 23 (0, 0))) (wr.heap.size + 1) 23 (W.cellsOf (List.replicate 16 0)) := Row.new' rfl (by simp)
        have hz1 : (W.cellsOf (List.replicate 16 0)).toArray.size = (W.cellsOf (E.rk k i)).toArray.size := by rw [List.size_toArray, List.size_toArray, c8_len, c8_len, HRL.out]; rfl
        have hz2 : (W.cellsOf (List.replicate 16 0)).toArray.size = (W.cellsOf (E.rk k (i + 1))).toArray.size := by rw [List.size_toArray, List.size_toArray, c8_len, c8_len, HRL1.out]; rfl
        refine one_d 9 none rfl (by kernel_rfl) ?_
        intro o ho hd K hK
        cases ho
        rw [if_pos (by rfl)]
        refine wp_store_row 23 (.tmp 9) (.tmp 33) rfl (wr.heap.size) (W.cellsOf (E.rk k i)).toArray rfl rfl 23 _ ya (info16 HRL.out) hz1 (c8_all _) ?_
        have x1 := y1.setRow_other (show g5 ≠ wr.heap.size by omega) (W.cellsOf (E.rk k i)).toArray
        have x2 := y2.setRow_other (show g5 + 1 ≠ wr.heap.size by omega) (W.cellsOf (E.rk k i)).toArray
        have xb := below_row yb (show w.heap.size ≤ wr.heap.size by have := rb.size; omega) (W.cellsOf (E.rk k i)).toArray
        have xa := ya.setRow (W.cellsOf (E.rk k i))
        have xc := yc.setRow_other (show wr.heap.size + 1 ≠ wr.heap.size by omega) (W.cellsOf (E.rk k i)).toArray
        refine hK.out _ _ ⟨l1.out _ x1, l2.out _ x1⟩ (fun hHeld => ?_)
        clear hK K hd
        try simp only [Act.put]
        refine one_d 10 none rfl (by kernel_rfl) ?_
        intro o ho hd K hK
        cases ho
        rw [if_pos (by rfl)]
        refine wp_store_row 23 (.tmp 10) (.tmp 36) rfl (wr.heap.size + 1) (W.cellsOf (E.rk k (i + 1))).toArray rfl rfl 23 _ xc (info16 HRL1.out) hz2 (c8_all _) ?_
        have v1 := x1.setRow_other (show g5 ≠ wr.heap.size + 1 by omega) (W.cellsOf (E.rk k (i + 1))).toArray
        have v2 := x2.setRow_other (show g5 + 1 ≠ wr.heap.size + 1 by omega) (W.cellsOf (E.rk k (i + 1))).toArray
        have vb := below_row xb (show w.heap.size ≤ wr.heap.size + 1 by have := rb.size; omega) (W.cellsOf (E.rk k (i + 1))).toArray
        have va := xa.setRow_other (show wr.heap.size ≠ wr.heap.size + 1 by omega) (W.cellsOf (E.rk k (i + 1))).toArray
        have vc := xc.setRow (W.cellsOf (E.rk k (i + 1)))
        refine hK.out _ _ ⟨l1.out _ v1, l2.out _ v1⟩ (fun hHeld => ?_)
        clear hK K hHeld x1 x2 xb xa xc y1 y2 yb ya yc hz1 hz2 l1 l2 hu1 hi1 hi2
        refine wpAnyH_done (by kernel_rfl) ?_ _
        try simp only [Act.put]
        have hzz : w.heap.size ≤ wr.heap.size := rb.size
        have hza : g5 + 1 < wr.heap.size ∧ w.heap.size ≤ wr.heap.size := by omega
        clear r1 r2 rb hzr hzz hwi HP HP1
        have HZA := Lib.hid hza
        clear hza
        have HKI := HNX.out
        generalize E.rk k (i + 1) = kb at *
        generalize E.rk k i = ka at *
        have HKI' := Lib.hid HKI
        clear HKI HNX
        go_wp2
        go_loopw [11, 12, 37] (fun _ _ jv wy => ∃ j : Nat, j ≤ 16 ∧ jv = .int .i64 j ∧ Row wy g5 34 (W.cellsOf (E.rks k 11)) ∧ Row wy (g5 + 1) 40 (W.cellsOf box) ∧ Row wy wr.heap.size 23 (W.cellsOf ka) ∧ Row wy (wr.heap.size + 1) 23 (W.cellsOf kb) ∧ Below w.heap.size w wy) (fun _ _ jv _ => 16 - (intOf jv).toNat)
        case atStart => exact ⟨0, Nat.zero_le _, rfl, v1, v2, va, vc, vb⟩
        case round =>
          clear v1 v2 va vc vb
          obtain ⟨j, hj, rfl, v1, v2, va, vc, vb⟩ := hrel
          by_cases hlt2 : j < 16
          · have hs2 : (j : Int) < 16 := by omega
            have ca := (va.cell j).trans (c8_at (by rw [HRL.out]; exact hlt2))
            have cc := (vc.cell j).trans (c8_at (by rw [HRL1.out]; exact hlt2))
            by_cases h4 : j < 4
            · have hs4 : (j : Int) < 4 := by omega
              have hm : ((j : Int) + 1) % 4 = (((j + 1) % 4 : Nat) : Int) := by omega
              have hml : 12 + (j + 1) % 4 < 16 := by omega
              have hml' : ((12 + (j + 1) % 4 : Nat) : Int) < 16 := by omega
              have cm := (va.cell (12 + (j + 1) % 4)).trans (c8_at (by rw [HRL.out]; exact hml))
              have cb := (v2.cell (ka.getD (12 + (j + 1) % 4) 0).toNat).trans (HSB.out _)
              have hx1 := xor8 (ka.getD j 0) (E.sub (ka.getD (12 + (j + 1) % 4) 0))
              have hlx : ((ka.getD (12 + (j + 1) % 4) 0).toNat : Int) < 256 := by have := (ka.getD (12 + (j + 1) % 4) 0).toNat_lt; omega
              by_cases h0 : j = 0
              · subst h0
                have hN := E.next_zero ka (E.dblN 1 i)
                rw [← HKI'.out] at hN
                have hx2 := xor8 (ka.getD 0 0 ^^^ E.sub (ka.getD (12 + (0 + 1) % 4) 0)) (E.dblN 1 i)
                rw [show ka.getD 0 0 ^^^ E.sub (ka.getD (12 + (0 + 1) % 4) 0) ^^^ E.dblN 1 i = kb.getD 0 0 from hN] at hx2
                clear hN HKI'
                generalize ka.getD 0 0 ^^^ E.sub (ka.getD (12 + (0 + 1) % 4) 0) = t1 at *
                generalize E.sub (ka.getD (12 + (0 + 1) % 4) 0) = t2 at *
                generalize ka.getD (12 + (0 + 1) % 4) 0 = t3 at *
                generalize ka.getD 0 0 = t4 at *
                generalize kb.getD 0 0 = t5 at *
                generalize E.dblN 1 i = t6 at *
                go_wp2
                go_roundw
                case rel => exact ⟨1, by omega, by go_num, v1, v2, va, vc, vb⟩
                case measure => simp [intOf]
              · have hN := E.next_lo ka (E.dblN 1 i) j h0 h4
                rw [← HKI'.out] at hN
                rw [hN] at hx1
                have h0' : ¬ ((j : Int) = 0) := by omega
                clear hN HKI'
                obtain rfl | rfl | rfl : j = 1 ∨ j = 2 ∨ j = 3 := by omega
                · generalize E.sub (ka.getD (12 + (1 + 1) % 4) 0) = t2 at *
                  generalize ka.getD (12 + (1 + 1) % 4) 0 = t3 at *
                  generalize ka.getD 1 0 = t4 at *
                  generalize kb.getD 1 0 = t5 at *
                  go_wp2
                  go_roundw
                  case rel => exact ⟨2, by omega, by go_num, v1, v2, va, vc, vb⟩
                  case measure => simp [intOf]
                · generalize E.sub (ka.getD (12 + (2 + 1) % 4) 0) = t2 at *
                  generalize ka.getD (12 + (2 + 1) % 4) 0 = t3 at *
                  generalize ka.getD 2 0 = t4 at *
                  generalize kb.getD 2 0 = t5 at *
                  go_wp2
                  go_roundw
                  case rel => exact ⟨3, by omega, by go_num, v1, v2, va, vc, vb⟩
                  case measure => simp [intOf]
                · generalize E.sub (ka.getD (12 + (3 + 1) % 4) 0) = t2 at *
                  generalize ka.getD (12 + (3 + 1) % 4) 0 = t3 at *
                  generalize ka.getD 3 0 = t4 at *
                  generalize kb.getD 3 0 = t5 at *
                  go_wp2
                  go_roundw
                  case rel => exact ⟨4, by omega, by go_num, v1, v2, va, vc, vb⟩
                  case measure => simp [intOf]
            · have hs4 : ¬ ((j : Int) < 4) := by omega
              have h0' : ¬ ((j : Int) = 0) := by omega
              have hN := E.next_hi ka (E.dblN 1 i) j (by omega) hlt2
              rw [← HKI'.out] at hN
              have hm : (j : Int) - 4 = ((j - 4 : Nat) : Int) := by omega
              have hml : j - 4 < 16 := by omega
              have hml' : ((j - 4 : Nat) : Int) < 16 := by omega
              have cm := (vc.cell (j - 4)).trans (c8_at (by rw [HRL1.out]; exact hml))
              have hx1 := xor8 (ka.getD j 0) (kb.getD (j - 4) 0)
              rw [hN] at hx1
              clear hN HKI'
              generalize kb.getD (j - 4) 0 = t2 at *
              generalize ka.getD j 0 = t4 at *
              generalize kb.getD j 0 = t5 at *
              generalize hq : j - 4 = q at *
              have HQ := Lib.hid hq
              clear hq
              go_wp2
              go_roundw
              case rel => exact ⟨j + 1, by omega, by go_num, v1, v2, va, vc, vb⟩
              case measure => simp [intOf]; omega
          · obtain rfl : j = 16 := by omega
            have CT : Hid (∀ wx, Calls Try.prog 19 #[.int .u8 ((E.dblN 1 i).toNat : Int), .int .u8 2] wx fun e w' => e = .returned (.int .u8 ((E.dblN 1 (i + 1)).toNat : Int)) ∧ w' = wx) := fun wx => by
              have := times_any (E.dblN 1 i) 2 wx
              rw [E.mul_two] at this; exact this
            go_wp2_with fail
            refine (CT.out _).mono ?_
            rintro e w9 ⟨rfl, rfl⟩
            go_wp2
            go_roundw
            case rel => exact ⟨i + 1, by omega, by go_num, rfl, v1, v2, vb⟩
            case measure => simp [intOf]; omega
      · intro K hK
        go_simp
        refine hK.out _ _ ⟨l1.out _ (r1.drew.alloc _), l2.out _ (r1.drew.alloc _)⟩ (fun hHeld => ?_)
        clear hK K
        try simp only [Act.put, List.setIfInBounds_toArray, List.set_cons_zero, List.set_cons_succ]
        refine one_d 7 (some 9) rfl (by kernel_rfl) ?_
        intro o ho hd K hK
        cases ho
        go_simp
        refine hK.out _ _ ⟨l1.out _ ((r1.drew.alloc _).alloc _), l2.out _ ((r1.drew.alloc _).alloc _)⟩ (fun hHeld => ?_)
        clear hK K hd
        try simp only [Act.put, List.setIfInBounds_toArray, List.set_cons_zero, List.set_cons_succ]
        have hzr := r2.lt
        have y1 := (r1.drew.alloc (.cells (W.cellsOf (List.replicate 16 0)).toArray 23 (0, 0))).alloc (.cells (W.cellsOf (List.replicate 16 0)).toArray 23 (0, 0))
        have y2 := (r2.drew.alloc (.cells (W.cellsOf (List.replicate 16 0)).toArray 23 (0, 0))).alloc (.cells (W.cellsOf (List.replicate 16 0)).toArray 23 (0, 0))
        have yb := (rb.drew.alloc (show w.heap.size ≤ wr.drew.heap.size from rb.size) (.cells (W.cellsOf (List.replicate 16 0)).toArray 23 (0, 0))).alloc (by have := rb.size; simp; omega) (.cells (W.cellsOf (List.replicate 16 0)).toArray 23 (0, 0))
        have ya : Row ((wr.drew.alloc (.cells (W.cellsOf (List.replicate 16 0)).toArray 23 (0, 0))).alloc (.cells (W.cellsOf (List.replicate 16 0)).toArray 23 (0, 0))) (wr.heap.size + 1) 23 (W.cellsOf (List.replicate 16 0)) := Row.new' rfl (by simp)
        have yc : Row ((wr.drew.alloc (.cells (W.cellsOf (List.replicate 16 0)).toArray 23 (0, 0))).alloc (.cells (W.cellsOf (List.replicate 16 0)).toArray 23 (0, 0))) (wr.heap.size) 23 (W.cellsOf (List.replicate 16 0)) := (Row.new' rfl rfl).alloc _
        have hz1 : (W.cellsOf (List.replicate 16 0)).toArray.size = (W.cellsOf (E.rk k i)).toArray.size := by rw [List.size_toArray, List.size_toArray, c8_len, c8_len, HRL.out]; rfl
        have hz2 : (W.cellsOf (List.replicate 16 0)).toArray.size = (W.cellsOf (E.rk k (i + 1))).toArray.size := by rw [List.size_toArray, List.size_toArray, c8_len, c8_len, HRL1.out]; rfl
        refine one_d 9 none rfl (by kernel_rfl) ?_
        intro o ho hd K hK
        cases ho
        rw [if_pos (by rfl)]
        refine wp_store_row 23 (.tmp 9) (.tmp 33) rfl (wr.heap.size + 1) (W.cellsOf (E.rk k i)).toArray rfl rfl 23 _ ya (info16 HRL.out) hz1 (c8_all _) ?_
        have x1 := y1.setRow_other (show g5 ≠ wr.heap.size + 1 by omega) (W.cellsOf (E.rk k i)).toArray
        have x2 := y2.setRow_other (show g5 + 1 ≠ wr.heap.size + 1 by omega) (W.cellsOf (E.rk k i)).toArray
        have xb := below_row yb (show w.heap.size ≤ wr.heap.size + 1 by have := rb.size; omega) (W.cellsOf (E.rk k i)).toArray
        have xa := ya.setRow (W.cellsOf (E.rk k i))
        have xc := yc.setRow_other (show wr.heap.size ≠ wr.heap.size + 1 by omega) (W.cellsOf (E.rk k i)).toArray
        refine hK.out _ _ ⟨l1.out _ x1, l2.out _ x1⟩ (fun hHeld => ?_)
        clear hK K hd
        try simp only [Act.put]
        refine one_d 10 none rfl (by kernel_rfl) ?_
        intro o ho hd K hK
        cases ho
        rw [if_pos (by rfl)]
        refine wp_store_row 23 (.tmp 10) (.tmp 36) rfl (wr.heap.size) (W.cellsOf (E.rk k (i + 1))).toArray rfl rfl 23 _ xc (info16 HRL1.out) hz2 (c8_all _) ?_
        have v1 := x1.setRow_other (show g5 ≠ wr.heap.size by omega) (W.cellsOf (E.rk k (i + 1))).toArray
        have v2 := x2.setRow_other (show g5 + 1 ≠ wr.heap.size by omega) (W.cellsOf (E.rk k (i + 1))).toArray
        have vb := below_row xb (show w.heap.size ≤ wr.heap.size by have := rb.size; omega) (W.cellsOf (E.rk k (i + 1))).toArray
        have va := xa.setRow_other (show wr.heap.size + 1 ≠ wr.heap.size by omega) (W.cellsOf (E.rk k (i + 1))).toArray
        have vc := xc.setRow (W.cellsOf (E.rk k (i + 1)))
        refine hK.out _ _ ⟨l1.out _ v1, l2.out _ v1⟩ (fun hHeld => ?_)
        clear hK K hHeld x1 x2 xb xa xc y1 y2 yb ya yc hz1 hz2 l1 l2 hu1 hi1 hi2
        refine wpAnyH_done (by kernel_rfl) ?_ _
        try simp only [Act.put]
        have hzz : w.heap.size ≤ wr.heap.size := rb.size
        have hza : g5 + 1 < wr.heap.size ∧ w.heap.size ≤ wr.heap.size := by omega
        clear r1 r2 rb hzr hzz hwi HP HP1
        have HZA := Lib.hid hza
        clear hza
        have HKI := HNX.out
        generalize E.rk k (i + 1) = kb at *
        generalize E.rk k i = ka at *
        have HKI' := Lib.hid HKI
        clear HKI HNX
        go_wp2
        go_loopw [11, 12, 37] (fun _ _ jv wy => ∃ j : Nat, j ≤ 16 ∧ jv = .int .i64 j ∧ Row wy g5 34 (W.cellsOf (E.rks k 11)) ∧ Row wy (g5 + 1) 40 (W.cellsOf box) ∧ Row wy (wr.heap.size + 1) 23 (W.cellsOf ka) ∧ Row wy wr.heap.size 23 (W.cellsOf kb) ∧ Below w.heap.size w wy) (fun _ _ jv _ => 16 - (intOf jv).toNat)
        case atStart => exact ⟨0, Nat.zero_le _, rfl, v1, v2, va, vc, vb⟩
        case round =>
          clear v1 v2 va vc vb
          obtain ⟨j, hj, rfl, v1, v2, va, vc, vb⟩ := hrel
          by_cases hlt2 : j < 16
          · have hs2 : (j : Int) < 16 := by omega
            have ca := (va.cell j).trans (c8_at (by rw [HRL.out]; exact hlt2))
            have cc := (vc.cell j).trans (c8_at (by rw [HRL1.out]; exact hlt2))
            by_cases h4 : j < 4
            · have hs4 : (j : Int) < 4 := by omega
              have hm : ((j : Int) + 1) % 4 = (((j + 1) % 4 : Nat) : Int) := by omega
              have hml : 12 + (j + 1) % 4 < 16 := by omega
              have hml' : ((12 + (j + 1) % 4 : Nat) : Int) < 16 := by omega
              have cm := (va.cell (12 + (j + 1) % 4)).trans (c8_at (by rw [HRL.out]; exact hml))
              have cb := (v2.cell (ka.getD (12 + (j + 1) % 4) 0).toNat).trans (HSB.out _)
              have hx1 := xor8 (ka.getD j 0) (E.sub (ka.getD (12 + (j + 1) % 4) 0))
              have hlx : ((ka.getD (12 + (j + 1) % 4) 0).toNat : Int) < 256 := by have := (ka.getD (12 + (j + 1) % 4) 0).toNat_lt; omega
              by_cases h0 : j = 0
              · subst h0
                have hN := E.next_zero ka (E.dblN 1 i)
                rw [← HKI'.out] at hN
                have hx2 := xor8 (ka.getD 0 0 ^^^ E.sub (ka.getD (12 + (0 + 1) % 4) 0)) (E.dblN 1 i)
                rw [show ka.getD 0 0 ^^^ E.sub (ka.getD (12 + (0 + 1) % 4) 0) ^^^ E.dblN 1 i = kb.getD 0 0 from hN] at hx2
                clear hN HKI'
                generalize ka.getD 0 0 ^^^ E.sub (ka.getD (12 + (0 + 1) % 4) 0) = t1 at *
                generalize E.sub (ka.getD (12 + (0 + 1) % 4) 0) = t2 at *
                generalize ka.getD (12 + (0 + 1) % 4) 0 = t3 at *
                generalize ka.getD 0 0 = t4 at *
                generalize kb.getD 0 0 = t5 at *
                generalize E.dblN 1 i = t6 at *
                go_wp2
                go_roundw
                case rel => exact ⟨1, by omega, by go_num, v1, v2, va, vc, vb⟩
                case measure => simp [intOf]
              · have hN := E.next_lo ka (E.dblN 1 i) j h0 h4
                rw [← HKI'.out] at hN
                rw [hN] at hx1
                have h0' : ¬ ((j : Int) = 0) := by omega
                clear hN HKI'
                obtain rfl | rfl | rfl : j = 1 ∨ j = 2 ∨ j = 3 := by omega
                · generalize E.sub (ka.getD (12 + (1 + 1) % 4) 0) = t2 at *
                  generalize ka.getD (12 + (1 + 1) % 4) 0 = t3 at *
                  generalize ka.getD 1 0 = t4 at *
                  generalize kb.getD 1 0 = t5 at *
                  go_wp2
                  go_roundw
                  case rel => exact ⟨2, by omega, by go_num, v1, v2, va, vc, vb⟩
                  case measure => simp [intOf]
                · generalize E.sub (ka.getD (12 + (2 + 1) % 4) 0) = t2 at *
                  generalize ka.getD (12 + (2 + 1) % 4) 0 = t3 at *
                  generalize ka.getD 2 0 = t4 at *
                  generalize kb.getD 2 0 = t5 at *
                  go_wp2
                  go_roundw
                  case rel => exact ⟨3, by omega, by go_num, v1, v2, va, vc, vb⟩
                  case measure => simp [intOf]
                · generalize E.sub (ka.getD (12 + (3 + 1) % 4) 0) = t2 at *
                  generalize ka.getD (12 + (3 + 1) % 4) 0 = t3 at *
                  generalize ka.getD 3 0 = t4 at *
                  generalize kb.getD 3 0 = t5 at *
                  go_wp2
                  go_roundw
                  case rel => exact ⟨4, by omega, by go_num, v1, v2, va, vc, vb⟩
                  case measure => simp [intOf]
            · have hs4 : ¬ ((j : Int) < 4) := by omega
              have h0' : ¬ ((j : Int) = 0) := by omega
              have hN := E.next_hi ka (E.dblN 1 i) j (by omega) hlt2
              rw [← HKI'.out] at hN
              have hm : (j : Int) - 4 = ((j - 4 : Nat) : Int) := by omega
              have hml : j - 4 < 16 := by omega
              have hml' : ((j - 4 : Nat) : Int) < 16 := by omega
              have cm := (vc.cell (j - 4)).trans (c8_at (by rw [HRL1.out]; exact hml))
              have hx1 := xor8 (ka.getD j 0) (kb.getD (j - 4) 0)
              rw [hN] at hx1
              clear hN HKI'
              generalize kb.getD (j - 4) 0 = t2 at *
              generalize ka.getD j 0 = t4 at *
              generalize kb.getD j 0 = t5 at *
              generalize hq : j - 4 = q at *
              have HQ := Lib.hid hq
              clear hq
              go_wp2
              go_roundw
              case rel => exact ⟨j + 1, by omega, by go_num, v1, v2, va, vc, vb⟩
              case measure => simp [intOf]; omega
          · obtain rfl : j = 16 := by omega
            have CT : Hid (∀ wx, Calls Try.prog 19 #[.int .u8 ((E.dblN 1 i).toNat : Int), .int .u8 2] wx fun e w' => e = .returned (.int .u8 ((E.dblN 1 (i + 1)).toNat : Int)) ∧ w' = wx) := fun wx => by
              have := times_any (E.dblN 1 i) 2 wx
              rw [E.mul_two] at this; exact this
            go_wp2_with fail
            refine (CT.out _).mono ?_
            rintro e w9 ⟨rfl, rfl⟩
            go_wp2
            go_roundw
            case rel => exact ⟨i + 1, by omega, by go_num, rfl, v1, v2, vb⟩
            case measure => simp [intOf]; omega
    · obtain rfl : i = 10 := by omega
      have hu1 : Try.prog.underlying 23 = some (.array 16 5) := Try.underlying23
      have hi1 := info16' HK.out
      have HP0 := Lib.hid (rks_part HK.out (i := 0) (by decide))
      have l1 : Hid (∀ wx, Row wx g5 34 (W.cellsOf (E.rks k 11)) → wx.rangeAt g5 0 (W.cellsOf k)) := fun wx h => by have := h.rangeOf 0 16; rwa [c8_part, show 0 = 16 * 0 from rfl, HP0.out] at this
      go_wp2_with fail
      refine wp_region_held_drew (S := fun w' => w'.rangeAt g5 0 (W.cellsOf k)) (by kernel_rfl) (l1.out _ r1) (fun hHeld => ?_)
      refine take_d 0 (some 74) (.int .i64 0) rfl (by kernel_rfl) (by kernel_rfl) (by kernel_rfl) (fun _ _ _ h => h) (fun oi h => by cases h; exact Or.inl ⟨by rfl, fun w' hS' => by go_simp⟩) hHeld ?_
      try simp only [Act.put, List.setIfInBounds_toArray, List.set_cons_zero, List.set_cons_succ]
      refine take_d 1 (some 75) (.bool true) rfl (by kernel_rfl) (by kernel_rfl) (by kernel_rfl) (fun _ _ _ h => h) (fun oi h => by cases h; exact Or.inl ⟨by rfl, fun w' hS' => by go_simp⟩) hHeld ?_
      try simp only [Act.put, List.setIfInBounds_toArray, List.set_cons_zero, List.set_cons_succ]
      refine take_d 2 (some 76) (.bool true) rfl (by kernel_rfl) (by kernel_rfl) (by kernel_rfl) (fun _ _ _ h => h) (fun oi h => by cases h; exact Or.inl ⟨by rfl, fun w' hS' => by go_simp⟩) hHeld ?_
      try simp only [Act.put, List.setIfInBounds_toArray, List.set_cons_zero, List.set_cons_succ]
      refine take_d 3 (some 77) (.pointer (some ⟨g5, 0, none⟩)) rfl (by kernel_rfl) (by kernel_rfl) (by kernel_rfl) (fun _ _ _ h => h) (fun oi h => by cases h; exact Or.inl ⟨by rfl, fun w' hS' => by go_simp⟩) hHeld ?_
      try simp only [Act.put, List.setIfInBounds_toArray, List.set_cons_zero, List.set_cons_succ]
      refine take_d 4 (some 78) (.agg (W.cellsOf k).toArray) rfl (by kernel_rfl) (by kernel_rfl) (by kernel_rfl) (fun _ _ _ h => h) (fun oi h => by cases h; exact yieldsIf_load_mid (by rfl) 23 (.tmp 77) rfl g5 0 rfl (W.cellsOf k) _ (fun w' hS' => hS') hu1 rfl hi1) hHeld ?_
      try simp only [Act.put, List.setIfInBounds_toArray, List.set_cons_zero, List.set_cons_succ]
      refine take_d 5 (some 79) (.string a0) rfl (by kernel_rfl) (by kernel_rfl) (by kernel_rfl) (fun _ _ _ h => h) (fun oi h => by cases h; exact Or.inl ⟨by rfl, fun w' hS' => by go_simp⟩) hHeld ?_
      try simp only [Act.put, List.setIfInBounds_toArray, List.set_cons_zero, List.set_cons_succ]
      refine one_d 6 (some 80) rfl (by kernel_rfl) ?_
      intro o ho hd K hK
      cases ho
      obtain ⟨cap, wc, hcv, hcap, hrc, hbc⟩ := HCV.out wr.drew
      have r1c := Row.below r1.drew hbc r1.lt
      have rbc : Below w.heap.size w wc := rb.drew.trans (hbc.mono rb.size)
      clear hbc
      have har := array16 wr.heap.size cap
      have heq := equal16 k k HK.out HK.out
      have hbq : (k == k) = true := by simp
      go_simp
      refine hK.out _ _ (l1.out _ r1c) (fun hHeld => ?_)
      clear hK K hd hcv
      try simp only [Act.put, List.setIfInBounds_toArray, List.set_cons_zero, List.set_cons_succ]
      refine take_d 7 (some 81) (.pointer (some ⟨wr.heap.size, 0, none⟩)) rfl (by kernel_rfl) (by kernel_rfl) (by kernel_rfl) (fun _ _ _ h => h) (fun oi h => by cases h; exact Or.inl ⟨by rfl, fun w' hS' => by go_simp⟩) hHeld ?_
      try simp only [Act.put, List.setIfInBounds_toArray, List.set_cons_zero, List.set_cons_succ]
      refine one_d 8 (some 82) rfl (by kernel_rfl) ?_
      intro o ho hd K hK
      cases ho
      rw [if_pos (by rfl)]
      refine wp_load_mid 23 (.tmp 81) rfl wr.heap.size 0 rfl (W.cellsOf k) _ hrc hu1 rfl hi1 ?_
      rw [hd]
      refine hK.out _ _ hHeld (fun hHeld => ?_)
      clear hK K hd
      try simp only [Act.put, List.setIfInBounds_toArray, List.set_cons_zero, List.set_cons_succ]
      refine take_d 9 (some 83) (.bool true) rfl (by kernel_rfl) (by kernel_rfl) (by kernel_rfl) (fun _ _ _ h => h) (fun oi h => by cases h; exact Or.inl ⟨by rfl, fun w' hS' => by go_simp⟩) hHeld ?_
      try simp only [Act.put, List.setIfInBounds_toArray, List.set_cons_zero, List.set_cons_succ]
      refine take_d 10 (some 84) (.bool true) rfl (by kernel_rfl) (by kernel_rfl) (by kernel_rfl) (fun _ _ _ h => h) (fun oi h => by cases h; exact Or.inl ⟨by rfl, fun w' hS' => by go_simp⟩) hHeld ?_
      try simp only [Act.put, List.setIfInBounds_toArray, List.set_cons_zero, List.set_cons_succ]
      refine take_d 11 (some 2) (.bool true) rfl (by kernel_rfl) (by kernel_rfl) (by kernel_rfl) (fun _ _ _ h => h) (fun oi h => by cases h; exact Or.inl ⟨by rfl, fun w' hS' => by go_simp⟩) hHeld ?_
      try simp only [Act.put, List.setIfInBounds_toArray, List.set_cons_zero, List.set_cons_succ]
      refine wpAnyH_done (by kernel_rfl) ?_ _
      try simp only [Act.put]
      go_wp2
      go_ret
      exact ⟨rfl, rbc⟩

theorem walk (a0 : ByteArray) (w : World) (w0 : a0.size ≤ maxLen) :
    Calls Try.prog 6 #[.string a0] w fun e w' => e = .returned (.bool true) ∧ Below w.heap.size w w' := core a0 w w0

end Go.Proofs.Ytpkehhbjagmodaa.AesRoundsW
