/-
  Layer 6: the walk of CtrStreams: it answers true at every key, numbers and text.
-/
import Derived.Test.YtpkehhbjagmodaaCAwake
import Derived.Test.YtpkehhbjagmodaaCRefT
import Derived.OpenShut
namespace Go.Proofs.Ytpkehhbjagmodaa.CtrStreamsW
open Go.RowKit
set_option linter.unusedVariables false

theorem rowTextT {w : World} {g t : Nat} {l : List UInt8} {n : Nat} (hn : n = l.length) (h : Row w g t (W.cellsOf l)) : (convert 30 9 (.slice (some ⟨g, 0, none⟩) n n)).run Try.prog w = .ok (.string ⟨l.toArray⟩) w := by
  subst hn
  exact run_convert_bytes_back (P := Try.prog) w 30 9 5 ⟨g, 0, none⟩ l.length l Try.underlying30 Try.underlying5 Try.underlying9 (fun t ht => by
    rw [addr0, h.cell, c8_at ht]; simp [List.getD_eq_getElem?_getD, ht])

/-- A whole row loaded by an operation that is guarded, where the guard says yes. -/
theorem wpList_loadG {P : Program} {ops : Array Oper} {rest : List Oper} {op : Oper} {a : Act} {w : World} {Q : Exit → Act → World → Prop} (hw : Region.wanted op (yielded ops a.tmps) = true) (ty : TypeId) (x : Operand) (ho : op.op = .load ty x)
    (b o : Nat) (hx : a.eval x = .pointer (some ⟨b, o, none⟩)) (cs : List Value) (d : TypeDesc) (hc : w.rangeAt b o cs) (hu : P.underlying ty = some d) (hd : d.isRow = true) (hi : (P.info? ty).map (·.size) = some cs.length)
    (h : wpList P ops Q rest (a.put op.dst (.agg cs.toArray)) w) : wpList P ops Q (op :: rest) a w :=
  wpList_step fun K hK => by simp only [hw, if_true]; exact wp_load_mid ty x ho b o hx cs d hc hu hd hi (hK _ _ h)

set_option maxRecDepth 20000 in
set_option maxHeartbeats 4000000 in
theorem core (a0 : ByteArray) (m q : Nat) (n : Int) (a4 : ByteArray) (w : World) (hm : m ≤ 18446744073709551615) (hq : q ≤ 18446744073709551615) (hn1 : -9223372036854775808 ≤ n) (hn2 : n ≤ 9223372036854775807) (w0 : a0.size ≤ maxLen) (w4 : a4.size ≤ maxLen) :
    Calls Try.prog 7 #[.string a0, .int .u64 (m : Int), .int .u64 (q : Int), .int .i64 n, .string a4] w fun e w' => e = .returned (.bool true) ∧ Below w.heap.size w w' := by
  unfold maxLen at w0 w4
  go_enter Try.func7, Try.ntmps7
  go_wp2_with fail
  refine (awake6_any _).mono ?_
  rintro e w1 ⟨rfl, hb1⟩
  by_cases hL : a0.size = 16
  case neg =>
    go_wp2_with fail
    refine (new_no a0 hL _).mono ?_
    rintro e w2 ⟨rfl, b2⟩
    have hb2 := hb1.trans (b2.mono hb1.size)
    have hiz := info16k (b := List.replicate 16 0) rfl
    have hbz := hb2.alloc hb2.size (.cells (W.cellsOf (List.replicate 16 0)).toArray 26 (0, 0))
    generalize hcz : W.cellsOf (List.replicate 16 0) = cz at *
    have haz : cz.toArray.all (·.oneCell') = true := by rw [← hcz]; exact c8_all _
    have hsz : ∀ z : Array Value, z = (W.cellsOf (List.replicate 16 0)).toArray → z.size = cz.toArray.size := fun z hz => by rw [hz, hcz]
    go_wp2_with (first | refine wpList_store_new rfl 26 (.tmp 11) (.tmp 22) rfl w2 _ _ _ _ rfl rfl rfl hiz (hsz _ rfl) haz ?_)
    go_ret
    exact ⟨rfl, hbz⟩
  case pos =>
  have CN : Hid (∀ wx, Calls Try.prog 12 #[.string a0] wx fun e w' => e = .returned (.tuple #[.agg (W.cellsOf a0.data.toList).toArray, .int .i64 0]) ∧ Below wx.heap.size wx w') := fun wx => new_yes a0 hL wx
  have HK : Hid (a0.data.toList.length = 16) := by simpa [Hid] using hL
  have HS16 := Lib.hid hL
  obtain ⟨k, hk⟩ : ∃ k, k = a0.data.toList := ⟨_, rfl⟩
  rw [← hk] at CN HK
  have HKE := Lib.hid hk
  clear hk hL
  have hik := info16k HK.out
  have HO0 : Hid ((W.cellsOf (List.replicate 16 0)).toArray.size = (W.cellsOf k).toArray.size) := by rw [List.size_toArray, List.size_toArray, c8_len, c8_len, HK.out]; rfl
  go_wp2_with fail
  refine (CN.out _).mono ?_
  rintro e w2 ⟨rfl, b2⟩
  have hb2 := hb1.trans (b2.mono hb1.size)
  clear b2 hb1 CN
  have r0 := Row.new' (w := w2) (t := 26) (l := W.cellsOf k) rfl rfl
  have rb := hb2.alloc hb2.size (.cells (W.cellsOf k).toArray 26 (0, 0))
  have hgk : w.heap.size ≤ w2.heap.size := hb2.size
  clear hb2
  by_cases h100 : 100 < n ∧ n ≤ 65536
  case pos =>
    obtain ⟨h1, h2⟩ := h100
    go_wp2_with (first | refine wpList_store_new rfl 26 (.tmp 11) (.tmp 22) rfl w2 _ _ _ _ rfl rfl rfl hik HO0.out (c8_all _) ?_)
    go_ret
    exact ⟨rfl, rb⟩
  case neg =>
  by_cases h4 : 100 < a4.size
  case pos =>
    have h4' : (100 : Int) < a4.size := by omega
    by_cases h1 : 100 < n
    · have h2 : ¬ n ≤ 65536 := fun h => h100 ⟨h1, h⟩
      clear h100
      go_wp2_with (first | refine wpList_store_new rfl 26 (.tmp 11) (.tmp 22) rfl w2 _ _ _ _ rfl rfl rfl hik HO0.out (c8_all _) ?_)
      go_ret
      exact ⟨rfl, rb⟩
    · clear h100
      go_wp2_with (first | refine wpList_store_new rfl 26 (.tmp 11) (.tmp 22) rfl w2 _ _ _ _ rfl rfl rfl hik HO0.out (c8_all _) ?_)
      go_ret
      exact ⟨rfl, rb⟩
  case neg =>
  have h4' : ¬ (100 : Int) < a4.size := by omega
  have CB : Hid (∀ wx, Calls Try.prog 23 #[.int .u64 (m : Int), .int .u64 (q : Int)] wx fun e w' => e = .returned (.agg (W.cellsOf (C.blk m q)).toArray) ∧ Below wx.heap.size wx w') := fun wx => block_any m q hm hq wx
  have P1 : Hid (∀ wx, Calls Try.prog 25 #[.int .u64 (m : Int), .int .i64 8] wx fun e w' => e = .returned (.string ⟨(W.putL m 8).toArray⟩) ∧ Below wx.heap.size wx w') := fun wx => by
    have := refPut_any (m : Int) 8 (by omega) (by omega) wx; exact this
  have P2 : Hid (∀ wx, Calls Try.prog 25 #[.int .u64 (q : Int), .int .i64 8] wx fun e w' => e = .returned (.string ⟨(W.putL q 8).toArray⟩) ∧ Below wx.heap.size wx w') := fun wx => by
    have := refPut_any (q : Int) 8 (by omega) (by omega) wx; exact this
  have HAD : Hid (∀ wx : World, (Op.stringOp .add ⟨(W.putL m 8).toArray⟩ ⟨(W.putL q 8).toArray⟩).run Try.prog wx = .ok (.string ⟨(C.blk m q).toArray⟩) wx) := fun wx => by
    have h := run_string_add_sum (P := Try.prog) wx (⟨(W.putL m 8).toArray⟩ : ByteArray) ⟨(W.putL q 8).toArray⟩ (by rw [mkSize, mkSize, W.putL_length, W.putL_length]; decide)
    rw [h]
    have e : (⟨(W.putL m 8).toArray⟩ : ByteArray) ++ ⟨(W.putL q 8).toArray⟩ = ⟨(C.blk m q).toArray⟩ := by
      apply ByteArray.ext
      rw [ByteArray.data_append]
      apply Array.toList_inj.1
      rw [Array.toList_append]; rfl
    rw [e]
  have HBL := Lib.hid (C.blk_length m q)
  have hiB := info16 HBL.out
  have HOB : Hid (∀ z : Array Value, z = (W.cellsOf (List.replicate 16 0)).toArray → z.size = (W.cellsOf (C.blk m q)).toArray.size) := fun z hz => by rw [hz, List.size_toArray, List.size_toArray, c8_len, c8_len, HBL.out]; rfl
  generalize C.blk m q = B at *
  generalize W.putL m 8 = p1 at *
  generalize W.putL q 8 = p2 at *
  have HLG : Hid (¬ (100 < n ∧ n ≤ 65536)) := h100
  have HA4 : Hid (a4.size ≤ 100) := by show a4.size ≤ 100; omega
  clear h100 h4
  by_cases hcase : n < 0
  · have hr : n < 0 := hcase
    have g1 : ¬ 100 < n := by omega
    have g2 : ¬ 65536 < n := by omega
    have CS : Hid (∀ wx, Calls Try.prog 24 #[.agg (W.cellsOf k).toArray, .int .u64 (m : Int), .int .i64 n] wx fun e w' => e = .returned (.tuple #[.string ⟨#[]⟩, .int .i64 7]) ∧ Below wx.heap.size wx w') := fun wx => stream_no k m n HK.out (Or.inl hr) wx
    clear HLG HA4 hcase
    go_wp2_with (first | refine wpList_store_new rfl 26 (.tmp 11) (.tmp 22) rfl w2 _ _ _ _ rfl rfl rfl hik HO0.out (c8_all _) ?_)
    generalize w2.alloc (.cells (W.cellsOf k).toArray 26 (0, 0)) = wa at *
    generalize w2.heap.size = gk at *
    refine (CB.out _).mono ?_
    rintro e w3 ⟨rfl, b3⟩
    have r3 := Row.below r0 b3 r0.lt
    have rb3 := rb.trans (b3.mono rb.size)
    clear b3 r0 rb
    have rB := Row.new' (w := w3) (t := 23) (l := W.cellsOf B) rfl rfl
    have r4 := r3.alloc (.cells (W.cellsOf B).toArray 23 (0, 0))
    have rb4 := rb3.alloc rb3.size (.cells (W.cellsOf B).toArray 23 (0, 0))
    have hgB : w.heap.size ≤ w3.heap.size := rb3.size
    clear r3 rb3
    go_wp2_with (first | refine wpList_store_new rfl 23 (.tmp 13) (.tmp 41) rfl w3 _ _ _ _ rfl rfl rfl hiB (HOB.out _ rfl) (c8_all _) ?_ | refine wpList_load_row rfl 26 (.tmp 11) rfl gk rfl _ _ _ _ r4 Try.underlying26 rfl hik ?_)
    generalize w3.alloc (.cells (W.cellsOf B).toArray 23 (0, 0)) = wb at *
    generalize w3.heap.size = gB at *
    refine (CS.out _).mono ?_
    rintro e w5 ⟨rfl, b5⟩
    have r5 := Row.below r4 b5 r4.lt
    have rB5 := Row.below rB b5 rB.lt
    have rb5 := rb4.trans (b5.mono rb4.size)
    clear b5 r4 rB rb4
    go_wp2_with fail
    refine wp_region_held_drew (S := fun w' => Row w' gB 23 (W.cellsOf B)) (by kernel_rfl) rB5.drew (fun hHeld => ?_)
    refine take_d 0 (some 49) (.slice (some ⟨gB, 0, none⟩) 16 16) rfl (by kernel_rfl) (by kernel_rfl) (by kernel_rfl) (fun _ _ _ h => h) (fun oi h => by cases h; exact Or.inl ⟨by rfl, fun w' hS' => by go_simp⟩) hHeld ?_
    try simp only [Act.put, List.setIfInBounds_toArray, List.set_cons_zero, List.set_cons_succ]
    refine take_d 1 (some 50) (.string ⟨B.toArray⟩) rfl (by kernel_rfl) (by kernel_rfl) (by kernel_rfl) (fun _ _ _ h => h) (fun oi h => by cases h; exact Or.inl ⟨by rfl, fun w' hS' => by have hcv := rowTextT (n := 16) HBL.out.symm hS'; go_simp⟩) hHeld ?_
    try simp only [Act.put, List.setIfInBounds_toArray, List.set_cons_zero, List.set_cons_succ]
    refine take_d 2 (some 51) (.int .u64 (m : Int)) rfl (by kernel_rfl) (by kernel_rfl) (by kernel_rfl) (fun _ _ _ h => h) (fun oi h => by cases h; exact Or.inl ⟨by rfl, fun w' hS' => by go_simp⟩) hHeld ?_
    try simp only [Act.put, List.setIfInBounds_toArray, List.set_cons_zero, List.set_cons_succ]
    refine take_d 4 (some 53) (.int .u64 (q : Int)) rfl (by kernel_rfl) (by kernel_rfl) (by kernel_rfl) (fun _ _ _ h => h) (fun oi h => by cases h; exact Or.inl ⟨by rfl, fun w' hS' => by go_simp⟩) hHeld ?_
    try simp only [Act.put, List.setIfInBounds_toArray, List.set_cons_zero, List.set_cons_succ]
    have rD := r5.drew
    have rBD := rB5.drew
    have rbD := rb5.drew
    clear r5 rB5 rb5
    refine one_d 3 (some 52) rfl (by kernel_rfl) ?_
    intro o ho hd K' hK
    cases ho
    go_simp
    refine (P1.out _).mono ?_
    rintro e wA ⟨rfl, bb⟩
    have rE := Row.below rD bb rD.lt
    have rBE := Row.below rBD bb rBD.lt
    have rbE := rbD.trans (bb.mono rbD.size)
    clear bb hHeld hd rD rBD rbD
    refine hK.out _ _ rBE (fun hHeld => ?_)
    clear hK K'
    try simp only [Act.put, List.setIfInBounds_toArray, List.set_cons_zero, List.set_cons_succ]
    refine one_d 5 (some 54) rfl (by kernel_rfl) ?_
    intro o ho hd K' hK
    cases ho
    go_simp
    refine (P2.out _).mono ?_
    rintro e wB ⟨rfl, bb⟩
    have rF := Row.below rE bb rE.lt
    have rBF := Row.below rBE bb rBE.lt
    have rbF := rbE.trans (bb.mono rbE.size)
    clear bb hHeld hd rE rBE rbE
    refine hK.out _ _ rBF (fun hHeld => ?_)
    clear hK K'
    try simp only [Act.put, List.setIfInBounds_toArray, List.set_cons_zero, List.set_cons_succ]
    refine take_d 6 (some 55) (.string ⟨B.toArray⟩) rfl (by kernel_rfl) (by kernel_rfl) (by kernel_rfl) (fun _ _ _ h => h) (fun oi h => by cases h; exact Or.inl ⟨by rfl, fun w' hS' => by have had := HAD.out w'; go_simp⟩) hHeld ?_
    try simp only [Act.put, List.setIfInBounds_toArray, List.set_cons_zero, List.set_cons_succ]
    refine take_d 7 (some 56) (.bool false) rfl (by kernel_rfl) (by kernel_rfl) (by kernel_rfl) (fun _ _ _ h => h) (fun oi h => by cases h; exact Or.inl ⟨by rfl, fun w' hS' => by go_simp⟩) hHeld ?_
    try simp only [Act.put, List.setIfInBounds_toArray, List.set_cons_zero, List.set_cons_succ]
    clear hHeld
    refine wpAnyH_done (by kernel_rfl) ?_ _
    try simp only [Act.put]
    go_wp2
    go_ret
    exact ⟨rfl, rbF⟩
  · have hn0 := hcase
    clear hcase
    by_cases hcase : 65536 < n
    · have hr : 65536 < n := hcase
      have g1 : 100 < n := by omega
      have g2 : ¬ n ≤ 65536 := by omega
      have g3 : ¬ n < 0 := by omega
      have CS : Hid (∀ wx, Calls Try.prog 24 #[.agg (W.cellsOf k).toArray, .int .u64 (m : Int), .int .i64 n] wx fun e w' => e = .returned (.tuple #[.string ⟨#[]⟩, .int .i64 7]) ∧ Below wx.heap.size wx w') := fun wx => stream_no k m n HK.out (Or.inr hr) wx
      clear HLG HA4 hcase
      go_wp2_with (first | refine wpList_store_new rfl 26 (.tmp 11) (.tmp 22) rfl w2 _ _ _ _ rfl rfl rfl hik HO0.out (c8_all _) ?_)
      generalize w2.alloc (.cells (W.cellsOf k).toArray 26 (0, 0)) = wa at *
      generalize w2.heap.size = gk at *
      refine (CB.out _).mono ?_
      rintro e w3 ⟨rfl, b3⟩
      have r3 := Row.below r0 b3 r0.lt
      have rb3 := rb.trans (b3.mono rb.size)
      clear b3 r0 rb
      have rB := Row.new' (w := w3) (t := 23) (l := W.cellsOf B) rfl rfl
      have r4 := r3.alloc (.cells (W.cellsOf B).toArray 23 (0, 0))
      have rb4 := rb3.alloc rb3.size (.cells (W.cellsOf B).toArray 23 (0, 0))
      have hgB : w.heap.size ≤ w3.heap.size := rb3.size
      clear r3 rb3
      go_wp2_with (first | refine wpList_store_new rfl 23 (.tmp 13) (.tmp 41) rfl w3 _ _ _ _ rfl rfl rfl hiB (HOB.out _ rfl) (c8_all _) ?_ | refine wpList_load_row rfl 26 (.tmp 11) rfl gk rfl _ _ _ _ r4 Try.underlying26 rfl hik ?_)
      generalize w3.alloc (.cells (W.cellsOf B).toArray 23 (0, 0)) = wb at *
      generalize w3.heap.size = gB at *
      refine (CS.out _).mono ?_
      rintro e w5 ⟨rfl, b5⟩
      have r5 := Row.below r4 b5 r4.lt
      have rB5 := Row.below rB b5 rB.lt
      have rb5 := rb4.trans (b5.mono rb4.size)
      clear b5 r4 rB rb4
      go_wp2_with fail
      refine wp_region_held_drew (S := fun w' => Row w' gB 23 (W.cellsOf B)) (by kernel_rfl) rB5.drew (fun hHeld => ?_)
      refine take_d 0 (some 49) (.slice (some ⟨gB, 0, none⟩) 16 16) rfl (by kernel_rfl) (by kernel_rfl) (by kernel_rfl) (fun _ _ _ h => h) (fun oi h => by cases h; exact Or.inl ⟨by rfl, fun w' hS' => by go_simp⟩) hHeld ?_
      try simp only [Act.put, List.setIfInBounds_toArray, List.set_cons_zero, List.set_cons_succ]
      refine take_d 1 (some 50) (.string ⟨B.toArray⟩) rfl (by kernel_rfl) (by kernel_rfl) (by kernel_rfl) (fun _ _ _ h => h) (fun oi h => by cases h; exact Or.inl ⟨by rfl, fun w' hS' => by have hcv := rowTextT (n := 16) HBL.out.symm hS'; go_simp⟩) hHeld ?_
      try simp only [Act.put, List.setIfInBounds_toArray, List.set_cons_zero, List.set_cons_succ]
      refine take_d 2 (some 51) (.int .u64 (m : Int)) rfl (by kernel_rfl) (by kernel_rfl) (by kernel_rfl) (fun _ _ _ h => h) (fun oi h => by cases h; exact Or.inl ⟨by rfl, fun w' hS' => by go_simp⟩) hHeld ?_
      try simp only [Act.put, List.setIfInBounds_toArray, List.set_cons_zero, List.set_cons_succ]
      refine take_d 4 (some 53) (.int .u64 (q : Int)) rfl (by kernel_rfl) (by kernel_rfl) (by kernel_rfl) (fun _ _ _ h => h) (fun oi h => by cases h; exact Or.inl ⟨by rfl, fun w' hS' => by go_simp⟩) hHeld ?_
      try simp only [Act.put, List.setIfInBounds_toArray, List.set_cons_zero, List.set_cons_succ]
      have rD := r5.drew
      have rBD := rB5.drew
      have rbD := rb5.drew
      clear r5 rB5 rb5
      refine one_d 3 (some 52) rfl (by kernel_rfl) ?_
      intro o ho hd K' hK
      cases ho
      go_simp
      refine (P1.out _).mono ?_
      rintro e wA ⟨rfl, bb⟩
      have rE := Row.below rD bb rD.lt
      have rBE := Row.below rBD bb rBD.lt
      have rbE := rbD.trans (bb.mono rbD.size)
      clear bb hHeld hd rD rBD rbD
      refine hK.out _ _ rBE (fun hHeld => ?_)
      clear hK K'
      try simp only [Act.put, List.setIfInBounds_toArray, List.set_cons_zero, List.set_cons_succ]
      refine one_d 5 (some 54) rfl (by kernel_rfl) ?_
      intro o ho hd K' hK
      cases ho
      go_simp
      refine (P2.out _).mono ?_
      rintro e wB ⟨rfl, bb⟩
      have rF := Row.below rE bb rE.lt
      have rBF := Row.below rBE bb rBE.lt
      have rbF := rbE.trans (bb.mono rbE.size)
      clear bb hHeld hd rE rBE rbE
      refine hK.out _ _ rBF (fun hHeld => ?_)
      clear hK K'
      try simp only [Act.put, List.setIfInBounds_toArray, List.set_cons_zero, List.set_cons_succ]
      refine take_d 6 (some 55) (.string ⟨B.toArray⟩) rfl (by kernel_rfl) (by kernel_rfl) (by kernel_rfl) (fun _ _ _ h => h) (fun oi h => by cases h; exact Or.inl ⟨by rfl, fun w' hS' => by have had := HAD.out w'; go_simp⟩) hHeld ?_
      try simp only [Act.put, List.setIfInBounds_toArray, List.set_cons_zero, List.set_cons_succ]
      refine take_d 7 (some 56) (.bool false) rfl (by kernel_rfl) (by kernel_rfl) (by kernel_rfl) (fun _ _ _ h => h) (fun oi h => by cases h; exact Or.inl ⟨by rfl, fun w' hS' => by go_simp⟩) hHeld ?_
      try simp only [Act.put, List.setIfInBounds_toArray, List.set_cons_zero, List.set_cons_succ]
      clear hHeld
      refine wpAnyH_done (by kernel_rfl) ?_ _
      try simp only [Act.put]
      go_wp2
      go_ret
      exact ⟨rfl, rbF⟩
    · obtain ⟨n', rfl⟩ := Int.eq_ofNat_of_zero_le (show 0 ≤ n by omega)
      have hn' : n' ≤ 100 := by have := HLG.out; omega
      have g1 : ¬ (100 : Int) < (n' : Int) := by omega
      have g2 : ¬ (65536 : Int) < (n' : Int) := by omega
      have g3 : ¬ (n' : Int) < 0 := by omega
      have CS : Hid (∀ wx, Calls Try.prog 24 #[.agg (W.cellsOf k).toArray, .int .u64 (m : Int), .int .i64 (n' : Int)] wx fun e w' => e = .returned (.tuple #[.string ⟨(C.streamL k m n').toArray⟩, .int .i64 0]) ∧ Below wx.heap.size wx w') := fun wx => stream_yes k m n' HK.out hm (by omega) wx
      have CRS : Hid (∀ wx, Calls Try.prog 27 #[.string a0, .int .u64 (m : Int), .int .i64 (n' : Int)] wx fun e w' => e = .returned (.string ⟨(C.streamL k m n').toArray⟩) ∧ Below wx.heap.size wx w') := fun wx => by
        have := refStream_any a0 HS16.out m n' hm hn' wx
        rw [← HKE.out] at this; exact this
      have CT : Hid (∀ wx, Calls Try.prog 26 #[.agg (W.cellsOf k).toArray, .int .u64 (m : Int), .string a4] wx fun e w' => e = .returned (.string ⟨(C.turnL k m a4.data.toList).toArray⟩) ∧ Below wx.heap.size wx w') := fun wx => turn_any k m a4 HK.out hm (by have := HA4.out; omega) wx
      have CRT : Hid (∀ wx, Calls Try.prog 28 #[.string a0, .int .u64 (m : Int), .string a4] wx fun e w' => e = .returned (.string ⟨(C.turnL k m a4.data.toList).toArray⟩) ∧ Below wx.heap.size wx w') := fun wx => by
        have := refTurn_any a0 HS16.out m hm a4 HA4.out wx
        rw [← HKE.out] at this; exact this
      have CT2 : Hid (∀ wx, Calls Try.prog 26 #[.agg (W.cellsOf k).toArray, .int .u64 (m : Int), .string ⟨(C.turnL k m a4.data.toList).toArray⟩] wx fun e w' => e = .returned (.string a4) ∧ Below wx.heap.size wx w') := fun wx => by
        have := turn_any k m ⟨(C.turnL k m a4.data.toList).toArray⟩ HK.out hm (by rw [mkSize, C.turnL_length]; have h := HA4.out; have h2 : a4.data.toList.length = a4.size := Array.length_toList; omega) wx
        have e : (⟨(C.turnL k m (⟨(C.turnL k m a4.data.toList).toArray⟩ : ByteArray).data.toList).toArray⟩ : ByteArray) = a4 := by
          show (⟨(C.turnL k m (C.turnL k m a4.data.toList)).toArray⟩ : ByteArray) = a4
          rw [C.turnL_twice]
        rw [e] at this; exact this
      generalize C.streamL k m n' = SL at *
      generalize C.turnL k m a4.data.toList = TL at *
      clear HLG HA4 hcase
      go_wp2_with (first | refine wpList_store_new rfl 26 (.tmp 11) (.tmp 22) rfl w2 _ _ _ _ rfl rfl rfl hik HO0.out (c8_all _) ?_)
      generalize w2.alloc (.cells (W.cellsOf k).toArray 26 (0, 0)) = wa at *
      generalize w2.heap.size = gk at *
      refine (CB.out _).mono ?_
      rintro e w3 ⟨rfl, b3⟩
      have r3 := Row.below r0 b3 r0.lt
      have rb3 := rb.trans (b3.mono rb.size)
      clear b3 r0 rb
      have rB := Row.new' (w := w3) (t := 23) (l := W.cellsOf B) rfl rfl
      have r4 := r3.alloc (.cells (W.cellsOf B).toArray 23 (0, 0))
      have rb4 := rb3.alloc rb3.size (.cells (W.cellsOf B).toArray 23 (0, 0))
      have hgB : w.heap.size ≤ w3.heap.size := rb3.size
      clear r3 rb3
      go_wp2_with (first | refine wpList_store_new rfl 23 (.tmp 13) (.tmp 41) rfl w3 _ _ _ _ rfl rfl rfl hiB (HOB.out _ rfl) (c8_all _) ?_ | refine wpList_load_row rfl 26 (.tmp 11) rfl gk rfl _ _ _ _ r4 Try.underlying26 rfl hik ?_)
      generalize w3.alloc (.cells (W.cellsOf B).toArray 23 (0, 0)) = wb at *
      generalize w3.heap.size = gB at *
      refine (CS.out _).mono ?_
      rintro e w5 ⟨rfl, b5⟩
      have r5 := Row.below r4 b5 r4.lt
      have rB5 := Row.below rB b5 rB.lt
      have rb5 := rb4.trans (b5.mono rb4.size)
      clear b5 r4 rB rb4
      go_wp2_with fail
      refine wp_region_held_drew (S := fun w' => Row w' gB 23 (W.cellsOf B)) (by kernel_rfl) rB5.drew (fun hHeld => ?_)
      refine take_d 0 (some 49) (.slice (some ⟨gB, 0, none⟩) 16 16) rfl (by kernel_rfl) (by kernel_rfl) (by kernel_rfl) (fun _ _ _ h => h) (fun oi h => by cases h; exact Or.inl ⟨by rfl, fun w' hS' => by go_simp⟩) hHeld ?_
      try simp only [Act.put, List.setIfInBounds_toArray, List.set_cons_zero, List.set_cons_succ]
      refine take_d 1 (some 50) (.string ⟨B.toArray⟩) rfl (by kernel_rfl) (by kernel_rfl) (by kernel_rfl) (fun _ _ _ h => h) (fun oi h => by cases h; exact Or.inl ⟨by rfl, fun w' hS' => by have hcv := rowTextT (n := 16) HBL.out.symm hS'; go_simp⟩) hHeld ?_
      try simp only [Act.put, List.setIfInBounds_toArray, List.set_cons_zero, List.set_cons_succ]
      refine take_d 2 (some 51) (.int .u64 (m : Int)) rfl (by kernel_rfl) (by kernel_rfl) (by kernel_rfl) (fun _ _ _ h => h) (fun oi h => by cases h; exact Or.inl ⟨by rfl, fun w' hS' => by go_simp⟩) hHeld ?_
      try simp only [Act.put, List.setIfInBounds_toArray, List.set_cons_zero, List.set_cons_succ]
      refine take_d 4 (some 53) (.int .u64 (q : Int)) rfl (by kernel_rfl) (by kernel_rfl) (by kernel_rfl) (fun _ _ _ h => h) (fun oi h => by cases h; exact Or.inl ⟨by rfl, fun w' hS' => by go_simp⟩) hHeld ?_
      try simp only [Act.put, List.setIfInBounds_toArray, List.set_cons_zero, List.set_cons_succ]
      have rD := r5.drew
      have rBD := rB5.drew
      have rbD := rb5.drew
      clear r5 rB5 rb5
      refine one_d 3 (some 52) rfl (by kernel_rfl) ?_
      intro o ho hd K' hK
      cases ho
      go_simp
      refine (P1.out _).mono ?_
      rintro e wA ⟨rfl, bb⟩
      have rE := Row.below rD bb rD.lt
      have rBE := Row.below rBD bb rBD.lt
      have rbE := rbD.trans (bb.mono rbD.size)
      clear bb hHeld hd rD rBD rbD
      refine hK.out _ _ rBE (fun hHeld => ?_)
      clear hK K'
      try simp only [Act.put, List.setIfInBounds_toArray, List.set_cons_zero, List.set_cons_succ]
      refine one_d 5 (some 54) rfl (by kernel_rfl) ?_
      intro o ho hd K' hK
      cases ho
      go_simp
      refine (P2.out _).mono ?_
      rintro e wB ⟨rfl, bb⟩
      have rF := Row.below rE bb rE.lt
      have rBF := Row.below rBE bb rBE.lt
      have rbF := rbE.trans (bb.mono rbE.size)
      clear bb hHeld hd rE rBE rbE
      refine hK.out _ _ rBF (fun hHeld => ?_)
      clear hK K'
      try simp only [Act.put, List.setIfInBounds_toArray, List.set_cons_zero, List.set_cons_succ]
      refine take_d 6 (some 55) (.string ⟨B.toArray⟩) rfl (by kernel_rfl) (by kernel_rfl) (by kernel_rfl) (fun _ _ _ h => h) (fun oi h => by cases h; exact Or.inl ⟨by rfl, fun w' hS' => by have had := HAD.out w'; go_simp⟩) hHeld ?_
      try simp only [Act.put, List.setIfInBounds_toArray, List.set_cons_zero, List.set_cons_succ]
      refine take_d 7 (some 56) (.bool false) rfl (by kernel_rfl) (by kernel_rfl) (by kernel_rfl) (fun _ _ _ h => h) (fun oi h => by cases h; exact Or.inl ⟨by rfl, fun w' hS' => by go_simp⟩) hHeld ?_
      try simp only [Act.put, List.setIfInBounds_toArray, List.set_cons_zero, List.set_cons_succ]
      clear hHeld
      refine wpAnyH_done (by kernel_rfl) ?_ _
      try simp only [Act.put]
      go_wp2_with (first | refine wpList_load_row rfl 26 (.tmp 11) rfl gk rfl _ _ _ _ rF Try.underlying26 rfl hik ?_)
      refine (CT.out _).mono ?_
      rintro e w6 ⟨rfl, b6⟩
      have r6 := Row.below rF b6 rF.lt
      have rb6 := rbF.trans (b6.mono rbF.size)
      clear b6 rF rbF rBF
      go_wp2_with fail
      refine (CRS.out _).mono ?_
      rintro e w7 ⟨rfl, b7⟩
      have r7 := Row.below r6 b7 r6.lt
      have rb7 := rb6.trans (b7.mono rb6.size)
      clear b7 r6 rb6
      go_wp2_with fail
      refine (CRT.out _).mono ?_
      rintro e w8 ⟨rfl, b8⟩
      have r8 := Row.below r7 b8 r7.lt
      have rb8 := rb7.trans (b8.mono rb7.size)
      clear b8 r7 rb7
      have hrg : w8.rangeAt gk 0 (W.cellsOf k) := by have := r8.rangeOf 0 16; rwa [List.drop_zero, List.take_of_length_le (by rw [c8_len, HK.out]; decide)] at this
      have hik' : (Try.prog.info? 26).map (·.size) = some (W.cellsOf k).length := by simpa using hik
      go_wp2_with (first | refine wpList_loadG (by rfl) 26 (.tmp 11) rfl gk 0 rfl (W.cellsOf k) _ hrg Try.underlying26 rfl hik' ?_)
      refine (CT2.out _).mono ?_
      rintro e w9 ⟨rfl, b9⟩
      have rb9 := rb8.trans (b9.mono rb8.size)
      go_wp2
      go_ret
      exact ⟨rfl, rb9⟩

theorem walk (a0 : ByteArray) (a1 : Int) (a2 : Int) (a3 : Int) (a4 : ByteArray) (w : World) (w0 : a0.size ≤ maxLen) (w1 : (Lit.int .u64 a1).wf = true) (w2 : (Lit.int .u64 a2).wf = true) (w3 : (Lit.int .i64 a3).wf = true) (w4 : a4.size ≤ maxLen) :
    Calls Try.prog 7 #[.string a0, .int .u64 a1, .int .u64 a2, .int .i64 a3, .string a4] w fun e w' => e = .returned (.bool true) ∧ Below w.heap.size w w' := by
  obtain ⟨h1, h1'⟩ := bounds_u64 w1
  obtain ⟨h2, h2'⟩ := bounds_u64 w2
  obtain ⟨h3, h3'⟩ := bounds_i64 w3
  obtain ⟨m, rfl⟩ := Int.eq_ofNat_of_zero_le h1
  obtain ⟨q, rfl⟩ := Int.eq_ofNat_of_zero_le h2
  exact core a0 m q a3 a4 w (by omega) (by omega) (by omega) (by omega) w0 w4

end Go.Proofs.Ytpkehhbjagmodaa.CtrStreamsW
