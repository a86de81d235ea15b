/-
  Layer 15: Next, where the newest state goes again; where none goes.
-/
import Derived.Test.YtngoighdpmeepaaVInstr
import Derived.Test.YtngoighdpmeepaaVAcked
namespace Go.Proofs.Ytngoighdpmeepaa
open Go.RowKit
set_option linter.unusedVariables false
set_option linter.unusedSimpArgs false
set_option maxRecDepth 20000

set_option maxHeartbeats 4000000 in
theorem next_again (now : ByteArray) (g n cap last : Nat) (L : List S15.St) (p : S15.St) (w : World) (hn : L.length = n + 1) (h8 : n < 8) (hp : L[n]? = some p) (ha : S15.StAt w g 0 L) (tk wait beat ack : Nat) (hw : wait ≤ 18446744073709551615) (hbt : beat ≤ 18446744073709551615) (hl : last ≤ 18446744073709551615) (ht : p.tick ≤ 18446744073709551615) (hcap : n + 1 ≤ cap ∧ cap ≤ maxLen) (b : S15.St) (hb : (L.set n ⟨p.num, tk, p.tx⟩)[0]? = some b) (hbx : b.tx.size ≤ 1099511627776) (hpx : p.tx.size ≤ 1099511627776) (hd : (decide (n < 7) && !decide (now = p.tx)) = false) (hle : S15.againN n last p.tick wait beat ≤ tk) :
    Calls Try.prog 22 #[.agg #[.func (.func 34) #[] #[], .func (.func 35) #[] #[], .string now, .slice (some ⟨g, 0, none⟩) (n + 1) cap, .int .u64 (last : Int)], .int .u64 (tk : Int), .int .u64 (wait : Int), .int .u64 (beat : Int), .int .u64 (ack : Int)] w fun e w' => ∃ g' cap', e = .returned (.tuple #[.agg #[.func (.func 34) #[] #[], .func (.func 35) #[] #[], .string now, .slice (some ⟨g', 0, none⟩) (n + 1) cap', .int .u64 (tk : Int)], .agg #[.int .u64 (b.num : Int), .int .u64 (p.num : Int), .int .u64 (ack : Int), .int .u64 (b.num : Int), .string (b.tx ++ ⟨#[62]⟩ ++ p.tx)], .bool true]) ∧ S15.StAt w' g' 0 (L.set n ⟨p.num, tk, p.tx⟩) ∧ (n + 1 ≤ cap' ∧ cap' ≤ maxLen) ∧ Below w.heap.size w w' := by
  obtain ⟨X, hX⟩ : ∃ X, X = S15.againN n last p.tick wait beat := ⟨_, rfl⟩
  have gX : (X : Int) ≤ (tk : Int) := by omega
  have CC : Hid (∀ wx, S15.StAt wx g 0 L → Calls Try.prog 36 #[.slice (some ⟨g, 0, none⟩) (n + 1) cap] wx fun e w' => ∃ v, e = .returned v ∧ w'.ownsRow wx.heap.size 75 3 v (n + 1) (S15.cellsL L) ∧ Below wx.heap.size wx w') := fun wx hx => cloneSt_any g 0 n cap L wx hn (by omega) hx
  have CH : Hid (∀ wx, S15.StAt wx g 0 L → Calls Try.prog 38 #[.agg #[.func (.func 34) #[] #[], .func (.func 35) #[] #[], .string now, .slice (some ⟨g, 0, none⟩) (n + 1) cap, .int .u64 (last : Int)]] wx fun e w' => e = .returned (.bool false) ∧ Below wx.heap.size wx w') := fun wx hx => by have := hasNew_any now g n cap last L p wx hn h8 hp hx; rw [hd] at this; exact this
  have CG : Hid (∀ wx, S15.StAt wx g 0 L → Calls Try.prog 39 #[.agg #[.func (.func 34) #[] #[], .func (.func 35) #[] #[], .string now, .slice (some ⟨g, 0, none⟩) (n + 1) cap, .int .u64 (last : Int)], .int .u64 (wait : Int), .int .u64 (beat : Int)] wx fun e w' => e = .returned (.int .u64 (X : Int)) ∧ Below wx.heap.size wx w') := fun wx hx => by have := again_any now g n cap last L p wx hn h8 hp hx wait beat hw hbt hl ht; rw [← hX] at this; exact this
  have CI : Hid (∀ wx g' cap', S15.StAt wx g' 0 (L.set n ⟨p.num, tk, p.tx⟩) → Calls Try.prog 41 #[.agg #[.func (.func 34) #[] #[], .func (.func 35) #[] #[], .string now, .slice (some ⟨g', 0, none⟩) (n + 1) cap', .int .u64 (tk : Int)], .int .u64 (ack : Int)] wx fun e w' => e = .returned (.agg #[.int .u64 (b.num : Int), .int .u64 (p.num : Int), .int .u64 (ack : Int), .int .u64 (b.num : Int), .string (b.tx ++ ⟨#[62]⟩ ++ p.tx)]) ∧ Below wx.heap.size wx w') := fun wx g' cap' hx => instr_any now g' n cap' tk (L.set n ⟨p.num, tk, p.tx⟩) ⟨p.num, tk, p.tx⟩ wx (by simp [hn]) h8 (by rw [List.getElem?_set]; simp [hn]) hx b hb ack hbx hpx
  have HT := Lib.hid (S15.cellsL_tick hp tk)
  have HC := Lib.hid (S15.cellsL_get hp (show 1 < 3 by decide))
  have e1 : ((n + 1 : Nat) : Int) - 1 = (n : Int) := by omega
  have e2 : (n : Int) < ((n + 1 : Nat) : Int) := by omega
  have e3 : (((n + 1 : Nat) : Int) - 1).toNat = n := by omega
  have e4 : ¬ ((n + 1 : Nat) : Int) - 1 < 0 := by omega
  have la : g < w.heap.size := ha.lt
  have r1 : Row (((w.alloc (.cells #[.func (.func 34) #[] #[], .func (.func 35) #[] #[], .string now, .slice (some ⟨g, 0, none⟩) (n + 1) cap, .int .u64 (last : Int)] 42 (0, 0))).alloc (.cells #[.nilFunc, .nilFunc, .string ⟨#[]⟩, .slice none 0 0, .int .u64 0] 42 (0, 0))).alloc (.cells #[.int .u64 0, .int .u64 0, .int .u64 0, .int .u64 0, .string ⟨#[]⟩] 24 (0, 0))) w.heap.size 42 [.func (.func 34) #[] #[], .func (.func 35) #[] #[], .string now, .slice (some ⟨g, 0, none⟩) (n + 1) cap, .int .u64 (last : Int)] := ((Row.new' rfl rfl).alloc _).alloc _
  have q1 : Row (((w.alloc (.cells #[.func (.func 34) #[] #[], .func (.func 35) #[] #[], .string now, .slice (some ⟨g, 0, none⟩) (n + 1) cap, .int .u64 (last : Int)] 42 (0, 0))).alloc (.cells #[.nilFunc, .nilFunc, .string ⟨#[]⟩, .slice none 0 0, .int .u64 0] 42 (0, 0))).alloc (.cells #[.int .u64 0, .int .u64 0, .int .u64 0, .int .u64 0, .string ⟨#[]⟩] 24 (0, 0))) (w.heap.size + 1) 42 [.nilFunc, .nilFunc, .string ⟨#[]⟩, .slice none 0 0, .int .u64 0] := (Row.new' rfl (by simp)).alloc _
  have i1 : Row (((w.alloc (.cells #[.func (.func 34) #[] #[], .func (.func 35) #[] #[], .string now, .slice (some ⟨g, 0, none⟩) (n + 1) cap, .int .u64 (last : Int)] 42 (0, 0))).alloc (.cells #[.nilFunc, .nilFunc, .string ⟨#[]⟩, .slice none 0 0, .int .u64 0] 42 (0, 0))).alloc (.cells #[.int .u64 0, .int .u64 0, .int .u64 0, .int .u64 0, .string ⟨#[]⟩] 24 (0, 0))) (w.heap.size + 2) 24 [.int .u64 0, .int .u64 0, .int .u64 0, .int .u64 0, .string ⟨#[]⟩] := Row.new' rfl (by simp)
  have ha1 := ((ha.alloc (.cells #[.func (.func 34) #[] #[], .func (.func 35) #[] #[], .string now, .slice (some ⟨g, 0, none⟩) (n + 1) cap, .int .u64 (last : Int)] 42 (0, 0))).alloc (.cells #[.nilFunc, .nilFunc, .string ⟨#[]⟩, .slice none 0 0, .int .u64 0] 42 (0, 0))).alloc (.cells #[.int .u64 0, .int .u64 0, .int .u64 0, .int .u64 0, .string ⟨#[]⟩] 24 (0, 0))
  have bb : Below w.heap.size w (((w.alloc (.cells #[.func (.func 34) #[] #[], .func (.func 35) #[] #[], .string now, .slice (some ⟨g, 0, none⟩) (n + 1) cap, .int .u64 (last : Int)] 42 (0, 0))).alloc (.cells #[.nilFunc, .nilFunc, .string ⟨#[]⟩, .slice none 0 0, .int .u64 0] 42 (0, 0))).alloc (.cells #[.int .u64 0, .int .u64 0, .int .u64 0, .int .u64 0, .string ⟨#[]⟩] 24 (0, 0))) := (((Below.refl _ _).alloc (Nat.le_refl _) _).alloc (by simp) _).alloc (by simp; omega) _
  have h3 : w.heap.size + 3 ≤ (((w.alloc (.cells #[.func (.func 34) #[] #[], .func (.func 35) #[] #[], .string now, .slice (some ⟨g, 0, none⟩) (n + 1) cap, .int .u64 (last : Int)] 42 (0, 0))).alloc (.cells #[.nilFunc, .nilFunc, .string ⟨#[]⟩, .slice none 0 0, .int .u64 0] 42 (0, 0))).alloc (.cells #[.int .u64 0, .int .u64 0, .int .u64 0, .int .u64 0, .string ⟨#[]⟩] 24 (0, 0))).heap.size := by simp
  go_enter Try.func22, Try.ntmps22
  go_wp2_with fail
  generalize ((w.alloc (.cells #[.func (.func 34) #[] #[], .func (.func 35) #[] #[], .string now, .slice (some ⟨g, 0, none⟩) (n + 1) cap, .int .u64 (last : Int)] 42 (0, 0))).alloc (.cells #[.nilFunc, .nilFunc, .string ⟨#[]⟩, .slice none 0 0, .int .u64 0] 42 (0, 0))).alloc (.cells #[.int .u64 0, .int .u64 0, .int .u64 0, .int .u64 0, .string ⟨#[]⟩] 24 (0, 0)) = w1 at *
  clear ha hd hp hn hX hle
  refine (CC.out _ ha1).mono ?_
  rintro e wa6 ⟨v, rfl, hov, bwa6⟩
  replace r1 := r1.below bwa6 r1.lt
  replace q1 := q1.below bwa6 q1.lt
  replace i1 := i1.below bwa6 i1.lt
  replace ha1 := ha1.keep bwa6
  replace bb := bb.trans (bwa6.mono bb.size)
  clear bwa6
  obtain ⟨g', cap', rfl, hg1, hg2, hg3, hg4⟩ := S15.own_slice hov
  clear hg2
  go_wp2_with (first | refine wpList_load_row rfl 42 (.tmp 5) rfl (w.heap.size) rfl _ _ _ _ r1 Try.underlying42 rfl infoSn ?_)
  refine (CH.out _ ha1).mono ?_
  rintro e wa7 ⟨rfl, bwa7⟩
  replace r1 := r1.below bwa7 r1.lt
  replace q1 := q1.below bwa7 q1.lt
  replace i1 := i1.below bwa7 i1.lt
  replace ha1 := ha1.keep bwa7
  replace hov := ownT hov bwa7
  replace bb := bb.trans (bwa7.mono bb.size)
  clear bwa7
  go_wp2_with (first | refine wpList_load_row rfl 42 (.tmp 5) rfl (w.heap.size) rfl _ _ _ _ r1 Try.underlying42 rfl infoSn ?_)
  refine (CG.out _ ha1).mono ?_
  rintro e wa8 ⟨rfl, bwa8⟩
  replace r1 := r1.below bwa8 r1.lt
  replace q1 := q1.below bwa8 q1.lt
  replace i1 := i1.below bwa8 i1.lt
  replace ha1 := ha1.keep bwa8
  replace hov := ownT hov bwa8
  replace bb := bb.trans (bwa8.mono bb.size)
  clear bwa8
  have hc := (hov.cellAt (n * 3 + 1) (by omega)).trans HC.out
  simp only [S15.St.c, List.getElem?_cons_zero, List.getElem?_cons_succ] at hc
  have hf := hov.frozenAt (n * 3 + 1)
  have hst := (hov.stored (n * 3 + 1) (.int .u64 (tk : Int))).1
  rw [HT.out] at hst
  have hs := S15.StAt.of_owns hst
  have hlq := q1.lt
  have hli := i1.lt
  replace r1 := r1.other (k := g') (i := n * 3 + 1) (by omega) (.int .u64 (tk : Int))
  replace q1 := q1.other (k := g') (i := n * 3 + 1) (by omega) (.int .u64 (tk : Int))
  replace i1 := i1.other (k := g') (i := n * 3 + 1) (by omega) (.int .u64 (tk : Int))
  replace bb := bb.setCell (p := ⟨g', n * 3 + 1, none⟩) (by show _ ≤ g'; omega) (.int .u64 (tk : Int))
  clear hov hst ha1
  have c3 := r1.cell 3
  have f3 := r1.frozen 3
  simp only [List.getElem?_cons_zero, List.getElem?_cons_succ] at c3
  have r2 := r1.set 3 (.slice (some ⟨g', 0, none⟩) (n + 1) cap')
  simp only [List.set_cons_succ, List.set_cons_zero] at r2
  have c4 := r2.cell 4
  have f4 := r2.frozen 4
  simp only [List.getElem?_cons_zero, List.getElem?_cons_succ] at c4
  have r3 := r2.set 4 (.int .u64 (tk : Int))
  simp only [List.set_cons_succ, List.set_cons_zero] at r3
  have lr := r1.lt
  have lq := q1.lt
  have li := i1.lt
  have q3 := (q1.other (k := w.heap.size) (i := 3) (by omega) (.slice (some ⟨g', 0, none⟩) (n + 1) cap')).other (k := w.heap.size) (i := 4) (by omega) (.int .u64 (tk : Int))
  have i3 := (i1.other (k := w.heap.size) (i := 3) (by omega) (.slice (some ⟨g', 0, none⟩) (n + 1) cap')).other (k := w.heap.size) (i := 4) (by omega) (.int .u64 (tk : Int))
  have hs3 := (hs.other (k := w.heap.size) (i := 3) (by omega) (.slice (some ⟨g', 0, none⟩) (n + 1) cap')).other (k := w.heap.size) (i := 4) (by omega) (.int .u64 (tk : Int))
  have bb3 := (bb.setCell (p := ⟨w.heap.size, 3, none⟩) (Nat.le_refl _) (.slice (some ⟨g', 0, none⟩) (n + 1) cap')).setCell (p := ⟨w.heap.size, 4, none⟩) (Nat.le_refl _) (.int .u64 (tk : Int))
  clear r1 q1 i1 hs bb r2
  go_wp2
  generalize (((wa8.setCell ⟨g', n * 3 + 1, none⟩ (.int .u64 (tk : Int))).setCell ⟨w.heap.size, 3, none⟩ (.slice (some ⟨g', 0, none⟩) (n + 1) cap')).setCell ⟨w.heap.size, 4, none⟩ (.int .u64 (tk : Int))) = wt at *
  clear c3 f3 c4 f4
  refine wp_region_held_drew (S := fun w' => Row w' w.heap.size 42 [.func (.func 34) #[] #[], .func (.func 35) #[] #[], .string now, .slice (some ⟨g', 0, none⟩) (n + 1) cap', .int .u64 (tk : Int)] ∧ S15.StAt w' g' 0 (L.set n ⟨p.num, tk, p.tx⟩) ∧ Below w.heap.size w w') (by kernel_rfl) (⟨r3.drew, hs3.drew, bb3.drew⟩) (fun hHeld => ?_)
  replace q3 := q3.drew
  replace i3 := i3.drew
  generalize wt.drew = wd9 at *
  refine take_d 0 (some 51) (.agg #[.func (.func 34) #[] #[], .func (.func 35) #[] #[], .string now, .slice (some ⟨g', 0, none⟩) (n + 1) cap', .int .u64 (tk : Int)]) rfl (by kernel_rfl) (by kernel_rfl) (by kernel_rfl) (fun _ _ _ h => h) (fun oi h => by cases h; exact yieldsIf_load_mid (by rfl) 42 (.tmp 5) rfl w.heap.size 0 rfl [.func (.func 34) #[] #[], .func (.func 35) #[] #[], .string now, .slice (some ⟨g', 0, none⟩) (n + 1) cap', .int .u64 (tk : Int)] _ (fun w' hS' => hS'.1.range) Try.underlying42 rfl infoSn) hHeld ?_
  try simp only [Act.put, List.setIfInBounds_toArray, List.set_cons_zero, List.set_cons_succ]
  refine take_d 1 (some 52) (.agg #[.func (.func 34) #[] #[], .func (.func 35) #[] #[], .string now, .slice (some ⟨g', 0, none⟩) (n + 1) cap', .int .u64 (tk : Int)]) rfl (by kernel_rfl) (by kernel_rfl) (by kernel_rfl) (fun _ _ _ h => h) (fun oi h => by cases h; exact yieldsIf_load_mid (by rfl) 42 (.tmp 5) rfl w.heap.size 0 rfl [.func (.func 34) #[] #[], .func (.func 35) #[] #[], .string now, .slice (some ⟨g', 0, none⟩) (n + 1) cap', .int .u64 (tk : Int)] _ (fun w' hS' => hS'.1.range) Try.underlying42 rfl infoSn) hHeld ?_
  try simp only [Act.put, List.setIfInBounds_toArray, List.set_cons_zero, List.set_cons_succ]
  refine take_d 2 (some 53) (.int .u64 (ack : Int)) rfl (by kernel_rfl) (by kernel_rfl) (by kernel_rfl) (fun _ _ _ h => h) (fun oi h => by cases h; exact Or.inl ⟨by rfl, fun w' hS' => by go_simp⟩) hHeld ?_
  try simp only [Act.put, List.setIfInBounds_toArray, List.set_cons_zero, List.set_cons_succ]
  refine one_d 3 (some 54) rfl (by kernel_rfl) ?_
  intro o ho1 hd K hK
  cases ho1
  go_simp
  refine (CI.out _ g' cap' hHeld.2.1).mono ?_
  rintro e v10 ⟨rfl, bb0⟩
  replace q3 := q3.below bb0 q3.lt
  replace i3 := i3.below bb0 i3.lt
  refine hK.out _ _ (⟨hHeld.1.below bb0 hHeld.1.lt, hHeld.2.1.keep bb0, hHeld.2.2.trans (bb0.mono hHeld.2.2.size)⟩) (fun hHeld => ?_)
  clear bb0
  clear hK K hd
  try simp only [Act.put, List.setIfInBounds_toArray, List.set_cons_zero, List.set_cons_succ]
  refine one_d 4 none rfl (by kernel_rfl) ?_
  intro o ho1 hd K hK
  cases ho1
  refine step_store_row rfl 42 (.tmp 10) (.tmp 51) rfl ((w.heap.size + 1)) [.func (.func 34) #[] #[], .func (.func 35) #[] #[], .string now, .slice (some ⟨g', 0, none⟩) (n + 1) cap', .int .u64 (tk : Int)] rfl rfl _ _ q3 infoSn rfl (by simp [Value.oneCell']) ?_
  rw [hd]
  replace q3 := q3.setRow [.func (.func 34) #[] #[], .func (.func 35) #[] #[], .string now, .slice (some ⟨g', 0, none⟩) (n + 1) cap', .int .u64 (tk : Int)]
  replace i3 := i3.setRow_other (k := (w.heap.size + 1)) (by omega) (List.toArray [.func (.func 34) #[] #[], .func (.func 35) #[] #[], .string now, .slice (some ⟨g', 0, none⟩) (n + 1) cap', .int .u64 (tk : Int)])
  have hH : Row (v10.setRow ((w.heap.size + 1)) (List.toArray [.func (.func 34) #[] #[], .func (.func 35) #[] #[], .string now, .slice (some ⟨g', 0, none⟩) (n + 1) cap', .int .u64 (tk : Int)])) w.heap.size 42 [.func (.func 34) #[] #[], .func (.func 35) #[] #[], .string now, .slice (some ⟨g', 0, none⟩) (n + 1) cap', .int .u64 (tk : Int)] ∧ S15.StAt (v10.setRow ((w.heap.size + 1)) (List.toArray [.func (.func 34) #[] #[], .func (.func 35) #[] #[], .string now, .slice (some ⟨g', 0, none⟩) (n + 1) cap', .int .u64 (tk : Int)])) g' 0 (L.set n ⟨p.num, tk, p.tx⟩) ∧ Below w.heap.size w (v10.setRow ((w.heap.size + 1)) (List.toArray [.func (.func 34) #[] #[], .func (.func 35) #[] #[], .string now, .slice (some ⟨g', 0, none⟩) (n + 1) cap', .int .u64 (tk : Int)])) := ⟨hHeld.1.setRow_other (k := (w.heap.size + 1)) (by omega) (List.toArray [.func (.func 34) #[] #[], .func (.func 35) #[] #[], .string now, .slice (some ⟨g', 0, none⟩) (n + 1) cap', .int .u64 (tk : Int)]), hHeld.2.1.setRow (k := ((w.heap.size + 1))) (by omega) (List.toArray [.func (.func 34) #[] #[], .func (.func 35) #[] #[], .string now, .slice (some ⟨g', 0, none⟩) (n + 1) cap', .int .u64 (tk : Int)]), below_row hHeld.2.2 (show _ ≤ (w.heap.size + 1) by omega) (List.toArray [.func (.func 34) #[] #[], .func (.func 35) #[] #[], .string now, .slice (some ⟨g', 0, none⟩) (n + 1) cap', .int .u64 (tk : Int)])⟩
  clear hHeld
  generalize v10.setRow ((w.heap.size + 1)) (List.toArray [.func (.func 34) #[] #[], .func (.func 35) #[] #[], .string now, .slice (some ⟨g', 0, none⟩) (n + 1) cap', .int .u64 (tk : Int)]) = v11 at *
  refine hK.out _ _ hH (fun hHeld => ?_)
  clear hH
  clear hK K hd
  try simp only [Act.put]
  refine one_d 5 none rfl (by kernel_rfl) ?_
  intro o ho1 hd K hK
  cases ho1
  refine step_store_row rfl 24 (.tmp 11) (.tmp 54) rfl ((w.heap.size + 2)) [.int .u64 (b.num : Int), .int .u64 (p.num : Int), .int .u64 (ack : Int), .int .u64 (b.num : Int), .string (b.tx ++ ⟨#[62]⟩ ++ p.tx)] rfl rfl _ _ i3 infoIn rfl (by simp [Value.oneCell']) ?_
  rw [hd]
  replace q3 := q3.setRow_other (k := (w.heap.size + 2)) (by omega) (List.toArray [.int .u64 (b.num : Int), .int .u64 (p.num : Int), .int .u64 (ack : Int), .int .u64 (b.num : Int), .string (b.tx ++ ⟨#[62]⟩ ++ p.tx)])
  replace i3 := i3.setRow [.int .u64 (b.num : Int), .int .u64 (p.num : Int), .int .u64 (ack : Int), .int .u64 (b.num : Int), .string (b.tx ++ ⟨#[62]⟩ ++ p.tx)]
  have hH : Row (v11.setRow ((w.heap.size + 2)) (List.toArray [.int .u64 (b.num : Int), .int .u64 (p.num : Int), .int .u64 (ack : Int), .int .u64 (b.num : Int), .string (b.tx ++ ⟨#[62]⟩ ++ p.tx)])) w.heap.size 42 [.func (.func 34) #[] #[], .func (.func 35) #[] #[], .string now, .slice (some ⟨g', 0, none⟩) (n + 1) cap', .int .u64 (tk : Int)] ∧ S15.StAt (v11.setRow ((w.heap.size + 2)) (List.toArray [.int .u64 (b.num : Int), .int .u64 (p.num : Int), .int .u64 (ack : Int), .int .u64 (b.num : Int), .string (b.tx ++ ⟨#[62]⟩ ++ p.tx)])) g' 0 (L.set n ⟨p.num, tk, p.tx⟩) ∧ Below w.heap.size w (v11.setRow ((w.heap.size + 2)) (List.toArray [.int .u64 (b.num : Int), .int .u64 (p.num : Int), .int .u64 (ack : Int), .int .u64 (b.num : Int), .string (b.tx ++ ⟨#[62]⟩ ++ p.tx)])) := ⟨hHeld.1.setRow_other (k := (w.heap.size + 2)) (by omega) (List.toArray [.int .u64 (b.num : Int), .int .u64 (p.num : Int), .int .u64 (ack : Int), .int .u64 (b.num : Int), .string (b.tx ++ ⟨#[62]⟩ ++ p.tx)]), hHeld.2.1.setRow (k := ((w.heap.size + 2))) (by omega) (List.toArray [.int .u64 (b.num : Int), .int .u64 (p.num : Int), .int .u64 (ack : Int), .int .u64 (b.num : Int), .string (b.tx ++ ⟨#[62]⟩ ++ p.tx)]), below_row hHeld.2.2 (show _ ≤ (w.heap.size + 2) by omega) (List.toArray [.int .u64 (b.num : Int), .int .u64 (p.num : Int), .int .u64 (ack : Int), .int .u64 (b.num : Int), .string (b.tx ++ ⟨#[62]⟩ ++ p.tx)])⟩
  clear hHeld
  generalize v11.setRow ((w.heap.size + 2)) (List.toArray [.int .u64 (b.num : Int), .int .u64 (p.num : Int), .int .u64 (ack : Int), .int .u64 (b.num : Int), .string (b.tx ++ ⟨#[62]⟩ ++ p.tx)]) = v12 at *
  refine hK.out _ _ hH (fun hHeld => ?_)
  clear hH
  clear hK K hd
  try simp only [Act.put]
  refine take_d 6 (some 12) (.bool true) rfl (by kernel_rfl) (by kernel_rfl) (by kernel_rfl) (fun _ _ _ h => h) (fun oi h => by cases h; exact Or.inl ⟨by rfl, fun w' hS' => by go_simp⟩) hHeld ?_
  try simp only [Act.put, List.setIfInBounds_toArray]
  refine wpAnyH_done (by kernel_rfl) ?_ _
  try simp only [Act.put]
  replace r3 := hHeld.1
  replace hs3 := hHeld.2.1
  replace bb3 := hHeld.2.2
  clear hHeld
  go_wp2
  try simp only [Act.put, List.setIfInBounds_toArray]
  exact bodyPost_ret (results_row2_tmp rfl _ _ (w.heap.size + 1) 42 [.func (.func 34) #[] #[], .func (.func 35) #[] #[], .string now, .slice (some ⟨g', 0, none⟩) (n + 1) cap', .int .u64 (tk : Int)] _ (w.heap.size + 2) 24 [.int .u64 (b.num : Int), .int .u64 (p.num : Int), .int .u64 (ack : Int), .int .u64 (b.num : Int), .string (b.tx ++ ⟨#[62]⟩ ++ p.tx)] _ rfl q3 Try.underlying42 rfl infoSn rfl i3 Try.underlying24 rfl infoIn) rfl ⟨g', cap', rfl, hs3, ⟨by omega, by assumption⟩, bb3⟩

set_option maxHeartbeats 4000000 in
theorem next_none (now : ByteArray) (g n cap last : Nat) (L : List S15.St) (p : S15.St) (w : World) (hn : L.length = n + 1) (h8 : n < 8) (hp : L[n]? = some p) (ha : S15.StAt w g 0 L) (tk wait beat ack : Nat) (hw : wait ≤ 18446744073709551615) (hbt : beat ≤ 18446744073709551615) (hl : last ≤ 18446744073709551615) (ht : p.tick ≤ 18446744073709551615) (hcap : n + 1 ≤ cap ∧ cap ≤ maxLen) (hd : (decide (n < 7) && !decide (now = p.tx)) = false) (hgt : tk < S15.againN n last p.tick wait beat) :
    Calls Try.prog 22 #[.agg #[.func (.func 34) #[] #[], .func (.func 35) #[] #[], .string now, .slice (some ⟨g, 0, none⟩) (n + 1) cap, .int .u64 (last : Int)], .int .u64 (tk : Int), .int .u64 (wait : Int), .int .u64 (beat : Int), .int .u64 (ack : Int)] w fun e w' => e = .returned (.tuple #[.agg #[.func (.func 34) #[] #[], .func (.func 35) #[] #[], .string now, .slice (some ⟨g, 0, none⟩) (n + 1) cap, .int .u64 (last : Int)], .agg #[.int .u64 0, .int .u64 0, .int .u64 0, .int .u64 0, .string ⟨#[]⟩], .bool false]) ∧ Below w.heap.size w w' := by
  obtain ⟨X, hX⟩ : ∃ X, X = S15.againN n last p.tick wait beat := ⟨_, rfl⟩
  have gX : ¬ (X : Int) ≤ (tk : Int) := by omega
  have CC : Hid (∀ wx, S15.StAt wx g 0 L → Calls Try.prog 36 #[.slice (some ⟨g, 0, none⟩) (n + 1) cap] wx fun e w' => ∃ v, e = .returned v ∧ w'.ownsRow wx.heap.size 75 3 v (n + 1) (S15.cellsL L) ∧ Below wx.heap.size wx w') := fun wx hx => cloneSt_any g 0 n cap L wx hn (by omega) hx
  have CH : Hid (∀ wx, S15.StAt wx g 0 L → Calls Try.prog 38 #[.agg #[.func (.func 34) #[] #[], .func (.func 35) #[] #[], .string now, .slice (some ⟨g, 0, none⟩) (n + 1) cap, .int .u64 (last : Int)]] wx fun e w' => e = .returned (.bool false) ∧ Below wx.heap.size wx w') := fun wx hx => by have := hasNew_any now g n cap last L p wx hn h8 hp hx; rw [hd] at this; exact this
  have CG : Hid (∀ wx, S15.StAt wx g 0 L → Calls Try.prog 39 #[.agg #[.func (.func 34) #[] #[], .func (.func 35) #[] #[], .string now, .slice (some ⟨g, 0, none⟩) (n + 1) cap, .int .u64 (last : Int)], .int .u64 (wait : Int), .int .u64 (beat : Int)] wx fun e w' => e = .returned (.int .u64 (X : Int)) ∧ Below wx.heap.size wx w') := fun wx hx => by have := again_any now g n cap last L p wx hn h8 hp hx wait beat hw hbt hl ht; rw [← hX] at this; exact this
  have la : g < w.heap.size := ha.lt
  have r1 : Row (((w.alloc (.cells #[.func (.func 34) #[] #[], .func (.func 35) #[] #[], .string now, .slice (some ⟨g, 0, none⟩) (n + 1) cap, .int .u64 (last : Int)] 42 (0, 0))).alloc (.cells #[.nilFunc, .nilFunc, .string ⟨#[]⟩, .slice none 0 0, .int .u64 0] 42 (0, 0))).alloc (.cells #[.int .u64 0, .int .u64 0, .int .u64 0, .int .u64 0, .string ⟨#[]⟩] 24 (0, 0))) w.heap.size 42 [.func (.func 34) #[] #[], .func (.func 35) #[] #[], .string now, .slice (some ⟨g, 0, none⟩) (n + 1) cap, .int .u64 (last : Int)] := ((Row.new' rfl rfl).alloc _).alloc _
  have q1 : Row (((w.alloc (.cells #[.func (.func 34) #[] #[], .func (.func 35) #[] #[], .string now, .slice (some ⟨g, 0, none⟩) (n + 1) cap, .int .u64 (last : Int)] 42 (0, 0))).alloc (.cells #[.nilFunc, .nilFunc, .string ⟨#[]⟩, .slice none 0 0, .int .u64 0] 42 (0, 0))).alloc (.cells #[.int .u64 0, .int .u64 0, .int .u64 0, .int .u64 0, .string ⟨#[]⟩] 24 (0, 0))) (w.heap.size + 1) 42 [.nilFunc, .nilFunc, .string ⟨#[]⟩, .slice none 0 0, .int .u64 0] := (Row.new' rfl (by simp)).alloc _
  have i1 : Row (((w.alloc (.cells #[.func (.func 34) #[] #[], .func (.func 35) #[] #[], .string now, .slice (some ⟨g, 0, none⟩) (n + 1) cap, .int .u64 (last : Int)] 42 (0, 0))).alloc (.cells #[.nilFunc, .nilFunc, .string ⟨#[]⟩, .slice none 0 0, .int .u64 0] 42 (0, 0))).alloc (.cells #[.int .u64 0, .int .u64 0, .int .u64 0, .int .u64 0, .string ⟨#[]⟩] 24 (0, 0))) (w.heap.size + 2) 24 [.int .u64 0, .int .u64 0, .int .u64 0, .int .u64 0, .string ⟨#[]⟩] := Row.new' rfl (by simp)
  have ha1 := ((ha.alloc (.cells #[.func (.func 34) #[] #[], .func (.func 35) #[] #[], .string now, .slice (some ⟨g, 0, none⟩) (n + 1) cap, .int .u64 (last : Int)] 42 (0, 0))).alloc (.cells #[.nilFunc, .nilFunc, .string ⟨#[]⟩, .slice none 0 0, .int .u64 0] 42 (0, 0))).alloc (.cells #[.int .u64 0, .int .u64 0, .int .u64 0, .int .u64 0, .string ⟨#[]⟩] 24 (0, 0))
  have bb : Below w.heap.size w (((w.alloc (.cells #[.func (.func 34) #[] #[], .func (.func 35) #[] #[], .string now, .slice (some ⟨g, 0, none⟩) (n + 1) cap, .int .u64 (last : Int)] 42 (0, 0))).alloc (.cells #[.nilFunc, .nilFunc, .string ⟨#[]⟩, .slice none 0 0, .int .u64 0] 42 (0, 0))).alloc (.cells #[.int .u64 0, .int .u64 0, .int .u64 0, .int .u64 0, .string ⟨#[]⟩] 24 (0, 0))) := (((Below.refl _ _).alloc (Nat.le_refl _) _).alloc (by simp) _).alloc (by simp; omega) _
  have h3 : w.heap.size + 3 ≤ (((w.alloc (.cells #[.func (.func 34) #[] #[], .func (.func 35) #[] #[], .string now, .slice (some ⟨g, 0, none⟩) (n + 1) cap, .int .u64 (last : Int)] 42 (0, 0))).alloc (.cells #[.nilFunc, .nilFunc, .string ⟨#[]⟩, .slice none 0 0, .int .u64 0] 42 (0, 0))).alloc (.cells #[.int .u64 0, .int .u64 0, .int .u64 0, .int .u64 0, .string ⟨#[]⟩] 24 (0, 0))).heap.size := by simp
  go_enter Try.func22, Try.ntmps22
  go_wp2_with fail
  generalize ((w.alloc (.cells #[.func (.func 34) #[] #[], .func (.func 35) #[] #[], .string now, .slice (some ⟨g, 0, none⟩) (n + 1) cap, .int .u64 (last : Int)] 42 (0, 0))).alloc (.cells #[.nilFunc, .nilFunc, .string ⟨#[]⟩, .slice none 0 0, .int .u64 0] 42 (0, 0))).alloc (.cells #[.int .u64 0, .int .u64 0, .int .u64 0, .int .u64 0, .string ⟨#[]⟩] 24 (0, 0)) = w1 at *
  clear ha hd hp hn hX hgt
  refine (CC.out _ ha1).mono ?_
  rintro e wa6 ⟨v, rfl, hov, bwa6⟩
  replace r1 := r1.below bwa6 r1.lt
  replace q1 := q1.below bwa6 q1.lt
  replace i1 := i1.below bwa6 i1.lt
  replace ha1 := ha1.keep bwa6
  replace bb := bb.trans (bwa6.mono bb.size)
  clear bwa6
  obtain ⟨g', cap', rfl, hg1, hg2, hg3, hg4⟩ := S15.own_slice hov
  clear hg2
  go_wp2_with (first | refine wpList_load_row rfl 42 (.tmp 5) rfl (w.heap.size) rfl _ _ _ _ r1 Try.underlying42 rfl infoSn ?_)
  refine (CH.out _ ha1).mono ?_
  rintro e wa7 ⟨rfl, bwa7⟩
  replace r1 := r1.below bwa7 r1.lt
  replace q1 := q1.below bwa7 q1.lt
  replace i1 := i1.below bwa7 i1.lt
  replace ha1 := ha1.keep bwa7
  replace hov := ownT hov bwa7
  replace bb := bb.trans (bwa7.mono bb.size)
  clear bwa7
  go_wp2_with (first | refine wpList_load_row rfl 42 (.tmp 5) rfl (w.heap.size) rfl _ _ _ _ r1 Try.underlying42 rfl infoSn ?_)
  refine (CG.out _ ha1).mono ?_
  rintro e wa8 ⟨rfl, bwa8⟩
  replace r1 := r1.below bwa8 r1.lt
  replace q1 := q1.below bwa8 q1.lt
  replace i1 := i1.below bwa8 i1.lt
  replace ha1 := ha1.keep bwa8
  replace hov := ownT hov bwa8
  replace bb := bb.trans (bwa8.mono bb.size)
  clear bwa8
  clear hov
  go_wp2_with (first | refine wpList_load_row rfl 42 (.tmp 5) rfl (w.heap.size) rfl _ _ _ _ r1 Try.underlying42 rfl infoSn ?_ | refine wpList_store_row rfl 42 (.tmp 10) (.tmp 17) rfl ((w.heap.size + 1)) _ rfl rfl _ _ q1 infoSn rfl (by simp [Value.oneCell']) ?_ | refine wpList_store_row rfl 24 (.tmp 11) (.tmp 18) rfl (w.heap.size + 2) _ rfl rfl _ _ (i1.setRow_other (k := (w.heap.size + 1)) (by omega) (List.toArray [.func (.func 34) #[] #[], .func (.func 35) #[] #[], .string now, .slice (some ⟨g, 0, none⟩) (n + 1) cap, .int .u64 (last : Int)])) infoIn rfl (by simp [Value.oneCell']) ?_)
  exact bodyPost_ret (results_row2_tmp rfl _ _ (w.heap.size + 1) 42 [.func (.func 34) #[] #[], .func (.func 35) #[] #[], .string now, .slice (some ⟨g, 0, none⟩) (n + 1) cap, .int .u64 (last : Int)] _ (w.heap.size + 2) 24 [.int .u64 0, .int .u64 0, .int .u64 0, .int .u64 0, .string ⟨#[]⟩] _ rfl ((q1.setRow [.func (.func 34) #[] #[], .func (.func 35) #[] #[], .string now, .slice (some ⟨g, 0, none⟩) (n + 1) cap, .int .u64 (last : Int)]).setRow_other (k := w.heap.size + 2) (by omega) _) Try.underlying42 rfl infoSn rfl ((i1.setRow_other (k := (w.heap.size + 1)) (by omega) (List.toArray [.func (.func 34) #[] #[], .func (.func 35) #[] #[], .string now, .slice (some ⟨g, 0, none⟩) (n + 1) cap, .int .u64 (last : Int)])).setRow [.int .u64 0, .int .u64 0, .int .u64 0, .int .u64 0, .string ⟨#[]⟩]) Try.underlying24 rfl infoIn) rfl ⟨rfl, below_row (below_row bb (show _ ≤ w.heap.size + 1 by omega) _) (show _ ≤ w.heap.size + 2 by omega) _⟩

end Go.Proofs.Ytngoighdpmeepaa
