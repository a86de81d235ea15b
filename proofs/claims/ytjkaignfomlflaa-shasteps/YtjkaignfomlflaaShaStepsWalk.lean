/-
  Layer 3: ShaSteps, the walk.
-/
import Derived.Test.YtjkaignfomlflaaShaEq
import Derived.Test.YtjkaignfomlflaaSAwake0
import Derived.Test.YtjkaignfomlflaaSExtLaws
import Derived.Test.YtjkaignfomlflaaSTake
import Derived.OpenShut
import Derived.Deep.Cut
import Derived.Deep.CutRange
import Derived.Deep.DeepCutAuto
import Derived.Deep.CutBlock
import Derived.Deep.LoopGhost
namespace Go.Proofs.Ytjkaignfomlflaa.ShaStepsW
open Go.RowKit
set_option linter.unusedVariables false

theorem wpList_load_g {P : Program} {ops : Array Oper} {rest : List Oper} {o : Oper} {a : Act} {w : World} {Q : Exit → Act → World → Prop} (hw : Region.wanted o (yielded ops a.tmps) = true) (ty : TypeId) (x : Operand) (ho : o.op = .load ty x)
    (g : Nat) (hx : a.eval x = .pointer (some ⟨g, 0, none⟩)) (t : TypeId) (l : List Value) (d : TypeDesc) (hg : Row w g t l)
    (hu : P.underlying ty = some d) (hd : (match d with | .struct _ | .array _ _ => true | _ => false) = true) (hi : (P.info? ty).map (·.size) = some l.toArray.size)
    (h : wpList P ops Q rest (a.put o.dst (.agg l.toArray)) w) : wpList P ops Q (o :: rest) a w := by
  unfold wpList
  rw [if_pos hw]
  exact Or.inl (wp_load_row ty x ho g hx t _ _ d hg hu hd hi h)

theorem ok_at {l : List Nat} (h : S.Ok l) (i : Nat) (hi : i < l.length) : l.getD i 0 < 4294967296 := by
  rw [List.getD_eq_getElem?_getD, List.getElem?_eq_getElem hi]; exact h _ (List.getElem_mem hi)
theorem info8 (l : List Nat) (hl : l.length = 8) : (Try.prog.info? 23).map (·.size) = some (u32s l).toArray.size := by rw [List.size_toArray, u32s_length, hl]; kernel_rfl
theorem info64 (l : List Nat) (hl : l.length = 64) : (Try.prog.info? 25).map (·.size) = some (u32s l).toArray.size := by rw [List.size_toArray, u32s_length, hl]; kernel_rfl

set_option maxRecDepth 20000 in
set_option maxHeartbeats 4000000 in
theorem core (h : List Nat) (hh : h.length = 8) (oh : S.Ok h) (a1 : ByteArray) (ha : a1.size ≤ 300) (w : World) :
    Calls Try.prog 3 #[.agg (u32s h).toArray, .string a1] w fun e w' => e = .returned (.bool true) ∧ Below w.heap.size w w' := by
  have CA : Hid (∀ wx, Calls Try.prog 4 #[] wx fun e w' => e = .returned (.bool true) ∧ Below wx.heap.size wx w') := fun wx => awake3_any wx
  have CK : Hid (∀ wx, Calls Try.prog 5 #[] wx fun e w' => e = .returned (.agg (u32s S.keys).toArray) ∧ Below wx.heap.size wx w') := fun wx => Keys_any wx
  have CS : Hid (∀ wx, Calls Try.prog 6 #[] wx fun e w' => e = .returned (.agg (u32s S.start).toArray) ∧ Below wx.heap.size wx w') := fun wx => Start_any wx
  have RK : Hid (∀ wx, Calls Try.prog 8 #[] wx fun e w' => e = .returned (.slice (some ⟨wx.heap.size, 0, none⟩) 64 64) ∧ Row w' wx.heap.size 22 (u32s S.keys) ∧ Below wx.heap.size wx w') := fun wx => refK_any wx
  have RS : Hid (∀ wx, Calls Try.prog 9 #[] wx fun e w' => e = .returned (.slice (some ⟨wx.heap.size, 0, none⟩) 8 8) ∧ Row w' wx.heap.size 22 (u32s S.start) ∧ Below wx.heap.size wx w') := fun wx => refStart_any wx
  have HKL : Hid (S.keys.length = 64) := by show _ = _; decide +kernel
  have HSL : Hid (S.start.length = 8) := by show _ = _; decide +kernel
  have HSO : Hid (S.Ok S.start) := S.start_ok
  have HSUM : Hid (S.sumL a1.data.toList = S.bytesOf (S.blocks (S.padL a1.data.toList) S.start ((S.padL a1.data.toList).length / 64))) := rfl
  have HSUL := Lib.hid (S.sumL_length a1.data.toList)
  have CSU : Hid (∀ (wy : World) (g : Nat), g = wy.heap.size → Calls Try.prog 13 #[.slice (some ⟨g, 0, none⟩) 1 1] (wy.alloc (.cells #[.string a1] 9 (0, 0))) fun e w' => e = .returned (.agg (W.cellsOf (S.sumL a1.data.toList)).toArray) ∧ Below (wy.alloc (.cells #[.string a1] 9 (0, 0))).heap.size (wy.alloc (.cells #[.string a1] 9 (0, 0))) w') := fun wy g hg => by
    subst hg
    have hl : allOf [a1] = a1.data.toList := by simp [allOf]
    have := sum_any (.slice (some ⟨wy.heap.size, 0, none⟩) 1 1) [a1] (wy.alloc (.cells #[.string a1] 9 (0, 0))) (isStrs_new wy 9 [a1] _ rfl 1 rfl) (by simp) (by rw [hl]; simp; omega)
    rw [hl] at this
    exact this
  generalize S.sumL a1.data.toList = SU at *
  generalize S.keys = K at *
  generalize S.start = B at *
  have hik := info64 K HKL.out
  have his := info8 B HSL.out
  have hih := info8 h hh
  have g1 : ¬ (300 : Int) < a1.size := by omega
  have r0 : Row (w.alloc (.cells (u32s h).toArray 23 (0, 0))) w.heap.size 23 (u32s h) := Row.new' rfl rfl
  have b0 : Below w.heap.size w (w.alloc (.cells (u32s h).toArray 23 (0, 0))) := (Below.refl _ _).alloc (Nat.le_refl _) _
  obtain ⟨w0, hw0⟩ : ∃ w0, w0 = w.alloc (.cells (u32s h).toArray 23 (0, 0)) := ⟨_, rfl⟩
  rw [← hw0] at r0 b0
  go_enter Try.func3, Try.ntmps3
  go_wp2_with fail
  rw [← hw0]
  clear hw0
  refine (CA.out _).mono ?_
  rintro e w1 ⟨rfl, b1⟩
  have r1 := r0.below b1 r0.lt
  have hb1 := b0.trans (b1.mono b0.size)
  clear b1 r0 b0 CA
  go_wp2_with fail
  refine (CK.out _).mono ?_
  rintro e w2 ⟨rfl, b2⟩
  have r2 := r1.below b2 r1.lt
  have hb2 := hb1.trans (b2.mono hb1.size)
  clear b2 r1 hb1 CK
  go_wp2_with fail
  refine (CS.out _).mono ?_
  rintro e w3 ⟨rfl, b3⟩
  have r3 := r2.below b3 r2.lt
  have hb3 := hb2.trans (b3.mono hb2.size)
  clear b3 r2 hb2 CS
  have ra : Row ((w3.alloc (.cells (u32s (List.replicate 64 0)).toArray 25 (0, 0))).alloc (.cells (u32s (List.replicate 8 0)).toArray 23 (0, 0))) w3.heap.size 25 (u32s (List.replicate 64 0)) := (Row.new' rfl rfl).alloc _
  have rb : Row ((w3.alloc (.cells (u32s (List.replicate 64 0)).toArray 25 (0, 0))).alloc (.cells (u32s (List.replicate 8 0)).toArray 23 (0, 0))) (w3.heap.size + 1) 23 (u32s (List.replicate 8 0)) := Row.new' rfl (by simp)
  have rc := (r3.alloc (.cells (u32s (List.replicate 64 0)).toArray 25 (0, 0))).alloc (.cells (u32s (List.replicate 8 0)).toArray 23 (0, 0))
  have hbc := (hb3.alloc hb3.size (.cells (u32s (List.replicate 64 0)).toArray 25 (0, 0))).alloc (by have := hb3.size; simp; omega) (.cells (u32s (List.replicate 8 0)).toArray 23 (0, 0))
  have h03 : w.heap.size < w3.heap.size := r3.lt
  have hsk : (u32s (List.replicate 64 0)).toArray.size = (u32s K).toArray.size := by rw [List.size_toArray, List.size_toArray, u32s_length, u32s_length, HKL.out, List.length_replicate]
  have hs8 : (u32s (List.replicate 8 0)).toArray.size = (u32s B).toArray.size := by rw [List.size_toArray, List.size_toArray, u32s_length, u32s_length, HSL.out, List.length_replicate]
  have ra2 := ra.setRow (u32s K)
  have rb2 := rb.setRow_other (show w3.heap.size + 1 ≠ w3.heap.size by omega) (u32s K).toArray
  have rc2 := rc.setRow_other (show w.heap.size ≠ w3.heap.size by omega) (u32s K).toArray
  have hb4 := below_row hbc (show w.heap.size ≤ w3.heap.size by omega) (u32s K).toArray
  have ra3 := ra2.setRow_other (show w3.heap.size ≠ w3.heap.size + 1 by omega) (u32s B).toArray
  have rb3 := rb2.setRow (u32s B)
  have rc3 := rc2.setRow_other (show w.heap.size ≠ w3.heap.size + 1 by omega) (u32s B).toArray
  have hb5 := below_row hb4 (show w.heap.size ≤ w3.heap.size + 1 by omega) (u32s B).toArray
  obtain ⟨HSK, HS8⟩ : Hid ((u32s (List.replicate 64 0)).toArray.size = (u32s K).toArray.size) ∧ Hid ((u32s (List.replicate 8 0)).toArray.size = (u32s B).toArray.size) := ⟨hsk, hs8⟩
  clear r3 hb3 rc hbc hsk hs8
  go_wp2_with (first
    | refine wpList_store_row rfl 25 (.tmp 5) (.tmp 17) rfl w3.heap.size _ rfl rfl _ _ ra hik HSK.out (u32s_one K) ?_
    | refine wpList_store_row rfl 23 (.tmp 6) (.tmp 18) rfl (w3.heap.size + 1) _ rfl rfl _ _ rb2 his HS8.out (u32s_one B) ?_)
  obtain ⟨gk, hgk⟩ : ∃ gk, gk = w3.heap.size := ⟨_, rfl⟩
  rw [← hgk] at ra3 rb3 rc3 hb5 ⊢
  show Code.wp _ _ _ _ ((((w3.alloc (.cells (u32s (List.replicate 64 0)).toArray 25 (0, 0))).alloc (.cells (u32s (List.replicate 8 0)).toArray 23 (0, 0))).setRow gk (u32s K).toArray).setRow (gk + 1) (u32s B).toArray)
  generalize (((w3.alloc (.cells (u32s (List.replicate 64 0)).toArray 25 (0, 0))).alloc (.cells (u32s (List.replicate 8 0)).toArray 23 (0, 0))).setRow gk (u32s K).toArray).setRow (gk + 1) (u32s B).toArray = w4 at *
  clear ra rb ra2 rb2 rc2 hb4 HSK HS8 hgk h03
  simp only [Act.put]
  refine wp_region_held_drew (S := fun w' => Row w' gk 25 (u32s K) ∧ Row w' (gk + 1) 23 (u32s B) ∧ Row w' w.heap.size 23 (u32s h) ∧ Below w.heap.size w w') (by kernel_rfl) ⟨ra3.drew, rb3.drew, rc3.drew, hb5.drew⟩ (fun hHeld => ?_)
  clear ra3 rb3 rc3 hb5
  refine take_d 0 (some 19) (.slice (some ⟨gk, 0, none⟩) 64 64) rfl (by kernel_rfl) (by kernel_rfl) (by kernel_rfl) (fun _ _ _ h => h) (fun oi h => by cases h; exact Or.inl ⟨by rfl, fun w' hS' => by go_simp⟩) hHeld ?_
  try simp only [Act.put, List.setIfInBounds_toArray, List.set_cons_zero, List.set_cons_succ]
  have EQ1 : Hid (∀ (wx : World) (g2 : Nat), Row wx gk 25 (u32s K) → Row wx g2 22 (u32s K) → Calls Try.prog 7 #[.slice (some ⟨gk, 0, none⟩) 64 64, .slice (some ⟨g2, 0, none⟩) 64 64] wx fun e w' => e = .returned (.bool true) ∧ Below wx.heap.size wx w') := fun wx g2 h1 h2 => equalW_any gk g2 64 64 64 K HKL.out.symm (by have := HKL.out; omega) wx h1 h2
  have EQ2 : Hid (∀ (wx : World) (g2 : Nat), Row wx (gk + 1) 23 (u32s B) → Row wx g2 22 (u32s B) → Calls Try.prog 7 #[.slice (some ⟨gk + 1, 0, none⟩) 8 8, .slice (some ⟨g2, 0, none⟩) 8 8] wx fun e w' => e = .returned (.bool true) ∧ Below wx.heap.size wx w') := fun wx g2 h1 h2 => equalW_any (gk + 1) g2 8 8 8 B HSL.out.symm (by have := HSL.out; omega) wx h1 h2
  refine one_d 1 (some 20) rfl (by kernel_rfl) ?_
  intro o ho' hd K' hK
  cases ho'
  go_simp
  refine (RK.out _).mono ?_
  rintro e w5 ⟨rfl, rq, bq⟩
  have hS2 : Row w5 gk 25 (u32s K) ∧ Row w5 (gk + 1) 23 (u32s B) ∧ Row w5 w.heap.size 23 (u32s h) ∧ Below w.heap.size w w5 := ⟨hHeld.1.below bq hHeld.1.lt, hHeld.2.1.below bq hHeld.2.1.lt, hHeld.2.2.1.below bq hHeld.2.2.1.lt, hHeld.2.2.2.trans (bq.mono hHeld.2.2.2.size)⟩
  clear bq hHeld
  refine hK.out _ _ hS2 (fun hHeld => ?_)
  clear hK K' hS2 hd
  try simp only [Act.put, List.setIfInBounds_toArray, List.set_cons_zero, List.set_cons_succ]
  refine one_d 2 (some 21) rfl (by kernel_rfl) ?_
  intro o ho' hd K' hK
  cases ho'
  go_simp
  refine (EQ1.out _ _ hHeld.1 rq).mono ?_
  rintro e w6 ⟨rfl, bq⟩
  have hS2 : Row w6 gk 25 (u32s K) ∧ Row w6 (gk + 1) 23 (u32s B) ∧ Row w6 w.heap.size 23 (u32s h) ∧ Below w.heap.size w w6 := ⟨hHeld.1.below bq hHeld.1.lt, hHeld.2.1.below bq hHeld.2.1.lt, hHeld.2.2.1.below bq hHeld.2.2.1.lt, hHeld.2.2.2.trans (bq.mono hHeld.2.2.2.size)⟩
  clear rq
  clear bq hHeld
  refine hK.out _ _ hS2 (fun hHeld => ?_)
  clear hK K' hS2 hd
  try simp only [Act.put, List.setIfInBounds_toArray, List.set_cons_zero, List.set_cons_succ]
  refine take_d 3 (some 22) (.bool false) rfl (by kernel_rfl) (by kernel_rfl) (by kernel_rfl) (fun _ _ _ h => h) (fun oi h => by cases h; exact Or.inl ⟨by rfl, fun w' hS' => by go_simp⟩) hHeld ?_
  try simp only [Act.put, List.setIfInBounds_toArray, List.set_cons_zero, List.set_cons_succ]
  refine take_d 4 (some 23) (.bool false) rfl (by kernel_rfl) (by kernel_rfl) (by kernel_rfl) (fun _ _ _ h => h) (fun oi h => by cases h; exact Or.inl ⟨by rfl, fun w' hS' => by go_simp⟩) hHeld ?_
  try simp only [Act.put, List.setIfInBounds_toArray, List.set_cons_zero, List.set_cons_succ]
  refine take_d 5 (some 24) (.slice (some ⟨gk + 1, 0, none⟩) 8 8) rfl (by kernel_rfl) (by kernel_rfl) (by kernel_rfl) (fun _ _ _ h => h) (fun oi h => by cases h; exact Or.inl ⟨by rfl, fun w' hS' => by go_simp⟩) hHeld ?_
  try simp only [Act.put, List.setIfInBounds_toArray, List.set_cons_zero, List.set_cons_succ]
  refine one_d 6 (some 25) rfl (by kernel_rfl) ?_
  intro o ho' hd K' hK
  cases ho'
  go_simp
  refine (RS.out _).mono ?_
  rintro e w7 ⟨rfl, rq, bq⟩
  have hS2 : Row w7 gk 25 (u32s K) ∧ Row w7 (gk + 1) 23 (u32s B) ∧ Row w7 w.heap.size 23 (u32s h) ∧ Below w.heap.size w w7 := ⟨hHeld.1.below bq hHeld.1.lt, hHeld.2.1.below bq hHeld.2.1.lt, hHeld.2.2.1.below bq hHeld.2.2.1.lt, hHeld.2.2.2.trans (bq.mono hHeld.2.2.2.size)⟩
  clear bq hHeld
  refine hK.out _ _ hS2 (fun hHeld => ?_)
  clear hK K' hS2 hd
  try simp only [Act.put, List.setIfInBounds_toArray, List.set_cons_zero, List.set_cons_succ]
  refine one_d 7 (some 26) rfl (by kernel_rfl) ?_
  intro o ho' hd K' hK
  cases ho'
  go_simp
  refine (EQ2.out _ _ hHeld.2.1 rq).mono ?_
  rintro e w8 ⟨rfl, bq⟩
  have hS2 : Row w8 gk 25 (u32s K) ∧ Row w8 (gk + 1) 23 (u32s B) ∧ Row w8 w.heap.size 23 (u32s h) ∧ Below w.heap.size w w8 := ⟨hHeld.1.below bq hHeld.1.lt, hHeld.2.1.below bq hHeld.2.1.lt, hHeld.2.2.1.below bq hHeld.2.2.1.lt, hHeld.2.2.2.trans (bq.mono hHeld.2.2.2.size)⟩
  clear rq
  clear bq hHeld
  refine hK.out _ _ hS2 (fun hHeld => ?_)
  clear hK K' hS2 hd
  try simp only [Act.put, List.setIfInBounds_toArray, List.set_cons_zero, List.set_cons_succ]
  refine take_d 8 (some 27) (.bool false) rfl (by kernel_rfl) (by kernel_rfl) (by kernel_rfl) (fun _ _ _ h => h) (fun oi h => by cases h; exact Or.inl ⟨by rfl, fun w' hS' => by go_simp⟩) hHeld ?_
  try simp only [Act.put, List.setIfInBounds_toArray, List.set_cons_zero, List.set_cons_succ]
  refine take_d 9 (some 28) (.bool false) rfl (by kernel_rfl) (by kernel_rfl) (by kernel_rfl) (fun _ _ _ h => h) (fun oi h => by cases h; exact Or.inl ⟨by rfl, fun w' hS' => by go_simp⟩) hHeld ?_
  try simp only [Act.put, List.setIfInBounds_toArray, List.set_cons_zero, List.set_cons_succ]
  obtain ⟨rK, rS, rH, hb8⟩ := hHeld
  refine wpAnyH_done (by kernel_rfl) ?_ _
  try simp only [Act.put]
  clear RK RS EQ1 EQ2
  obtain ⟨X, ev, CX, HXL, HC⟩ : ∃ (X : List Nat) (ev : Int), Hid (∀ wx, Calls Try.prog 10 #[.agg (u32s h).toArray, .string a1] wx fun e w' => e = .returned (.tuple #[.agg (u32s X).toArray, .int .i64 ev]) ∧ Below wx.heap.size wx w') ∧ Hid (X.length = 8) ∧ Hid ((a1.size = 64 ∧ ev = 0 ∧ X = S.stepL h a1.data.toList) ∨ (a1.size ≠ 64 ∧ ev = 4 ∧ X = List.replicate 8 0)) := by
    by_cases h64 : a1.size = 64
    · exact ⟨_, _, fun wx => stepX_yes h a1 hh oh h64 wx, S.stepL_length _ _, .inl ⟨h64, rfl, rfl⟩⟩
    · exact ⟨_, _, fun wx => stepX_no h a1 hh h64 (by omega) wx, List.length_replicate, .inr ⟨h64, rfl, rfl⟩⟩
  go_wp2_with (first
    | refine wpList_load_row rfl 23 (.tmp 2) rfl w.heap.size rfl _ _ _ _ rH Try.underlying23 rfl hih ?_)
  refine (CX.out _).mono ?_
  rintro e w9 ⟨rfl, b9⟩
  clear CX
  have rX : Row (w9.alloc (.cells (u32s X).toArray 23 (0, 0))) w9.heap.size 23 (u32s X) := Row.new' rfl rfl
  have rS9 := (rS.below b9 rS.lt).alloc (.cells (u32s X).toArray 23 (0, 0))
  have rH9 := (rH.below b9 rH.lt).alloc (.cells (u32s X).toArray 23 (0, 0))
  have hb9 := (hb8.trans (b9.mono hb8.size)).alloc (hb8.trans (b9.mono hb8.size)).size (.cells (u32s X).toArray 23 (0, 0))
  have hix := info8 X HXL.out
  have HX0 : Hid ((u32s (List.replicate 8 0)).toArray.size = (u32s X).toArray.size) := by show _ = _; rw [List.size_toArray, List.size_toArray, u32s_length, u32s_length, HXL.out, List.length_replicate]
  obtain ⟨gx, hgx⟩ : ∃ gx, gx = w9.heap.size := ⟨_, rfl⟩
  clear b9 rK rS rH hb8
  go_upto_region 9 with (first
    | (refine wpList_store_new rfl 23 (.tmp 7) (.tmp 33) rfl w9 (u32s (List.replicate 8 0)).toArray _ _ _ rfl rfl rfl hix HX0.out (u32s_one X) ?_; rw [← hgx] at rX ⊢; generalize w9.alloc (.cells (u32s X).toArray 23 (0, 0)) = wx at *; clear hgx HX0))
  go_upto_if 37 with fail
  go_cut [] (fun wc => Row wc (gk + 1) 23 (u32s B) ∧ Below w.heap.size w wc)
  case first =>
    rcases HC.out with ⟨h64, hev, hX⟩ | ⟨h64, hev, hX⟩
    · have RX : Hid (∀ wy, Row wy w.heap.size 23 (u32s h) → Calls Try.prog 11 #[.slice (some ⟨w.heap.size, 0, none⟩) 8 8, .string a1] wy fun e w' => ∃ g, e = .returned (.slice (some ⟨g, 0, none⟩) 8 8) ∧ Row w' g 22 (u32s X) ∧ Below wy.heap.size wy w') := fun wy hr => by rw [hX]; exact refStep_any w.heap.size h a1 hh oh h64 wy hr
      have EQ3 : Hid (∀ (wy : World) (g2 : Nat), Row wy gx 23 (u32s X) → Row wy g2 22 (u32s X) → Calls Try.prog 7 #[.slice (some ⟨gx, 0, none⟩) 8 8, .slice (some ⟨g2, 0, none⟩) 8 8] wy fun e w' => e = .returned (.bool true) ∧ Below wy.heap.size wy w') := fun wy g2 h1 h2 => equalW_any gx g2 8 8 8 X HXL.out.symm (by have := HXL.out; omega) wy h1 h2
      have hsi : (a1.size : Int) = 64 := by omega
      subst hev
      clear hX h64 HC
      go_wp2_with fail
      refine wp_region_held_drew (S := fun w' => Row w' gx 23 (u32s X) ∧ Row w' (gk + 1) 23 (u32s B) ∧ Row w' w.heap.size 23 (u32s h) ∧ Below w.heap.size w w') (by kernel_rfl) ⟨rX.drew, rS9.drew, rH9.drew, hb9.drew⟩ (fun hHeld => ?_)
      clear rX rS9 rH9 hb9
      refine take_d 0 (some 45) (.int .i64 0) rfl (by kernel_rfl) (by kernel_rfl) (by kernel_rfl) (fun _ _ _ h => h) (fun oi h => by cases h; exact Or.inl ⟨by rfl, fun w' hS' => by go_simp⟩) hHeld ?_
      try simp only [Act.put, List.setIfInBounds_toArray, List.set_cons_zero, List.set_cons_succ]
      refine take_d 1 (some 46) (.bool false) rfl (by kernel_rfl) (by kernel_rfl) (by kernel_rfl) (fun _ _ _ h => h) (fun oi h => by cases h; exact Or.inl ⟨by rfl, fun w' hS' => by go_simp⟩) hHeld ?_
      try simp only [Act.put, List.setIfInBounds_toArray, List.set_cons_zero, List.set_cons_succ]
      refine take_d 2 (some 47) (.bool false) rfl (by kernel_rfl) (by kernel_rfl) (by kernel_rfl) (fun _ _ _ h => h) (fun oi h => by cases h; exact Or.inl ⟨by rfl, fun w' hS' => by go_simp⟩) hHeld ?_
      try simp only [Act.put, List.setIfInBounds_toArray, List.set_cons_zero, List.set_cons_succ]
      refine take_d 3 (some 48) (.slice (some ⟨gx, 0, none⟩) 8 8) rfl (by kernel_rfl) (by kernel_rfl) (by kernel_rfl) (fun _ _ _ h => h) (fun oi h => by cases h; exact Or.inl ⟨by rfl, fun w' hS' => by go_simp⟩) hHeld ?_
      try simp only [Act.put, List.setIfInBounds_toArray, List.set_cons_zero, List.set_cons_succ]
      refine take_d 4 (some 49) (.slice (some ⟨w.heap.size, 0, none⟩) 8 8) rfl (by kernel_rfl) (by kernel_rfl) (by kernel_rfl) (fun _ _ _ h => h) (fun oi h => by cases h; exact Or.inl ⟨by rfl, fun w' hS' => by go_simp⟩) hHeld ?_
      try simp only [Act.put, List.setIfInBounds_toArray, List.set_cons_zero, List.set_cons_succ]
      refine take_d 5 (some 50) (.string a1) rfl (by kernel_rfl) (by kernel_rfl) (by kernel_rfl) (fun _ _ _ h => h) (fun oi h => by cases h; exact Or.inl ⟨by rfl, fun w' hS' => by go_simp⟩) hHeld ?_
      try simp only [Act.put, List.setIfInBounds_toArray, List.set_cons_zero, List.set_cons_succ]
      refine one_d 6 (some 51) rfl (by kernel_rfl) ?_
      intro o ho' hd K' hK
      cases ho'
      go_simp
      refine (RX.out _ hHeld.2.2.1).mono ?_
      rintro e w10 ⟨g2, rfl, rq, bq⟩
      have hS2 : Row w10 gx 23 (u32s X) ∧ Row w10 (gk + 1) 23 (u32s B) ∧ Row w10 w.heap.size 23 (u32s h) ∧ Below w.heap.size w w10 := ⟨hHeld.1.below bq hHeld.1.lt, hHeld.2.1.below bq hHeld.2.1.lt, hHeld.2.2.1.below bq hHeld.2.2.1.lt, hHeld.2.2.2.trans (bq.mono hHeld.2.2.2.size)⟩
      clear bq hHeld
      refine hK.out _ _ hS2 (fun hHeld => ?_)
      clear hK K' hS2 hd
      try simp only [Act.put, List.setIfInBounds_toArray, List.set_cons_zero, List.set_cons_succ]
      refine one_d 7 (some 52) rfl (by kernel_rfl) ?_
      intro o ho' hd K' hK
      cases ho'
      go_simp
      refine (EQ3.out _ _ hHeld.1 rq).mono ?_
      rintro e w11 ⟨rfl, bq⟩
      have hS2 : Row w11 gx 23 (u32s X) ∧ Row w11 (gk + 1) 23 (u32s B) ∧ Row w11 w.heap.size 23 (u32s h) ∧ Below w.heap.size w w11 := ⟨hHeld.1.below bq hHeld.1.lt, hHeld.2.1.below bq hHeld.2.1.lt, hHeld.2.2.1.below bq hHeld.2.2.1.lt, hHeld.2.2.2.trans (bq.mono hHeld.2.2.2.size)⟩
      clear rq
      clear bq hHeld
      refine hK.out _ _ hS2 (fun hHeld => ?_)
      clear hK K' hS2 hd
      try simp only [Act.put, List.setIfInBounds_toArray, List.set_cons_zero, List.set_cons_succ]
      refine take_d 8 (some 53) (.bool false) rfl (by kernel_rfl) (by kernel_rfl) (by kernel_rfl) (fun _ _ _ h => h) (fun oi h => by cases h; exact Or.inl ⟨by rfl, fun w' hS' => by go_simp⟩) hHeld ?_
      try simp only [Act.put, List.setIfInBounds_toArray, List.set_cons_zero, List.set_cons_succ]
      refine take_d 9 (some 54) (.bool false) rfl (by kernel_rfl) (by kernel_rfl) (by kernel_rfl) (fun _ _ _ h => h) (fun oi h => by cases h; exact Or.inl ⟨by rfl, fun w' hS' => by go_simp⟩) hHeld ?_
      try simp only [Act.put, List.setIfInBounds_toArray, List.set_cons_zero, List.set_cons_succ]
      obtain ⟨_, rB, _, hb12⟩ := hHeld
      refine wpAnyH_done (by kernel_rfl) ?_ _
      try simp only [Act.put]
      go_wp2_with fail
      go_meet
      exact ⟨rB, hb12⟩
    · have hsi : ¬ (a1.size : Int) = 64 := by omega
      subst hev
      subst hX
      have heq : (Op.equalIn 10000 23 (.agg (u32s [0, 0, 0, 0, 0, 0, 0, 0]).toArray) (.agg #[.int .u32 0, .int .u32 0, .int .u32 0, .int .u32 0, .int .u32 0, .int .u32 0, .int .u32 0, .int .u32 0])).run Try.prog wx = .ok true wx := by kernel_rfl
      go_wp2_with (first
        | refine wpList_load_g rfl 23 (.tmp 7) rfl gx rfl _ _ _ rX Try.underlying23 rfl hix ?_)
      go_meet
      exact ⟨rS9, hb9⟩
  case rest =>
    obtain ⟨rB, hbc⟩ := hcut
    clear rX rS9 rH9 hb9 HC hix hih HKL hik
    have rV : Row (wc.alloc (.cells (u32s B).toArray 23 (0, 0))) wc.heap.size 23 (u32s B) := Row.new' rfl rfl
    have hbv := hbc.alloc hbc.size (.cells (u32s B).toArray 23 (0, 0))
    have HB0 : Hid ((u32s (List.replicate 8 0)).toArray.size = (u32s B).toArray.size) := by show _ = _; rw [List.size_toArray, List.size_toArray, u32s_length, u32s_length, HSL.out, List.length_replicate]
    obtain ⟨gv, hgv⟩ : ∃ gv, gv = wc.heap.size := ⟨_, rfl⟩
    have hgw : Hid (w.heap.size ≤ gv) := by rw [hgv]; exact hbc.size
    go_wp2_with (first
      | refine wpList_load_row rfl 23 (.tmp 6) rfl (gk + 1) rfl _ _ _ _ rB Try.underlying23 rfl his ?_
      | (refine wpList_store_new rfl 23 (.tmp 9) (.tmp 55) rfl wc (u32s (List.replicate 8 0)).toArray _ _ _ rfl rfl rfl his HB0.out (u32s_one B) ?_; rw [← hgv] at rV ⊢; generalize wc.alloc (.cells (u32s B).toArray 23 (0, 0)) = wv at *; clear hgv HB0 rB hbc))
    refine ((whole_any a1 (by omega) _).mono fun e w' hx => (⟨_, hx.1, by simp, hx.2⟩ : ∃ x : ByteArray, e = .returned (.string x) ∧ x.data.toList = S.padL a1.data.toList ∧ Below wv.heap.size wv w')).mono ?_
    rintro e ww ⟨px, rfl, hpx, bp⟩
    have rV2 := rV.below bp rV.lt
    have hbw := hbv.trans (bp.mono hbv.size)
    have HPL : Hid ((S.padL a1.data.toList).length % 64 = 0) := S.padL_mod _
    clear bp rV hbv
    generalize S.padL a1.data.toList = PD at *
    obtain ⟨nb, hnb⟩ : ∃ nb, nb = PD.length / 64 := ⟨_, rfl⟩
    have HNB : Hid (PD.length = 64 * nb) := by show _ = _; have := HPL.out; omega
    have HB1 : Hid (∀ k, k < nb → S.stepL (S.blocks PD B k) ((PD.drop (64 * k)).take 64) = S.blocks PD B (k + 1)) := fun k hk => rfl
    have HBL : Hid (∀ k, (S.blocks PD B k).length = 8) := fun k => S.blocks_length HSL.out k
    have HBO : Hid (∀ k, S.Ok (S.blocks PD B k)) := fun k => S.blocks_ok HSO.out k
    rw [← hnb] at HSUM
    clear hnb
    go_wp2
    go_loopg [10] nb (fun gg pv wr => ∃ (k : Nat) (q : ByteArray), k ≤ nb ∧ nb - k ≤ gg ∧ pv = .string q ∧ Hid (q.data.toList = PD.drop (64 * k)) ∧ Row wr gv 23 (u32s (S.blocks PD B k)) ∧ Below w.heap.size w wr)
    case atStart => exact ⟨0, px, Nat.zero_le _, by omega, rfl, by show _ = _; rw [hpx, Nat.mul_zero, List.drop_zero], rV2, hbw⟩
    case round =>
      clear rV2 hbw hpx
      obtain ⟨k, q, hk, hgk', rfl, HQ, rv, br⟩ := hrel
      have hqs : q.size = 64 * nb - 64 * k := by
        have h1 : q.data.toList.length = q.size := by simp
        rw [← h1, HQ.out, List.length_drop, HNB.out]
      have HQS := Lib.hid hqs
      by_cases hkn : k < nb
      · have hq64 : 64 ≤ q.size := by omega
        have hqI : (64 : Int) ≤ (q.size : Int) := by omega
        have hne : q.toList.isEmpty = false := by
          rw [ByteArray.toList_eq]
          cases hc : q.data.toList with
          | nil => have h1 : q.data.toList.length = q.size := by simp
                   rw [hc] at h1; simp at h1; omega
          | cons x y => rfl
        obtain ⟨qf, hqf⟩ : ∃ qf : ByteArray, qf = q.extract 0 64 := ⟨_, rfl⟩
        obtain ⟨qr, hqr⟩ : ∃ qr : ByteArray, qr = q.extract 64 q.size := ⟨_, rfl⟩
        have hfl : qf.data.toList = (PD.drop (64 * k)).take 64 := by
          rw [← HQ.out, hqf]
          have := W.arr_take q.data.toList 64
          have e : q = ⟨q.data.toList.toArray⟩ := by cases q; simp
          rw [← e] at this
          rw [this]
        have hrl : Hid (qr.data.toList = PD.drop (64 * (k + 1))) := by
          show _ = _
          have := W.arr_drop q.data.toList 64
          have e : q = ⟨q.data.toList.toArray⟩ := by cases q; simp
          rw [← e] at this
          rw [hqr, this]
          show q.data.toList.drop 64 = _
          rw [HQ.out, List.drop_drop]
          congr 1
        have hfs : qf.size = 64 := by
          have h1 : qf.data.toList.length = qf.size := by simp
          rw [← h1, hfl, List.length_take, List.length_drop, HNB.out]; omega
        have CX : Hid (∀ wy, Calls Try.prog 10 #[.agg (u32s (S.blocks PD B k)).toArray, .string qf] wy fun e w' => e = .returned (.tuple #[.agg (u32s (S.blocks PD B (k + 1))).toArray, .int .i64 0]) ∧ Below wy.heap.size wy w') := fun wy => by
          have := stepX_yes (S.blocks PD B k) qf (HBL.out k) (HBO.out k) hfs wy
          rw [hfl, HB1.out k hkn] at this
          exact this
        have hiV := info8 _ (HBL.out k)
        have hiX := info8 _ (HBL.out (k + 1))
        have HVX : Hid ((u32s (S.blocks PD B k)).toArray.size = (u32s (S.blocks PD B (k + 1))).toArray.size) := by show _ = _; rw [List.size_toArray, List.size_toArray, u32s_length, u32s_length, HBL.out, HBL.out]
        have HXA := Lib.hid (u32s_one (S.blocks PD B (k + 1)))
        obtain ⟨V, hV⟩ : ∃ V, V = S.blocks PD B k := ⟨_, rfl⟩
        obtain ⟨Y, hY⟩ : ∃ Y, Y = S.blocks PD B (k + 1) := ⟨_, rfl⟩
        have HY := Lib.hid hY
        rw [← hV] at rv CX hiV HVX
        rw [← hY] at CX hiX HVX HXA
        rw [eq_comm] at hqf hqr
        clear hV hY hfl hfs hqs
        go_wp2_with fail
        refine wp_region_held_drew (S := fun w' => Below w.heap.size w w') (by kernel_rfl) br.drew (fun hHeld => ?_)
        have rv1 := rv.drew
        clear rv br
        refine take_d 1 (some 64) (.string q) rfl (by kernel_rfl) (by kernel_rfl) (by kernel_rfl) (fun _ _ _ h => h) (fun oi h => by cases h; exact Or.inl ⟨by rfl, fun w' hS' => by go_simp⟩) hHeld ?_
        try simp only [Act.put, List.setIfInBounds_toArray, List.set_cons_zero, List.set_cons_succ]
        refine take_d 2 (some 65) (.string qf) rfl (by kernel_rfl) (by kernel_rfl) (by kernel_rfl) (fun _ _ _ h => h) (fun oi h => by cases h; exact Or.inl ⟨by rfl, fun w' hS' => by go_simp⟩) hHeld ?_
        try simp only [Act.put, List.setIfInBounds_toArray, List.set_cons_zero, List.set_cons_succ]
        refine one_d 0 (some 63) rfl (by kernel_rfl) ?_
        intro o ho' hd K' hK
        cases ho'
        rw [if_pos (by rfl)]
        refine wp_load_row 23 (.tmp 9) rfl gv rfl _ _ _ _ rv1 Try.underlying23 rfl hiV ?_
        refine hK.out _ _ hHeld (fun hHeld => ?_)
        clear hK K' hd
        try simp only [Act.put, List.setIfInBounds_toArray]
        refine one_d 3 (some 66) rfl (by kernel_rfl) ?_
        intro o ho' hd K' hK
        cases ho'
        go_simp
        refine (CX.out _).mono ?_
        rintro e wq ⟨rfl, bq⟩
        have rv2 := rv1.below bq rv1.lt
        have hS2 := hHeld.trans (bq.mono hHeld.size)
        clear bq hHeld rv1
        refine hK.out _ _ hS2 (fun hHeld => ?_)
        clear hK K' hS2 hd
        try simp only [Act.put, List.setIfInBounds_toArray, List.set_cons_zero, List.set_cons_succ]
        refine take_d 4 (some 62) (.tuple #[.agg (u32s Y).toArray, .int .i64 0]) rfl (by kernel_rfl) (by kernel_rfl) (by kernel_rfl) (fun _ _ _ h => h) (fun oi h => by cases h; exact Or.inl ⟨by rfl, fun w' hS' => by go_simp⟩) hHeld ?_
        try simp only [Act.put, List.setIfInBounds_toArray, List.set_cons_zero, List.set_cons_succ]
        refine take_d 5 (some 67) (.agg (u32s Y).toArray) rfl (by kernel_rfl) (by kernel_rfl) (by kernel_rfl) (fun _ _ _ h => h) (fun oi h => by cases h; exact Or.inl ⟨by rfl, fun w' hS' => by go_simp⟩) hHeld ?_
        try simp only [Act.put, List.setIfInBounds_toArray, List.set_cons_zero, List.set_cons_succ]
        refine take_d 6 (some 68) (.int .i64 0) rfl (by kernel_rfl) (by kernel_rfl) (by kernel_rfl) (fun _ _ _ h => h) (fun oi h => by cases h; exact Or.inl ⟨by rfl, fun w' hS' => by go_simp⟩) hHeld ?_
        try simp only [Act.put, List.setIfInBounds_toArray, List.set_cons_zero, List.set_cons_succ]
        refine one_d 7 none rfl (by kernel_rfl) ?_
        intro o ho' hd K' hK
        cases ho'
        rw [if_pos (by rfl)]
        refine wp_store_row 23 (.tmp 9) (.tmp 67) rfl gv _ rfl rfl _ _ rv2 hiX HVX.out HXA.out ?_
        have rv3 := rv2.setRow (u32s Y)
        have hS2 := below_row hHeld hgw.out (u32s Y).toArray
        clear hHeld rv2
        refine hK.out _ _ hS2 (fun hHeld => ?_)
        clear hK K' hS2 hd
        try simp only [Act.put, List.setIfInBounds_toArray]
        refine take_d 8 (some 8) (.int .i64 0) rfl (by kernel_rfl) (by kernel_rfl) (by kernel_rfl) (fun _ _ _ h => h) (fun oi h => by cases h; exact Or.inl ⟨by rfl, fun w' hS' => by go_simp⟩) hHeld ?_
        refine wpAnyH_done (by kernel_rfl) ?_ _
        try simp only [Act.put]
        go_wp2
        go_roundg (nb - (k + 1))
        case measure => omega
        case rel => exact ⟨k + 1, qr, by omega, by omega, rfl, hrl, by rw [← HY.out]; exact rv3, hHeld⟩
      · obtain rfl : k = nb := by omega
        have hem : q.toList.isEmpty = true := by
          rw [ByteArray.toList_eq, List.isEmpty_iff, HQ.out]
          exact List.drop_eq_nil_of_le (by rw [HNB.out]; exact Nat.le_refl _)
        have HWL := Lib.hid (HBL.out k)
        have HWO := Lib.hid (HBO.out k)
        clear hqs HQS HQ HB1 HBL HBO
        generalize S.blocks PD B k = V at *
        obtain ⟨c0, e0, n0⟩ := S.byteNo V HWL.out 0 0 (by decide) (by decide)
        obtain ⟨c1, e1, n1⟩ := S.byteNo V HWL.out 0 1 (by decide) (by decide)
        obtain ⟨c2, e2, n2⟩ := S.byteNo V HWL.out 0 2 (by decide) (by decide)
        obtain ⟨c3, e3, n3⟩ := S.byteNo V HWL.out 0 3 (by decide) (by decide)
        obtain ⟨cl, el, nl⟩ := S.byteNo V HWL.out 7 3 (by decide) (by decide)
        have HOW := Lib.hid (S.or_word V HWL.out HWO.out 0 (by decide) c0 c1 c2 c3 e0 e1 e2 e3)
        rw [← HSUM.out] at e0 e1 e2 e3 el
        have HSM : Hid ((cl.toNat : Int) = ((V.getD 7 0 : Nat) : Int) % 256) := by show _ = _; rw [nl]; simp
        have v0 := (rv.cell 0).trans (u32s_at (by rw [HWL.out]; decide))
        have v7 := (rv.cell 7).trans (u32s_at (by rw [HWL.out]; decide))
        have hiy : (Try.prog.info? 37).map (·.size) = some (W.cellsOf SU).toArray.size := by rw [List.size_toArray, cellsOf_len, HSUL.out]; kernel_rfl
        have HY0 : Hid ((W.cellsOf (List.replicate 32 0)).toArray.size = (W.cellsOf SU).toArray.size) := by show _ = _; rw [List.size_toArray, List.size_toArray, cellsOf_len, cellsOf_len, HSUL.out, List.length_replicate]
        clear n0 n1 n2 n3 nl
        have rv1 := rv.alloc (.cells #[.string a1] 9 (0, 0))
        have br1 := br.alloc br.size (.cells #[.string a1] 9 (0, 0))
        go_wp2_with fail
        refine (CSU.out _ _ rfl).mono ?_
        rintro e wy ⟨rfl, by0⟩
        have rv2 := rv1.below by0 rv1.lt
        have br2 := br1.trans (by0.mono br1.size)
        clear by0 rv1 br1 rv br v0 v7 CSU
        have ry : Row (wy.alloc (.cells (W.cellsOf SU).toArray 37 (0, 0))) wy.heap.size 37 (W.cellsOf SU) := Row.new' rfl rfl
        have rv3 := rv2.alloc (.cells (W.cellsOf SU).toArray 37 (0, 0))
        have br3 := br2.alloc br2.size (.cells (W.cellsOf SU).toArray 37 (0, 0))
        obtain ⟨gy, hgy⟩ : ∃ gy, gy = wy.heap.size := ⟨_, rfl⟩
        have byteC : ∀ (j : Nat) (c : UInt8), SU[j]? = some c → (W.cellsOf SU)[j]? = some (.int .u8 (c.toNat : Int)) := fun j c hc => by simp [W.cellsOf, hc]
        go_upto_region 22 with (first
          | (refine wpList_store_new rfl 37 (.tmp 11) (.tmp 73) rfl wy (W.cellsOf (List.replicate 32 0)).toArray _ _ _ rfl rfl rfl hiy HY0.out (cellsOf_all _) ?_; rw [← hgy] at ry ⊢; generalize wy.alloc (.cells (W.cellsOf SU).toArray 37 (0, 0)) = wz at *; clear hgy HY0 rv2 br2))
        have v0 := (rv3.cell 0).trans (u32s_at (by rw [HWL.out]; decide))
        have v7 := (rv3.cell 7).trans (u32s_at (by rw [HWL.out]; decide))
        have y0 := (ry.cell 0).trans (byteC 0 c0 e0)
        have y1 := (ry.cell 1).trans (byteC 1 c1 e1)
        have y2 := (ry.cell 2).trans (byteC 2 c2 e2)
        have y3 := (ry.cell 3).trans (byteC 3 c3 e3)
        have yl := (ry.cell 31).trans (byteC 31 cl el)
        have x0 : V.getD 0 0 < 4294967296 := ok_at HWO.out 0 (by rw [HWL.out]; decide)
        have x7 : V.getD 7 0 < 4294967296 := ok_at HWO.out 7 (by rw [HWL.out]; decide)
        have b0 := c0.toNat_lt
        have b1 := c1.toNat_lt
        have b2 := c2.toNat_lt
        have b3 := c3.toNat_lt
        generalize V.getD 0 0 = p0 at *
        generalize V.getD 7 0 = p7 at *
        obtain ⟨o1, ho1⟩ : ∃ o, bits .or .u32 ((c0.toNat : Int) * 16777216) ((c1.toNat : Int) * 65536) = o := ⟨_, rfl⟩
        obtain ⟨o2, ho2⟩ : ∃ o, bits .or .u32 o1 ((c2.toNat : Int) * 256) = o := ⟨_, rfl⟩
        have ho3 : bits .or .u32 o2 (c3.toNat : Int) = (p0 : Int) := by rw [← ho2, ← ho1]; exact HOW.out
        have wq0 : IntKind.u32.wrap (c0.toNat : Int) = (c0.toNat : Int) := by rw [IntKind.wrap_u32]; omega
        have wq1 : IntKind.u32.wrap (c1.toNat : Int) = (c1.toNat : Int) := by rw [IntKind.wrap_u32]; omega
        have wq2 : IntKind.u32.wrap (c2.toNat : Int) = (c2.toNat : Int) := by rw [IntKind.wrap_u32]; omega
        have wq3 : IntKind.u32.wrap (c3.toNat : Int) = (c3.toNat : Int) := by rw [IntKind.wrap_u32]; omega
        have ws0 : IntKind.u32.wrap ((c0.toNat : Int) * 16777216) = (c0.toNat : Int) * 16777216 := by rw [IntKind.wrap_u32]; omega
        have ws1 : IntKind.u32.wrap ((c1.toNat : Int) * 65536) = (c1.toNat : Int) * 65536 := by rw [IntKind.wrap_u32]; omega
        have ws2 : IntKind.u32.wrap ((c2.toNat : Int) * 256) = (c2.toNat : Int) * 256 := by rw [IntKind.wrap_u32]; omega
        have wl : IntKind.u8.wrap (p7 : Int) = (cl.toNat : Int) := by rw [IntKind.wrap_u8, HSM.out]
        clear HOW HSM HWL HWO e0 e1 e2 e3 el byteC HSUM HSUL rv3 ry
        go_wp2
        go_ret
        exact ⟨rfl, br3⟩

set_option maxRecDepth 20000 in
set_option maxHeartbeats 4000000 in
theorem walk (a0 : List Int) (a1 : ByteArray) (w : World) (w0 : a0.length = 8) (u0 : ∀ z ∈ a0, (Lit.int .u32 z).wf = true) (w1 : a1.size ≤ maxLen) :
    Calls Try.prog 3 #[.agg (a0.map (Value.int .u32)).toArray, .string a1] w fun e w' => e = .returned (.bool true) ∧ Below w.heap.size w w' := by
  have hb : ∀ z ∈ a0, 0 ≤ z ∧ z ≤ 4294967295 := fun z hz => Go.bounds_u32 (u0 z hz)
  have e : a0.map (Value.int .u32) = u32s (a0.map Int.toNat) := by
    unfold u32s
    rw [List.map_map]
    apply List.map_congr_left
    intro z hz
    show Value.int .u32 z = Value.int .u32 ((z.toNat : Nat) : Int)
    rw [Int.toNat_of_nonneg (hb z hz).1]
  rw [e]
  have hh : (a0.map Int.toNat).length = 8 := by rw [List.length_map]; exact w0
  have oh : S.Ok (a0.map Int.toNat) := fun x hx => by
    obtain ⟨z, hz, rfl⟩ := List.mem_map.1 hx
    have := hb z hz
    omega
  by_cases hl : a1.size ≤ 300
  · exact core _ hh oh a1 hl w
  · generalize a0.map Int.toNat = h at *
    have g1 : (300 : Int) < a1.size := by omega
    have C0 : Hid (∀ wx, Calls Try.prog 4 #[] wx fun e w' => e = .returned (.bool true) ∧ Below wx.heap.size wx w') := fun wx => awake3_any wx
    have b0 : Below w.heap.size w (w.alloc (.cells (u32s h).toArray 23 (0, 0))) := (Below.refl _ _).alloc (Nat.le_refl _) _
    clear e hb u0 w0 w1 hl oh hh
    go_enter Try.func3, Try.ntmps3
    go_wp2_with fail
    refine (C0.out _).mono ?_
    rintro e wa ⟨rfl, ba⟩
    have bw := b0.trans (ba.mono b0.size)
    clear C0 ba b0
    go_wp2
    go_ret
    exact ⟨rfl, bw⟩

end Go.Proofs.Ytjkaignfomlflaa.ShaStepsW
