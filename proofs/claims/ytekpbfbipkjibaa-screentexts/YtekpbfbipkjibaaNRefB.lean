/-
  The document's side of layer 11: down.
-/
import Derived.Test.YtekpbfbipkjibaaNRefA
import Derived.Test.YtekpbfbipkjibaaNNew
namespace Go.Proofs.Ytekpbfbipkjibaa
open Go.RowKit
set_option linter.unusedVariables false
set_option maxRecDepth 20000

set_option maxHeartbeats 4000000 in
theorem refDown_yes (wd ht x y gq cap : Nat) (hy : y + 1 < ht) (h4 : ht ≤ 24) (w : World) :
    Calls Try.prog 35 #[.agg #[.int .i64 wd, .int .i64 ht, .int .i64 x, .int .i64 y, .slice (some ⟨gq, 0, none⟩) ht cap]] w fun e w' => e = .returned (.agg #[.int .i64 wd, .int .i64 ht, .int .i64 0, .int .i64 ((y + 1 : Nat) : Int), .slice (some ⟨gq, 0, none⟩) ht cap]) ∧ Below w.heap.size w w' := by
  obtain ⟨z, hz⟩ : ∃ z, z = y + 1 := ⟨_, rfl⟩
  rw [← hz]
  have e1 : (y : Int) + 1 = (z : Int) := by omega
  have w1 : IntKind.i64.wrap (z : Int) = (z : Int) := by rw [IntKind.wrap_i64]; omega
  have t1 : (z : Int) < (ht : Int) := by omega
  clear hz hy
  go_enter Try.func35, Try.ntmps35
  go_wp2
  refine bodyPost_ret (results_cell_row rfl _ _ (w.heap.size + 1) _ _ _ _ rfl (Row.new' (l := [.int .i64 wd, .int .i64 ht, .int .i64 0, .int .i64 z, .slice (some ⟨gq, 0, none⟩) ht cap]) rfl (by simp)) Try.underlying33 rfl infoRS) rfl ⟨rfl, ?_⟩
  exact ((Below.refl _ _).alloc (Nat.le_refl _) _).alloc (by simp) _

set_option maxHeartbeats 8000000 in
theorem refDown_core2 (wd ht x y gq cap k' B : Nat) (R : List (List UInt8)) (hy : y + 1 = ht) (h2 : wd ≤ 80) (h4 : ht ≤ 24) (w : World) (ho : w.ownsRow B 9 1 (.slice (some ⟨gq, 0, none⟩) ht cap) ht (txt R)) (hlt : gq < w.heap.size) (hk : ¬ cap = 1 ∧ k' = 1) (hcap : ht ≤ cap) :
    Calls Try.prog 35 #[.agg #[.int .i64 wd, .int .i64 ht, .int .i64 x, .int .i64 y, .slice (some ⟨gq, 0, none⟩) ht cap]] w fun e w' => ∃ g2 cap2, e = .returned (.agg #[.int .i64 wd, .int .i64 ht, .int .i64 0, .int .i64 y, .slice (some ⟨g2, 0, none⟩) ht cap2]) ∧ w'.ownsRow w.heap.size 9 1 (.slice (some ⟨g2, 0, none⟩) ht cap2) ht (txt (R.drop 1 ++ [List.replicate wd 32])) ∧ Below w.heap.size w w' := by
  obtain ⟨i0, hi, hz0, hz1, hz2⟩ := infoN infoStrN
  obtain ⟨T, hT⟩ : ∃ T, T = R.drop 1 := ⟨_, rfl⟩
  obtain ⟨BW, hBW⟩ : ∃ BW : ByteArray, BW = ⟨(List.replicate wd (32 : UInt8)).toArray⟩ := ⟨_, rfl⟩
  have CB : Hid (∀ wx, Calls Try.prog 36 #[.int .i64 wd] wx fun e w' => e = .returned (.string BW) ∧ w' = wx) := fun wx => by rw [hBW]; exact refBlank_any wd (by omega) wx
  have HBW := Lib.hid hBW
  have hRl : R.length = ht := by have := ho.1; simpa [txt] using this
  obtain ⟨z, hz⟩ : ∃ z, z = y + 1 := ⟨_, rfl⟩
  have e1 : (y : Int) + 1 = (z : Int) := by omega
  have w1 : IntKind.i64.wrap (z : Int) = (z : Int) := by rw [IntKind.wrap_i64]; omega
  have t1 : ¬ (z : Int) < (ht : Int) := by omega
  have hnews : ∀ (o : Obj) (o' : Obj) (j : Nat) u, (txt T)[j]? = some u → ((w.alloc o).alloc o').cell? ((⟨gq, k', none⟩ : Addr).add j) = some u := fun o o' j u hj => by
    have hjl : j < ht - 1 := by
      have := (List.getElem?_eq_some_iff.1 hj).1
      rw [txt_len, hT, List.length_drop, hRl] at this; exact this
    have hk1 : k' = 1 := by omega
    have ho2 := (ho.alloc o).alloc o'
    have ea : (⟨gq, k', none⟩ : Addr).add j = ⟨gq, 1 + j, none⟩ := by unfold Addr.add; split <;> simp_all
    rw [ea, ho2.cellAt (1 + j) (by omega), ← hj, Nat.add_comm 1 j]
    rw [hT]
    simp [txt]
  have hnl : (txt T).length = ht - 1 := by rw [txt_len, hT, List.length_drop, hRl]
  have hone : ∀ u ∈ txt T, u.oneCell' = true := fun u hu => by
    obtain ⟨q, _, rfl⟩ := List.mem_map.1 hu; rfl
  obtain ⟨m, hm⟩ : ∃ m, m = ht - 1 := ⟨_, rfl⟩
  rw [← hm] at hnl
  have g1 : ¬ (ht : Int) < 1 := by omega
  have hm2 : ht - 1 = m := hm.symm
  have HM : Hid (m + 1 = ht) := by show _ = _; omega
  have r1 : Row ((w.alloc (.cells #[.int .i64 wd, .int .i64 ht, .int .i64 0, .int .i64 y, .slice (some ⟨gq, 0, none⟩) ht cap] 33 (0, 0))).alloc (.cells #[.int .i64 0, .int .i64 0, .int .i64 0, .int .i64 0, .slice none 0 0] 33 (0, 0))) w.heap.size 33 [.int .i64 wd, .int .i64 ht, .int .i64 0, .int .i64 y, .slice (some ⟨gq, 0, none⟩) ht cap] := (Row.new' rfl rfl).alloc _
  have r2 : Row ((w.alloc (.cells #[.int .i64 wd, .int .i64 ht, .int .i64 0, .int .i64 y, .slice (some ⟨gq, 0, none⟩) ht cap] 33 (0, 0))).alloc (.cells #[.int .i64 0, .int .i64 0, .int .i64 0, .int .i64 0, .slice none 0 0] 33 (0, 0))) (w.heap.size + 1) 33 [.int .i64 0, .int .i64 0, .int .i64 0, .int .i64 0, .slice none 0 0] := Row.new' rfl (by simp)
  have b2 : Below w.heap.size w ((w.alloc (.cells #[.int .i64 wd, .int .i64 ht, .int .i64 0, .int .i64 y, .slice (some ⟨gq, 0, none⟩) ht cap] 33 (0, 0))).alloc (.cells #[.int .i64 0, .int .i64 0, .int .i64 0, .int .i64 0, .slice none 0 0] 33 (0, 0))) := ((Below.refl _ _).alloc (Nat.le_refl _) _).alloc (by simp) _
  have hnn := hnews (.cells #[.int .i64 wd, .int .i64 ht, .int .i64 0, .int .i64 y, .slice (some ⟨gq, 0, none⟩) ht cap] 33 (0, 0)) (.cells #[.int .i64 0, .int .i64 0, .int .i64 0, .int .i64 0, .slice none 0 0] 33 (0, 0))
  have HNN : Hid (∀ (j : Nat) u, (txt T)[j]? = some u → _) := hnn
  have HONE : Hid (∀ u ∈ txt T, u.oneCell' = true) := hone
  have HNL := Lib.hid hnl
  have hmh : m ≤ 24 := by omega
  have HT := Lib.hid hT
  clear hT hBW hnews ho hnn hone hnl hz hy hm hRl
  have hk1 : k' = 1 := by omega
  have hc1 : ¬ cap = 1 := by omega
  have hc2 : ¬ 1 = cap := by omega
  clear hk
  subst hk1
  go_enter Try.func35, Try.ntmps35
  go_wp2_with (at_builtin; refine wpList_append_own _ rfl _ _ 31 rfl (w.heap.size + 2) 9 i0 (.string ⟨#[]⟩) 1 16 Try.underlying31 hi hz0 hz1 hz2 rfl (by decide) (.slice none 0 0) 0 [] rfl (World.ownsRow_nil _ _ _ _) ⟨gq, 1, none⟩ m (cap - 1) (txt T) rfl (by rw [HNL.out]; omega) HNN.out HONE.out (by unfold maxLen; omega) (by omega) (by simp) ?_)
  intro v5 w5 ho5 hgrow hnil
  have b5 : Below (w.heap.size + 2) _ w5 := (Below.refl _ _).grown hgrow (by simp) (fun k hk => by cases hk)
  have q1 := r1.below b5 (by omega)
  have q2 := r2.below b5 (by omega)
  have bb5 := b2.trans (b5.mono (by omega))
  have hs5 := b5.size
  clear r1 r2 b2 b5 hgrow hnil HNN HONE
  have c0 := q1.cell 0
  simp only [List.getElem?_cons_zero] at c0
  go_wp2_with fail
  refine (CB.out _).mono ?_
  rintro e wq ⟨rfl, rfl⟩
  go_wp2_with (at_builtin; refine wpList_append_own _ rfl _ _ 31 rfl (w.heap.size + 2) 9 i0 (.string ⟨#[]⟩) 1 16 Try.underlying31 hi hz0 hz1 hz2 rfl (by decide) v5 m _ rfl (ho5.alloc _) ⟨wq.heap.size, 0, none⟩ 1 1 [.string BW] rfl rfl (by intro j u hj; match j, hj with | 0, hj => simp at hj; subst hj; simp [Addr.add]) (by intro u hu; simp at hu; subst hu; rfl) (by unfold maxLen; omega) (by omega) (by simp at hs5 ⊢; omega) ?_)
  intro v6 w6 ho6 hgrow hnil
  obtain ⟨g6, cap6, rfl, hg6, hl6⟩ := World.ownsRow.form ho6 (by omega)
  have b6 : Below (w.heap.size + 2) (wq.alloc (.cells #[.string BW] 9 (0, 0))) w6 := (Below.refl _ _).grown hgrow (by simp at hs5 ⊢; omega) (fun k hk => ((ho5.alloc (.cells #[.string BW] 9 (0, 0))).lt k hk).1)
  have p1 := (q1.alloc (.cells #[.string BW] 9 (0, 0))).below b6 (by omega)
  have p2 := (q2.alloc (.cells #[.string BW] 9 (0, 0))).below b6 (by omega)
  have bb6 := (bb5.alloc bb5.size (.cells #[.string BW] 9 (0, 0))).trans (b6.mono (by omega))
  rw [HM.out] at ho6
  clear q1 q2 bb5 b6 hgrow hnil c0 ho5
  have c4 := p1.cell 4
  have f4 := p1.frozen 4
  simp only [List.getElem?_cons_zero, List.getElem?_cons_succ] at c4
  have p1' : Row (w6.setCell ⟨w.heap.size, 4, none⟩ (.slice (some ⟨g6, 0, none⟩) ht cap6)) w.heap.size 33 [.int .i64 wd, .int .i64 ht, .int .i64 0, .int .i64 y, .slice (some ⟨g6, 0, none⟩) ht cap6] := p1.set 4 (.slice (some ⟨g6, 0, none⟩) ht cap6)
  have p2' := p2.other (k := w.heap.size) (i := 4) (by omega) (.slice (some ⟨g6, 0, none⟩) ht cap6)
  have bb7 := bb6.setCell (p := ⟨w.heap.size, 4, none⟩) (Nat.le_refl _) (.slice (some ⟨g6, 0, none⟩) ht cap6)
  have ho7 : (w6.setCell ⟨w.heap.size, 4, none⟩ (.slice (some ⟨g6, 0, none⟩) ht cap6)).ownsRow (w.heap.size + 2) 9 1 (.slice (some ⟨g6, 0, none⟩) ht cap6) ht (txt T ++ [.string BW]) := own_setCell ho6 (by omega)
  have mh := HM.out
  go_wp2_with (first | refine wpList_load_row rfl 33 (.tmp 1) rfl w.heap.size rfl _ _ _ _ p1' Try.underlying33 rfl infoRS ?_ | refine wpList_store_row rfl 33 (.tmp 2) (.tmp 28) rfl (w.heap.size + 1) _ rfl rfl _ _ p2' infoRS rfl (by simp [Value.oneCell']) ?_)
  refine bodyPost_ret (results_cell_row rfl _ _ (w.heap.size + 1) _ _ _ _ rfl (p2'.setRow [.int .i64 wd, .int .i64 ht, .int .i64 0, .int .i64 y, .slice (some ⟨g6, 0, none⟩) ht cap6]) Try.underlying33 rfl infoRS) rfl ⟨g6, cap6, rfl, ?_, below_row bb7 (by omega) _⟩
  have hx : txt (R.drop 1 ++ [List.replicate wd 32]) = txt T ++ [.string BW] := by rw [txt_snoc, HBW.out, HT.out]
  rw [hx]
  exact own_setRow (own_monoN ho7 (by omega)) (World.ownsRow.lt ho7) (by omega) _

set_option maxHeartbeats 8000000 in
theorem refDown_core1 (wd x y gq B : Nat) (R : List (List UInt8)) (hy : y + 1 = 1) (h2 : wd ≤ 80) (w : World) (ho : w.ownsRow B 9 1 (.slice (some ⟨gq, 0, none⟩) 1 1) 1 (txt R)) (hlt : gq < w.heap.size) :
    Calls Try.prog 35 #[.agg #[.int .i64 wd, .int .i64 1, .int .i64 x, .int .i64 y, .slice (some ⟨gq, 0, none⟩) 1 1]] w fun e w' => ∃ g2 cap2, e = .returned (.agg #[.int .i64 wd, .int .i64 1, .int .i64 0, .int .i64 y, .slice (some ⟨g2, 0, none⟩) 1 cap2]) ∧ w'.ownsRow w.heap.size 9 1 (.slice (some ⟨g2, 0, none⟩) 1 cap2) 1 (txt (R.drop 1 ++ [List.replicate wd 32])) ∧ Below w.heap.size w w' := by
  obtain ⟨i0, hi, hz0, hz1, hz2⟩ := infoN infoStrN
  obtain ⟨T, hT⟩ : ∃ T, T = R.drop 1 := ⟨_, rfl⟩
  obtain ⟨BW, hBW⟩ : ∃ BW : ByteArray, BW = ⟨(List.replicate wd (32 : UInt8)).toArray⟩ := ⟨_, rfl⟩
  have CB : Hid (∀ wx, Calls Try.prog 36 #[.int .i64 wd] wx fun e w' => e = .returned (.string BW) ∧ w' = wx) := fun wx => by rw [hBW]; exact refBlank_any wd (by omega) wx
  have HBW := Lib.hid hBW
  have hRl : R.length = 1 := by have := ho.1; simpa [txt] using this
  obtain ⟨z, hz⟩ : ∃ z, z = y + 1 := ⟨_, rfl⟩
  have e1 : (y : Int) + 1 = (z : Int) := by omega
  have w1 : IntKind.i64.wrap (z : Int) = (z : Int) := by rw [IntKind.wrap_i64]; omega
  have t1 : ¬ (z : Int) < 1 := by omega
  have hnews : ∀ (o : Obj) (o' : Obj) (j : Nat) u, (txt T)[j]? = some u → ((w.alloc o).alloc o').cell? ((⟨gq, 0, none⟩ : Addr).add j) = some u := fun o o' j u hj => by
    have hjl : j < 1 - 1 := by
      have := (List.getElem?_eq_some_iff.1 hj).1
      rw [txt_len, hT, List.length_drop, hRl] at this; exact this
    exfalso
    omega
  have hnl : (txt T).length = 1 - 1 := by rw [txt_len, hT, List.length_drop, hRl]
  have hone : ∀ u ∈ txt T, u.oneCell' = true := fun u hu => by
    obtain ⟨q, _, rfl⟩ := List.mem_map.1 hu; rfl
  have r1 : Row ((w.alloc (.cells #[.int .i64 wd, .int .i64 1, .int .i64 0, .int .i64 y, .slice (some ⟨gq, 0, none⟩) 1 1] 33 (0, 0))).alloc (.cells #[.int .i64 0, .int .i64 0, .int .i64 0, .int .i64 0, .slice none 0 0] 33 (0, 0))) w.heap.size 33 [.int .i64 wd, .int .i64 1, .int .i64 0, .int .i64 y, .slice (some ⟨gq, 0, none⟩) 1 1] := (Row.new' rfl rfl).alloc _
  have r2 : Row ((w.alloc (.cells #[.int .i64 wd, .int .i64 1, .int .i64 0, .int .i64 y, .slice (some ⟨gq, 0, none⟩) 1 1] 33 (0, 0))).alloc (.cells #[.int .i64 0, .int .i64 0, .int .i64 0, .int .i64 0, .slice none 0 0] 33 (0, 0))) (w.heap.size + 1) 33 [.int .i64 0, .int .i64 0, .int .i64 0, .int .i64 0, .slice none 0 0] := Row.new' rfl (by simp)
  have b2 : Below w.heap.size w ((w.alloc (.cells #[.int .i64 wd, .int .i64 1, .int .i64 0, .int .i64 y, .slice (some ⟨gq, 0, none⟩) 1 1] 33 (0, 0))).alloc (.cells #[.int .i64 0, .int .i64 0, .int .i64 0, .int .i64 0, .slice none 0 0] 33 (0, 0))) := ((Below.refl _ _).alloc (Nat.le_refl _) _).alloc (by simp) _
  have hnn := hnews (.cells #[.int .i64 wd, .int .i64 1, .int .i64 0, .int .i64 y, .slice (some ⟨gq, 0, none⟩) 1 1] 33 (0, 0)) (.cells #[.int .i64 0, .int .i64 0, .int .i64 0, .int .i64 0, .slice none 0 0] 33 (0, 0))
  have HNN : Hid (∀ (j : Nat) u, (txt T)[j]? = some u → _) := hnn
  have HONE : Hid (∀ u ∈ txt T, u.oneCell' = true) := hone
  have HNL := Lib.hid hnl
  have HT := Lib.hid hT
  clear hT hBW hnews ho hnn hone hnl hz hy hRl
  go_enter Try.func35, Try.ntmps35
  go_wp2_with (at_builtin; refine wpList_append_own _ rfl _ _ 31 rfl (w.heap.size + 2) 9 i0 (.string ⟨#[]⟩) 1 16 Try.underlying31 hi hz0 hz1 hz2 rfl (by decide) (.slice none 0 0) 0 [] rfl (World.ownsRow_nil _ _ _ _) ⟨gq, 0, none⟩ 0 0 (txt T) rfl (by rw [HNL.out]) HNN.out HONE.out (by unfold maxLen; omega) (by omega) (by simp) ?_)
  intro v5 w5 ho5 hgrow hnil
  have b5 : Below (w.heap.size + 2) _ w5 := (Below.refl _ _).grown hgrow (by simp) (fun k hk => by cases hk)
  have q1 := r1.below b5 (by omega)
  have q2 := r2.below b5 (by omega)
  have bb5 := b2.trans (b5.mono (by omega))
  have hs5 := b5.size
  clear r1 r2 b2 b5 hgrow hnil HNN HONE
  have c0 := q1.cell 0
  simp only [List.getElem?_cons_zero] at c0
  go_wp2_with fail
  refine (CB.out _).mono ?_
  rintro e wq ⟨rfl, rfl⟩
  go_wp2_with (at_builtin; refine wpList_append_own _ rfl _ _ 31 rfl (w.heap.size + 2) 9 i0 (.string ⟨#[]⟩) 1 16 Try.underlying31 hi hz0 hz1 hz2 rfl (by decide) v5 0 _ rfl (ho5.alloc _) ⟨wq.heap.size, 0, none⟩ 1 1 [.string BW] rfl rfl (by intro j u hj; match j, hj with | 0, hj => simp at hj; subst hj; simp [Addr.add]) (by intro u hu; simp at hu; subst hu; rfl) (by unfold maxLen; omega) (by omega) (by simp at hs5 ⊢; omega) ?_)
  intro v6 w6 ho6 hgrow hnil
  obtain ⟨g6, cap6, rfl, hg6, hl6⟩ := World.ownsRow.form ho6 (by omega)
  have b6 : Below (w.heap.size + 2) (wq.alloc (.cells #[.string BW] 9 (0, 0))) w6 := (Below.refl _ _).grown hgrow (by simp at hs5 ⊢; omega) (fun k hk => ((ho5.alloc (.cells #[.string BW] 9 (0, 0))).lt k hk).1)
  have p1 := (q1.alloc (.cells #[.string BW] 9 (0, 0))).below b6 (by omega)
  have p2 := (q2.alloc (.cells #[.string BW] 9 (0, 0))).below b6 (by omega)
  have bb6 := (bb5.alloc bb5.size (.cells #[.string BW] 9 (0, 0))).trans (b6.mono (by omega))
  clear q1 q2 bb5 b6 hgrow hnil c0 ho5
  have c4 := p1.cell 4
  have f4 := p1.frozen 4
  simp only [List.getElem?_cons_zero, List.getElem?_cons_succ] at c4
  have p1' : Row (w6.setCell ⟨w.heap.size, 4, none⟩ (.slice (some ⟨g6, 0, none⟩) 1 cap6)) w.heap.size 33 [.int .i64 wd, .int .i64 1, .int .i64 0, .int .i64 y, .slice (some ⟨g6, 0, none⟩) 1 cap6] := p1.set 4 (.slice (some ⟨g6, 0, none⟩) 1 cap6)
  have p2' := p2.other (k := w.heap.size) (i := 4) (by omega) (.slice (some ⟨g6, 0, none⟩) 1 cap6)
  have bb7 := bb6.setCell (p := ⟨w.heap.size, 4, none⟩) (Nat.le_refl _) (.slice (some ⟨g6, 0, none⟩) 1 cap6)
  have ho7 : (w6.setCell ⟨w.heap.size, 4, none⟩ (.slice (some ⟨g6, 0, none⟩) 1 cap6)).ownsRow (w.heap.size + 2) 9 1 (.slice (some ⟨g6, 0, none⟩) 1 cap6) 1 (txt T ++ [.string BW]) := own_setCell ho6 (by omega)
  go_wp2_with (first | refine wpList_load_row rfl 33 (.tmp 1) rfl w.heap.size rfl _ _ _ _ p1' Try.underlying33 rfl infoRS ?_ | refine wpList_store_row rfl 33 (.tmp 2) (.tmp 28) rfl (w.heap.size + 1) _ rfl rfl _ _ p2' infoRS rfl (by simp [Value.oneCell']) ?_)
  refine bodyPost_ret (results_cell_row rfl _ _ (w.heap.size + 1) _ _ _ _ rfl (p2'.setRow [.int .i64 wd, .int .i64 1, .int .i64 0, .int .i64 y, .slice (some ⟨g6, 0, none⟩) 1 cap6]) Try.underlying33 rfl infoRS) rfl ⟨g6, cap6, rfl, ?_, below_row bb7 (by omega) _⟩
  have hx : txt (R.drop 1 ++ [List.replicate wd 32]) = txt T ++ [.string BW] := by rw [txt_snoc, HBW.out, HT.out]
  rw [hx]
  exact own_setRow (own_monoN ho7 (by omega)) (World.ownsRow.lt ho7) (by omega) _

theorem refDown_no (wd ht x y gq cap B : Nat) (R : List (List UInt8)) (hy : y + 1 = ht) (h2 : wd ≤ 80) (h4 : ht ≤ 24) (w : World) (ho : w.ownsRow B 9 1 (.slice (some ⟨gq, 0, none⟩) ht cap) ht (txt R)) :
    Calls Try.prog 35 #[.agg #[.int .i64 wd, .int .i64 ht, .int .i64 x, .int .i64 y, .slice (some ⟨gq, 0, none⟩) ht cap]] w fun e w' => ∃ g2 cap2, e = .returned (.agg #[.int .i64 wd, .int .i64 ht, .int .i64 0, .int .i64 y, .slice (some ⟨g2, 0, none⟩) ht cap2]) ∧ w'.ownsRow w.heap.size 9 1 (.slice (some ⟨g2, 0, none⟩) ht cap2) ht (txt (R.drop 1 ++ [List.replicate wd 32])) ∧ Below w.heap.size w w' := by
  have hlt : gq < w.heap.size := ((World.ownsRow.lt ho) gq rfl).2
  have hcap : ht ≤ cap := by
    rcases ho.2 with ⟨hh, _⟩ | ⟨g, c, cur, hh, _, _, hc, _⟩
    · cases hh
    · cases hh; exact hc
  by_cases hc : cap = 1
  · obtain rfl : ht = 1 := by omega
    subst hc
    exact refDown_core1 wd x y gq B R hy h2 w ho hlt
  · exact refDown_core2 wd ht x y gq cap 1 B R hy h2 h4 w ho hlt ⟨hc, rfl⟩ hcap

end Go.Proofs.Ytekpbfbipkjibaa
