/-
  Several texts in one module: AWords.
-/
import Derived.Test.YtjkaignfomlflaaGreatMod1
import Derived.Test.YtjkaignfomlflaaGreatMod6
/-
  Layer 5: the document's Words.
-/
namespace Go.Proofs.YtjkaignfomlflaaGreat
open Go.RowKit
set_option linter.unusedVariables false
set_option maxRecDepth 20000

theorem infoFour : (Tryz.prog.info? 113).map (fun i => (i.zero, i.size, i.bytes)) = some (some (.agg #[.int .u8 0, .int .u8 0, .int .u8 0, .int .u8 0]), 4, 4) := by kernel_rfl
theorem addr0 (g j : Nat) : (⟨g, 0, none⟩ : Addr).add j = ⟨g, j, none⟩ := by unfold Addr.add; split <;> simp_all
theorem str_at (s : ByteArray) (p : Nat) (z : Int) (hz : z = p) (hp : p < s.size) (w : World) : (Instr.index 9 (.string s) (.int .i64 z)).run Tryz.prog w = .ok (.int .u8 ((s.data.toList.getD p 0).toNat : Int)) w := by
  subst hz
  rw [run_index_string w 9 s .i64 _ Tryz.underlying9, dif_pos ⟨by omega, by omega⟩]
  have e : s[(p : Int).toNat]'(by omega) = s.data.toList.getD p 0 := by
    rw [List.getD_eq_getElem?_getD, List.getElem?_eq_getElem (by simpa using hp)]; rfl
  rw [e]

/-- A row of four-byte words of the call's own. -/
theorem owns_row4 {w : World} {base : Nat} {e : TypeId} {v : Value} {n : Nat} {l : List UInt8} (h : w.ownsRow base e 4 v n (W.cellsOf l)) (hl : 0 < n) :
    ∃ g cap, v = .slice (some ⟨g, 0, none⟩) n cap ∧ base ≤ g ∧ g < w.heap.size ∧ n ≤ cap ∧ ∀ j, j < 4 * n → w.cell? ⟨g, j, none⟩ = some (.int .u8 ((l.getD j 0).toNat : Int)) := by
  have hlen : l.length = n * 4 := by have := h.1; rwa [c8_len] at this
  rcases h.2 with ⟨_, h0⟩ | ⟨g, cap, cur, rfl, hb, hg, hn, hm, hs, ht⟩
  · omega
  · refine ⟨g, cap, rfl, hb, (Array.getElem?_eq_some_iff.1 hg).1, hn, fun j hj => ?_⟩
    rw [cell_of_row w g j cur e (0, 0) hg]
    have h1 : (cur.toList.take (n * 4))[j]? = (W.cellsOf l)[j]? := by rw [ht]
    rw [List.getElem?_take, if_pos (by omega), Array.getElem?_toList, c8_at (by omega)] at h1
    exact h1

theorem cut_here {G A : Prop} (h : G → A) (g : G) : A := h g
theorem owns_other {w : World} {base : Nat} {e : TypeId} {size n : Nat} {g k i cap : Nat} {xs : List Value} (h : w.ownsRow base e size (.slice (some ⟨g, 0, none⟩) n cap) n xs) (hk : g ≠ k) (x : Value) : (w.setCell ⟨k, i, none⟩ x).ownsRow base e size (.slice (some ⟨g, 0, none⟩) n cap) n xs := by
  refine ⟨h.1, ?_⟩
  rcases h.2 with hn | ⟨g', cap', cur, hv, hb1, hgg, rest⟩
  · exact .inl hn
  · cases hv
    refine .inr ⟨g, cap, cur, rfl, hb1, ?_, rest⟩
    have r : Row w g e cur.toList := hgg
    exact r.other hk x
theorem owns_setRow {w : World} {base : Nat} {e : TypeId} {size n : Nat} {g k cap : Nat} {xs : List Value} (h : w.ownsRow base e size (.slice (some ⟨g, 0, none⟩) n cap) n xs) (hk : g ≠ k) (x : Array Value) : (w.setRow k x).ownsRow base e size (.slice (some ⟨g, 0, none⟩) n cap) n xs := by
  refine ⟨h.1, ?_⟩
  rcases h.2 with hn | ⟨g', cap', cur, hv, hb1, hgg, rest⟩
  · exact .inl hn
  · cases hv
    refine .inr ⟨g, cap, cur, rfl, hb1, ?_, rest⟩
    have r : Row w g e cur.toList := hgg
    exact r.setRow_other hk x

set_option maxRecDepth 20000 in
set_option maxHeartbeats 4000000 in
theorem words_any (s : ByteArray) (hs : s.size = 16) (gb capb : Nat) (w : World) (hgb : gb < w.heap.size) (hcap : 256 ≤ capb) (hbox : ∀ x : UInt8, w.cell? ⟨gb, x.toNat, none⟩ = some (.int .u8 ((E.sub x).toNat : Int))) :
    Calls Tryz.prog 55 #[.string s, .slice (some ⟨gb, 0, none⟩) 256 capb] w fun e w' => ∃ v, e = .returned v ∧ w'.ownsRow w.heap.size 113 4 v 44 (W.cellsOf (E.rks s.data.toList 11)) ∧ Below w.heap.size w w' := by
  obtain ⟨i0, hi, hz0, hz1, hz2⟩ := info_parts infoFour
  have hk : s.data.toList.length = 16 := by simpa using hs
  have HBX := Lib.hid hbox
  have HKL := Lib.hid (E.rks_length hk 11)
  have HI : Hid (∀ (p : Nat) (z : Int) (wx : World), z = p → p < 16 → (Instr.index 9 (.string s) (.int .i64 z)).run Tryz.prog wx = .ok (.int .u8 (((E.rks s.data.toList 11).getD p 0).toNat : Int)) wx) := fun p z wx hz hp => by
    rw [str_at s p z hz (by omega) wx]
    have := E.rks_at hk (r := 0) (j := p) (by decide) hp
    rw [Nat.mul_zero, Nat.zero_add] at this
    rw [this]; rfl
  have HW := Lib.hid (fun i q h4 hi hq => E.word_at hk i q h4 hi hq)
  generalize E.rks s.data.toList 11 = K at *
  have HT4 := Lib.hid (fun n h => E.take_four K n h)
  clear hbox hk
  go_enter Tryz.func55, Tryz.ntmps55
  go_wp2
  go_loopw [5, 6] (fun ov iv wr => ∃ i : Nat, i ≤ 4 ∧ iv = .int .i64 i ∧ wr.ownsRow w.heap.size 113 4 ov i (W.cellsOf (K.take (4 * i))) ∧ Below w.heap.size w wr) (fun _ iv _ => 4 - (intOf iv).toNat)
  case atStart => exact ⟨0, Nat.zero_le _, rfl, World.ownsRow_nil _ _ _ _, Below.refl _ _⟩
  case round =>
    obtain ⟨i, hi4, rfl, ho, hb⟩ := hrel
    by_cases hlt : i < 4
    · have hs4 : (i : Int) < 4 := by omega
      have hT := Lib.hid (HT4.out i (by rw [HKL.out]; omega))
      have hw0 : IntKind.i64.wrap (4 * (i : Int)) = 4 * (i : Int) := by rw [IntKind.wrap_i64]; omega
      have hw1 : IntKind.i64.wrap (4 * (i : Int) + 1) = 4 * (i : Int) + 1 := by rw [IntKind.wrap_i64]; omega
      have hw2 : IntKind.i64.wrap (4 * (i : Int) + 2) = 4 * (i : Int) + 2 := by rw [IntKind.wrap_i64]; omega
      have hw3 : IntKind.i64.wrap (4 * (i : Int) + 3) = 4 * (i : Int) + 3 := by rw [IntKind.wrap_i64]; omega
      have I0 : Hid (∀ wx, (Instr.index 9 (.string s) (.int .i64 (4 * (i : Int)))).run Tryz.prog wx = .ok (.int .u8 ((K.getD (4 * i) 0).toNat : Int)) wx) := fun wx => HI.out (4 * i) _ wx (by omega) (by omega)
      have I1 : Hid (∀ wx, (Instr.index 9 (.string s) (.int .i64 (4 * (i : Int) + 1))).run Tryz.prog wx = .ok (.int .u8 ((K.getD (4 * i + 1) 0).toNat : Int)) wx) := fun wx => HI.out (4 * i + 1) _ wx (by omega) (by omega)
      have I2 : Hid (∀ wx, (Instr.index 9 (.string s) (.int .i64 (4 * (i : Int) + 2))).run Tryz.prog wx = .ok (.int .u8 ((K.getD (4 * i + 2) 0).toNat : Int)) wx) := fun wx => HI.out (4 * i + 2) _ wx (by omega) (by omega)
      have I3 : Hid (∀ wx, (Instr.index 9 (.string s) (.int .i64 (4 * (i : Int) + 3))).run Tryz.prog wx = .ok (.int .u8 ((K.getD (4 * i + 3) 0).toNat : Int)) wx) := fun wx => HI.out (4 * i + 3) _ wx (by omega) (by omega)
      generalize K.getD (4 * i) 0 = x0 at *
      generalize K.getD (4 * i + 1) 0 = x1 at *
      generalize K.getD (4 * i + 2) 0 = x2 at *
      generalize K.getD (4 * i + 3) 0 = x3 at *
      have hbs := hb.size
      go_wp2_with fail
      refine wp_region_held_drew (S := fun _ => True) (by kernel_rfl) trivial (fun hHeld => ?_)
      refine take_d 0 (some 16) (u5) rfl (by kernel_rfl) (by kernel_rfl) (by kernel_rfl) (fun _ _ _ h => h) (fun oi h => by cases h; exact Or.inl ⟨by rfl, fun w' hS' => by go_simp⟩) hHeld ?_
      try simp only [Act.put, List.setIfInBounds_toArray, List.set_cons_zero, List.set_cons_succ]
      refine take_d 1 (some 17) (.string s) rfl (by kernel_rfl) (by kernel_rfl) (by kernel_rfl) (fun _ _ _ h => h) (fun oi h => by cases h; exact Or.inl ⟨by rfl, fun w' hS' => by go_simp⟩) hHeld ?_
      try simp only [Act.put, List.setIfInBounds_toArray, List.set_cons_zero, List.set_cons_succ]
      refine take_d 2 (some 18) (.int .i64 (i : Int)) rfl (by kernel_rfl) (by kernel_rfl) (by kernel_rfl) (fun _ _ _ h => h) (fun oi h => by cases h; exact Or.inl ⟨by rfl, fun w' hS' => by go_simp⟩) hHeld ?_
      try simp only [Act.put, List.setIfInBounds_toArray, List.set_cons_zero, List.set_cons_succ]
      refine take_d 3 (some 19) (.int .i64 (4 * (i : Int))) rfl (by kernel_rfl) (by kernel_rfl) (by kernel_rfl) (fun _ _ _ h => h) (fun oi h => by cases h; exact Or.inl ⟨by rfl, fun w' hS' => by go_simp⟩) hHeld ?_
      try simp only [Act.put, List.setIfInBounds_toArray, List.set_cons_zero, List.set_cons_succ]
      refine take_d 4 (some 20) (.int .u8 (x0.toNat : Int)) rfl (by kernel_rfl) (by kernel_rfl) (by kernel_rfl) (fun _ _ _ h => h) (fun oi h => by cases h; exact Or.inl ⟨by rfl, fun w' hS' => by have h := I0.out w'; go_simp⟩) hHeld ?_
      try simp only [Act.put, List.setIfInBounds_toArray, List.set_cons_zero, List.set_cons_succ]
      refine take_d 5 (some 21) (.string s) rfl (by kernel_rfl) (by kernel_rfl) (by kernel_rfl) (fun _ _ _ h => h) (fun oi h => by cases h; exact Or.inl ⟨by rfl, fun w' hS' => by go_simp⟩) hHeld ?_
      try simp only [Act.put, List.setIfInBounds_toArray, List.set_cons_zero, List.set_cons_succ]
      refine take_d 6 (some 22) (.int .i64 (i : Int)) rfl (by kernel_rfl) (by kernel_rfl) (by kernel_rfl) (fun _ _ _ h => h) (fun oi h => by cases h; exact Or.inl ⟨by rfl, fun w' hS' => by go_simp⟩) hHeld ?_
      try simp only [Act.put, List.setIfInBounds_toArray, List.set_cons_zero, List.set_cons_succ]
      refine take_d 7 (some 23) (.int .i64 (4 * (i : Int))) rfl (by kernel_rfl) (by kernel_rfl) (by kernel_rfl) (fun _ _ _ h => h) (fun oi h => by cases h; exact Or.inl ⟨by rfl, fun w' hS' => by go_simp⟩) hHeld ?_
      try simp only [Act.put, List.setIfInBounds_toArray, List.set_cons_zero, List.set_cons_succ]
      refine take_d 8 (some 24) (.int .i64 (4 * (i : Int) + 1)) rfl (by kernel_rfl) (by kernel_rfl) (by kernel_rfl) (fun _ _ _ h => h) (fun oi h => by cases h; exact Or.inl ⟨by rfl, fun w' hS' => by go_simp⟩) hHeld ?_
      try simp only [Act.put, List.setIfInBounds_toArray, List.set_cons_zero, List.set_cons_succ]
      refine take_d 9 (some 25) (.int .u8 (x1.toNat : Int)) rfl (by kernel_rfl) (by kernel_rfl) (by kernel_rfl) (fun _ _ _ h => h) (fun oi h => by cases h; exact Or.inl ⟨by rfl, fun w' hS' => by have h := I1.out w'; go_simp⟩) hHeld ?_
      try simp only [Act.put, List.setIfInBounds_toArray, List.set_cons_zero, List.set_cons_succ]
      refine take_d 10 (some 26) (.string s) rfl (by kernel_rfl) (by kernel_rfl) (by kernel_rfl) (fun _ _ _ h => h) (fun oi h => by cases h; exact Or.inl ⟨by rfl, fun w' hS' => by go_simp⟩) hHeld ?_
      try simp only [Act.put, List.setIfInBounds_toArray, List.set_cons_zero, List.set_cons_succ]
      refine take_d 11 (some 27) (.int .i64 (i : Int)) rfl (by kernel_rfl) (by kernel_rfl) (by kernel_rfl) (fun _ _ _ h => h) (fun oi h => by cases h; exact Or.inl ⟨by rfl, fun w' hS' => by go_simp⟩) hHeld ?_
      try simp only [Act.put, List.setIfInBounds_toArray, List.set_cons_zero, List.set_cons_succ]
      refine take_d 12 (some 28) (.int .i64 (4 * (i : Int))) rfl (by kernel_rfl) (by kernel_rfl) (by kernel_rfl) (fun _ _ _ h => h) (fun oi h => by cases h; exact Or.inl ⟨by rfl, fun w' hS' => by go_simp⟩) hHeld ?_
      try simp only [Act.put, List.setIfInBounds_toArray, List.set_cons_zero, List.set_cons_succ]
      refine take_d 13 (some 29) (.int .i64 (4 * (i : Int) + 2)) rfl (by kernel_rfl) (by kernel_rfl) (by kernel_rfl) (fun _ _ _ h => h) (fun oi h => by cases h; exact Or.inl ⟨by rfl, fun w' hS' => by go_simp⟩) hHeld ?_
      try simp only [Act.put, List.setIfInBounds_toArray, List.set_cons_zero, List.set_cons_succ]
      refine take_d 14 (some 30) (.int .u8 (x2.toNat : Int)) rfl (by kernel_rfl) (by kernel_rfl) (by kernel_rfl) (fun _ _ _ h => h) (fun oi h => by cases h; exact Or.inl ⟨by rfl, fun w' hS' => by have h := I2.out w'; go_simp⟩) hHeld ?_
      try simp only [Act.put, List.setIfInBounds_toArray, List.set_cons_zero, List.set_cons_succ]
      refine take_d 15 (some 31) (.string s) rfl (by kernel_rfl) (by kernel_rfl) (by kernel_rfl) (fun _ _ _ h => h) (fun oi h => by cases h; exact Or.inl ⟨by rfl, fun w' hS' => by go_simp⟩) hHeld ?_
      try simp only [Act.put, List.setIfInBounds_toArray, List.set_cons_zero, List.set_cons_succ]
      refine take_d 16 (some 32) (.int .i64 (i : Int)) rfl (by kernel_rfl) (by kernel_rfl) (by kernel_rfl) (fun _ _ _ h => h) (fun oi h => by cases h; exact Or.inl ⟨by rfl, fun w' hS' => by go_simp⟩) hHeld ?_
      try simp only [Act.put, List.setIfInBounds_toArray, List.set_cons_zero, List.set_cons_succ]
      refine take_d 17 (some 33) (.int .i64 (4 * (i : Int))) rfl (by kernel_rfl) (by kernel_rfl) (by kernel_rfl) (fun _ _ _ h => h) (fun oi h => by cases h; exact Or.inl ⟨by rfl, fun w' hS' => by go_simp⟩) hHeld ?_
      try simp only [Act.put, List.setIfInBounds_toArray, List.set_cons_zero, List.set_cons_succ]
      refine take_d 18 (some 34) (.int .i64 (4 * (i : Int) + 3)) rfl (by kernel_rfl) (by kernel_rfl) (by kernel_rfl) (fun _ _ _ h => h) (fun oi h => by cases h; exact Or.inl ⟨by rfl, fun w' hS' => by go_simp⟩) hHeld ?_
      try simp only [Act.put, List.setIfInBounds_toArray, List.set_cons_zero, List.set_cons_succ]
      refine take_d 19 (some 35) (.int .u8 (x3.toNat : Int)) rfl (by kernel_rfl) (by kernel_rfl) (by kernel_rfl) (fun _ _ _ h => h) (fun oi h => by cases h; exact Or.inl ⟨by rfl, fun w' hS' => by have h := I3.out w'; go_simp⟩) hHeld ?_
      try simp only [Act.put, List.setIfInBounds_toArray, List.set_cons_zero, List.set_cons_succ]
      refine take_d 20 (some 36) (.agg #[.int .u8 (x0.toNat : Int), .int .u8 (x1.toNat : Int), .int .u8 (x2.toNat : Int), .int .u8 (x3.toNat : Int)]) rfl (by kernel_rfl) (by kernel_rfl) (by kernel_rfl) (fun _ _ _ h => h) (fun oi h => by cases h; exact Or.inl ⟨by rfl, fun w' hS' => by go_simp⟩) hHeld ?_
      try simp only [Act.put, List.setIfInBounds_toArray, List.set_cons_zero, List.set_cons_succ]
      refine one_d 21 (some 37) rfl (by kernel_rfl) ?_
      intro o ho' hd K' hK
      cases ho'
      go_simp
      have hoA := owns_below (ho.alloc (.cells #[Value.int .u8 (x0.toNat : Int), Value.int .u8 (x1.toNat : Int), Value.int .u8 (x2.toNat : Int), Value.int .u8 (x3.toNat : Int)] 113 (0, 0))) (Below.drew (Below.refl _ _)) (Nat.le_refl _)
      have rN : Row (wr.alloc (.cells #[Value.int .u8 (x0.toNat : Int), Value.int .u8 (x1.toNat : Int), Value.int .u8 (x2.toNat : Int), Value.int .u8 (x3.toNat : Int)] 113 (0, 0))).drew wr.heap.size 113 (W.cellsOf [x0, x1, x2, x3]) := Row.new' rfl rfl
      have hbA := (hb.alloc hbs (.cells #[Value.int .u8 (x0.toNat : Int), Value.int .u8 (x1.toNat : Int), Value.int .u8 (x2.toNat : Int), Value.int .u8 (x3.toNat : Int)] 113 (0, 0))).drew
      clear hd
      refine hK.out _ _ trivial (fun hHeld => ?_)
      clear hK K'
      try simp only [Act.put, List.setIfInBounds_toArray, List.set_cons_zero, List.set_cons_succ]
      refine one_d 22 (some 38) rfl (by kernel_rfl) ?_
      intro o ho' hd K' hK
      cases ho'
      rw [if_pos (by rfl)]
      refine wp_append_own _ (.tmp 16) (.tmp 37) 90 rfl w.heap.size 113 i0 _ 4 4 Tryz.underlying90 hi hz0 hz1 hz2 rfl (by decide) u5 i (W.cellsOf (K.take (4 * i))) rfl hoA ⟨wr.heap.size, 0, none⟩ 1 1 (W.cellsOf [x0, x1, x2, x3]) rfl rfl (fun j u hj => by rw [addr0, rN.cell]; exact hj) (c8_one _) (by unfold maxLen; omega) (by omega) (by have := hbA.size; omega) ?_
      intro v' w2 ho2 hgrow hnil
      rw [← c8_append, ← hT.out] at ho2
      have hb2 : Below w.heap.size w w2 := hbA.grown hgrow (by have := hbA.size; omega) (fun k hk => (hoA.lt k hk).1)
      clear hgrow hnil hoA rN hbA ho hb
      rw [hd]
      refine hK.out _ _ trivial (fun hHeld => ?_)
      clear hK K'
      try simp only [Act.put, List.setIfInBounds_toArray, List.set_cons_zero, List.set_cons_succ]
      refine take_d 23 (some 5) (v') rfl (by kernel_rfl) (by kernel_rfl) (by kernel_rfl) (fun _ _ _ h => h) (fun oi h => by cases h; exact Or.inl ⟨by rfl, fun w' hS' => by go_simp⟩) hHeld ?_
      try simp only [Act.put, List.setIfInBounds_toArray, List.set_cons_zero, List.set_cons_succ]
      clear hHeld
      refine wpAnyH_done (by kernel_rfl) ?_ _
      try simp only [Act.put]
      clear hd I0 I1 I2 I3 hw1 hw2 hw3 hT
      go_wp2
      go_roundw
      case rel => exact ⟨i + 1, by omega, by go_num, ho2, hb2⟩
      case measure => simp [intOf]; omega
    · have hi4' : i = 4 := by omega
      rw [hi4'] at ho
      have hs4' : ¬ (i : Int) < 4 := by omega
      clear hlt hi4 HI hi4'
      go_wp2
      go_loopw [5, 7, 8, 9, 10, 11] (fun ov cv iv _ _ _ wq => ∃ p : Nat, p ≤ 40 ∧ iv = .int .i64 ((p : Int) + 4) ∧ cv = .int .u8 ((E.dblN 1 ((p + 3) / 4)).toNat : Int) ∧ wq.ownsRow w.heap.size 113 4 ov (p + 4) (W.cellsOf (K.take (4 * (p + 4)))) ∧ Below w.heap.size w wq) (fun _ _ iv _ _ _ _ => 44 - (intOf iv).toNat)
      case atStart => exact ⟨0, Nat.zero_le _, rfl, rfl, ho, hb⟩
      case round =>
        clear ho hb
        obtain ⟨p, hp, rfl, rfl, ho, hb⟩ := hrel
        by_cases hlt : p < 40
        · obtain ⟨g, cap, rfl, hg1, hg2, hcp, hc0⟩ := owns_row4 ho (by omega)
          have HC : Hid (∀ j, j < 4 * (p + 4) → wr.cell? ⟨g, j, none⟩ = some (.int .u8 ((K.getD j 0).toNat : Int))) := fun j hj => by
            rw [hc0 j hj]; simp [List.getD_eq_getElem?_getD, hj]
          clear hc0
          have hs4 : (p : Int) + 4 < 44 := by omega
          have hp1 : (p : Int) + 3 < ((p + 4 : Nat) : Int) := by omega
          have hp0 : (p : Int) < ((p + 4 : Nat) : Int) := by omega
          have HXJ : Hid (∀ j, j < 4 → K.getD (p * 4 + j) 0 ^^^ E.wt K (p + 4) j = K.getD (4 * (p + 4) + j) 0) := fun j hj => by
            have := HW.out (p + 4) j (by omega) (by omega) hj
            rw [this, show 4 * (p + 4 - 4) + j = p * 4 + j from by omega]
          have HTP := Lib.hid (HT4.out (p + 4) (by rw [HKL.out]; omega))
          have HXL : Hid (∀ j, j < 4 → K.getD (p * 4 + j) 0 ^^^ [E.wt K (p + 4) 0, E.wt K (p + 4) 1, E.wt K (p + 4) 2, E.wt K (p + 4) 3].getD j 0 = [K.getD (4 * (p + 4)) 0, K.getD (4 * (p + 4) + 1) 0, K.getD (4 * (p + 4) + 2) 0, K.getD (4 * (p + 4) + 3) 0].getD j 0) := fun j hj => by
            obtain rfl | rfl | rfl | rfl : j = 0 ∨ j = 1 ∨ j = 2 ∨ j = 3 := by omega
            · exact HXJ.out 0 (by decide)
            · exact HXJ.out 1 (by decide)
            · exact HXJ.out 2 (by decide)
            · exact HXJ.out 3 (by decide)
          have HBW : Hid (∀ wx, Below w.heap.size w wx → ∀ x : UInt8, wx.cell? ⟨gb, x.toNat, none⟩ = some (.int .u8 ((E.sub x).toNat : Int))) := fun wx h x => by rw [h.cell (p := ⟨gb, _, none⟩) hgb]; exact HBX.out x
          clear HXJ
          have e0 := HC.out ((p + 3) * 4) (by omega)
          have e1 := HC.out ((p + 3) * 4 + 1) (by omega)
          have e2 := HC.out ((p + 3) * 4 + 2) (by omega)
          have e3 := HC.out ((p + 3) * 4 + 3) (by omega)
          have hbs := hb.size
          have hinf : (Tryz.prog.info? 113).map (·.size) = some 4 := by kernel_rfl
          by_cases h4 : p % 4 = 0
          · have hm : ((p : Int) % 4 == 0) = true := by rw [beq_iff_eq]; omega
            have HWT : Hid (E.wt K (p + 4) 0 = E.sub (K.getD ((p + 3) * 4 + 1) 0) ^^^ E.dblN 1 ((p + 3) / 4) ∧ E.wt K (p + 4) 1 = E.sub (K.getD ((p + 3) * 4 + 2) 0) ∧ E.wt K (p + 4) 2 = E.sub (K.getD ((p + 3) * 4 + 3) 0) ∧ E.wt K (p + 4) 3 = E.sub (K.getD ((p + 3) * 4) 0)) := by
              have h4' : (p + 4) % 4 = 0 := by omega
              have hd : (p + 4) / 4 - 1 = (p + 3) / 4 := by omega
              have h1 : 4 * (p + 4 - 1) = (p + 3) * 4 := by omega
              refine ⟨?_, ?_, ?_, ?_⟩
              · unfold E.wt; rw [if_pos h4', if_pos rfl, h1, hd]
              · unfold E.wt; rw [if_pos h4', if_neg (by decide), h1]
              · unfold E.wt; rw [if_pos h4', if_neg (by decide), h1]
              · unfold E.wt; rw [if_pos h4', if_neg (by decide), h1]; rfl
            have CT : Hid (∀ wx, Calls Tryz.prog 78 #[.int .u8 ((E.dblN 1 ((p + 3) / 4)).toNat : Int), .int .u8 2] wx fun e w' => e = .returned (.int .u8 ((E.dblN 1 ((p + 1 + 3) / 4)).toNat : Int)) ∧ w' = wx) := fun wx => by
              have := refTimes_any (E.dblN 1 ((p + 3) / 4)) 2 wx
              rw [E.mul_two] at this
              rw [show (p + 1 + 3) / 4 = (p + 3) / 4 + 1 from by omega]; exact this
            generalize hcon : E.dblN 1 ((p + 1 + 3) / 4) = con' at *
            have HCN := Lib.hid hcon
            clear hcon
            generalize E.dblN 1 ((p + 3) / 4) = con at *
            generalize K.getD ((p + 3) * 4) 0 = t0 at *
            generalize K.getD ((p + 3) * 4 + 1) 0 = t1 at *
            generalize K.getD ((p + 3) * 4 + 2) 0 = t2 at *
            generalize K.getD ((p + 3) * 4 + 3) 0 = t3 at *
            clear h4 HC HW HT4 HKL hg1 hcp
            generalize E.wt K (p + 4) 0 = W0 at *
            generalize E.wt K (p + 4) 1 = W1 at *
            generalize E.wt K (p + 4) 2 = W2 at *
            generalize E.wt K (p + 4) 3 = W3 at *
            generalize K.getD (4 * (p + 4)) 0 = X0 at *
            generalize K.getD (4 * (p + 4) + 1) 0 = X1 at *
            generalize K.getD (4 * (p + 4) + 2) 0 = X2 at *
            generalize K.getD (4 * (p + 4) + 3) 0 = X3 at *
            have hx := xor8 (E.sub t1) con
            rw [← HWT.out.1] at hx
            go_wp2_with fail
            have rT : Row (wr.alloc (.cells #[Value.int .u8 (t0.toNat : Int), Value.int .u8 (t1.toNat : Int), Value.int .u8 (t2.toNat : Int), Value.int .u8 (t3.toNat : Int)] 113 (0, 0))) wr.heap.size 113 (W.cellsOf [t0, t1, t2, t3]) := Row.new' rfl rfl
            have hoA := ho.alloc (.cells #[Value.int .u8 (t0.toNat : Int), Value.int .u8 (t1.toNat : Int), Value.int .u8 (t2.toNat : Int), Value.int .u8 (t3.toNat : Int)] 113 (0, 0))
            have hbA := hb.alloc hbs (.cells #[Value.int .u8 (t0.toNat : Int), Value.int .u8 (t1.toNat : Int), Value.int .u8 (t2.toNat : Int), Value.int .u8 (t3.toNat : Int)] 113 (0, 0))
            generalize wr.alloc (.cells #[Value.int .u8 (t0.toNat : Int), Value.int .u8 (t1.toNat : Int), Value.int .u8 (t2.toNat : Int), Value.int .u8 (t3.toNat : Int)] 113 (0, 0)) = wa at *
            generalize wr.heap.size = gt at *
            have l0 : (t0.toNat : Int) < 256 := by have := t0.toNat_lt; omega
            have l1 : (t1.toNat : Int) < 256 := by have := t1.toNat_lt; omega
            have l2 : (t2.toNat : Int) < 256 := by have := t2.toNat_lt; omega
            have l3 : (t3.toNat : Int) < 256 := by have := t3.toNat_lt; omega
            have B1 : Hid (E.sub t2 = W1) := HWT.out.2.1.symm
            have B2 : Hid (E.sub t3 = W2) := HWT.out.2.2.1.symm
            have B3 : Hid (E.sub t0 = W3) := HWT.out.2.2.2.symm
            clear HWT
            have c0 : wa.cell? ⟨gt, 0, none⟩ = some (.int .u8 (t0.toNat : Int)) := rT.cell 0
            have c1 : wa.cell? ⟨gt, 1, none⟩ = some (.int .u8 (t1.toNat : Int)) := rT.cell 1
            have c2 : wa.cell? ⟨gt, 2, none⟩ = some (.int .u8 (t2.toNat : Int)) := rT.cell 2
            have c3 : wa.cell? ⟨gt, 3, none⟩ = some (.int .u8 (t3.toNat : Int)) := rT.cell 3
            refine wp_region_held_drew (S := fun w' => ∀ x : UInt8, w'.cell? ⟨gb, x.toNat, none⟩ = some (.int .u8 ((E.sub x).toNat : Int))) (by kernel_rfl) (HBW.out _ hbA.drew) (fun hHeld => ?_)
            refine take_d 0 (some 51) (.slice (some ⟨gb, 0, none⟩) 256 capb) rfl (by kernel_rfl) (by kernel_rfl) (by kernel_rfl) (fun _ _ _ h => h) (fun oi h => by cases h; exact Or.inl ⟨by rfl, fun w' hS' => by go_simp⟩) hHeld ?_
            try simp only [Act.put, List.setIfInBounds_toArray, List.set_cons_zero, List.set_cons_succ]
            refine take_d 1 (some 52) (.pointer (some ⟨gt, 1, none⟩)) rfl (by kernel_rfl) (by kernel_rfl) (by kernel_rfl) (fun _ _ _ h => h) (fun oi h => by cases h; exact Or.inl ⟨by rfl, fun w' hS' => by go_simp⟩) hHeld ?_
            try simp only [Act.put, List.setIfInBounds_toArray, List.set_cons_zero, List.set_cons_succ]
            refine take_d 7 (some 58) (.slice (some ⟨gb, 0, none⟩) 256 capb) rfl (by kernel_rfl) (by kernel_rfl) (by kernel_rfl) (fun _ _ _ h => h) (fun oi h => by cases h; exact Or.inl ⟨by rfl, fun w' hS' => by go_simp⟩) hHeld ?_
            try simp only [Act.put, List.setIfInBounds_toArray, List.set_cons_zero, List.set_cons_succ]
            refine take_d 8 (some 59) (.pointer (some ⟨gt, 2, none⟩)) rfl (by kernel_rfl) (by kernel_rfl) (by kernel_rfl) (fun _ _ _ h => h) (fun oi h => by cases h; exact Or.inl ⟨by rfl, fun w' hS' => by go_simp⟩) hHeld ?_
            try simp only [Act.put, List.setIfInBounds_toArray, List.set_cons_zero, List.set_cons_succ]
            refine take_d 12 (some 63) (.slice (some ⟨gb, 0, none⟩) 256 capb) rfl (by kernel_rfl) (by kernel_rfl) (by kernel_rfl) (fun _ _ _ h => h) (fun oi h => by cases h; exact Or.inl ⟨by rfl, fun w' hS' => by go_simp⟩) hHeld ?_
            try simp only [Act.put, List.setIfInBounds_toArray, List.set_cons_zero, List.set_cons_succ]
            refine take_d 13 (some 64) (.pointer (some ⟨gt, 3, none⟩)) rfl (by kernel_rfl) (by kernel_rfl) (by kernel_rfl) (fun _ _ _ h => h) (fun oi h => by cases h; exact Or.inl ⟨by rfl, fun w' hS' => by go_simp⟩) hHeld ?_
            try simp only [Act.put, List.setIfInBounds_toArray, List.set_cons_zero, List.set_cons_succ]
            refine take_d 17 (some 68) (.slice (some ⟨gb, 0, none⟩) 256 capb) rfl (by kernel_rfl) (by kernel_rfl) (by kernel_rfl) (fun _ _ _ h => h) (fun oi h => by cases h; exact Or.inl ⟨by rfl, fun w' hS' => by go_simp⟩) hHeld ?_
            try simp only [Act.put, List.setIfInBounds_toArray, List.set_cons_zero, List.set_cons_succ]
            refine take_d 18 (some 69) (.pointer (some ⟨gt, 0, none⟩)) rfl (by kernel_rfl) (by kernel_rfl) (by kernel_rfl) (fun _ _ _ h => h) (fun oi h => by cases h; exact Or.inl ⟨by rfl, fun w' hS' => by go_simp⟩) hHeld ?_
            try simp only [Act.put, List.setIfInBounds_toArray, List.set_cons_zero, List.set_cons_succ]
            refine take_d 5 (some 56) (.int .u8 (con.toNat : Int)) rfl (by kernel_rfl) (by kernel_rfl) (by kernel_rfl) (fun _ _ _ h => h) (fun oi h => by cases h; exact Or.inl ⟨by rfl, fun w' hS' => by go_simp⟩) hHeld ?_
            try simp only [Act.put, List.setIfInBounds_toArray, List.set_cons_zero, List.set_cons_succ]
            refine cut_here (G := ?G) ?tree ?lf
            case tree =>
              intro leaf
              refine wpAnyH_ready (rs := [2, 9, 14, 19]) (by kernel_rfl) (by simp) (AllReadyH.cons rfl ?_ (AllReadyH.cons rfl ?_ (AllReadyH.cons rfl ?_ (AllReadyH.cons rfl ?_ (AllReadyH.nil)))))
              · intro K' hK
                go_simp
                refine hK.out _ _ hHeld (fun hHeld => ?_)
                clear hK K'
                try simp only [Act.put, List.setIfInBounds_toArray, List.set_cons_zero, List.set_cons_succ]
                refine take_d 3 (some 54) (.pointer (some ⟨gb, t1.toNat, none⟩)) rfl (by kernel_rfl) (by kernel_rfl) (by kernel_rfl) (fun _ _ _ h => h) (fun oi h => by cases h; exact Or.inl ⟨by rfl, fun w' hS' => by go_simp⟩) hHeld ?_
                try simp only [Act.put, List.setIfInBounds_toArray, List.set_cons_zero, List.set_cons_succ]
                refine take_d 4 (some 55) (.int .u8 ((E.sub t1).toNat : Int)) rfl (by kernel_rfl) (by kernel_rfl) (by kernel_rfl) (fun _ _ _ h => h) (fun oi h => by cases h; exact Or.inl ⟨by rfl, fun w' hS' => by have c := hS' t1; go_simp⟩) hHeld ?_
                try simp only [Act.put, List.setIfInBounds_toArray, List.set_cons_zero, List.set_cons_succ]
                refine take_d 6 (some 57) (.int .u8 (W0.toNat : Int)) rfl (by kernel_rfl) (by kernel_rfl) (by kernel_rfl) (fun _ _ _ h => h) (fun oi h => by cases h; exact Or.inl ⟨by rfl, fun w' hS' => by go_simp⟩) hHeld ?_
                try simp only [Act.put, List.setIfInBounds_toArray, List.set_cons_zero, List.set_cons_succ]
                refine wpAnyH_ready (rs := [9, 14, 19]) (by kernel_rfl) (by simp) (AllReadyH.cons rfl ?_ (AllReadyH.cons rfl ?_ (AllReadyH.cons rfl ?_ (AllReadyH.nil))))
                · intro K' hK
                  go_simp
                  refine hK.out _ _ hHeld (fun hHeld => ?_)
                  clear hK K'
                  try simp only [Act.put, List.setIfInBounds_toArray, List.set_cons_zero, List.set_cons_succ]
                  refine take_d 10 (some 61) (.pointer (some ⟨gb, t2.toNat, none⟩)) rfl (by kernel_rfl) (by kernel_rfl) (by kernel_rfl) (fun _ _ _ h => h) (fun oi h => by cases h; exact Or.inl ⟨by rfl, fun w' hS' => by go_simp⟩) hHeld ?_
                  try simp only [Act.put, List.setIfInBounds_toArray, List.set_cons_zero, List.set_cons_succ]
                  refine take_d 11 (some 62) (.int .u8 (W1.toNat : Int)) rfl (by kernel_rfl) (by kernel_rfl) (by kernel_rfl) (fun _ _ _ h => h) (fun oi h => by cases h; exact Or.inl ⟨by rfl, fun w' hS' => by have c := hS' t2; clear hS'; rw [B1.out] at c; go_simp⟩) hHeld ?_
                  try simp only [Act.put, List.setIfInBounds_toArray, List.set_cons_zero, List.set_cons_succ]
                  refine wpAnyH_ready (rs := [14, 19]) (by kernel_rfl) (by simp) (AllReadyH.cons rfl ?_ (AllReadyH.cons rfl ?_ (AllReadyH.nil)))
                  · intro K' hK
                    go_simp
                    refine hK.out _ _ hHeld (fun hHeld => ?_)
                    clear hK K'
                    try simp only [Act.put, List.setIfInBounds_toArray, List.set_cons_zero, List.set_cons_succ]
                    refine take_d 15 (some 66) (.pointer (some ⟨gb, t3.toNat, none⟩)) rfl (by kernel_rfl) (by kernel_rfl) (by kernel_rfl) (fun _ _ _ h => h) (fun oi h => by cases h; exact Or.inl ⟨by rfl, fun w' hS' => by go_simp⟩) hHeld ?_
                    try simp only [Act.put, List.setIfInBounds_toArray, List.set_cons_zero, List.set_cons_succ]
                    refine take_d 16 (some 67) (.int .u8 (W2.toNat : Int)) rfl (by kernel_rfl) (by kernel_rfl) (by kernel_rfl) (fun _ _ _ h => h) (fun oi h => by cases h; exact Or.inl ⟨by rfl, fun w' hS' => by have c := hS' t3; clear hS'; rw [B2.out] at c; go_simp⟩) hHeld ?_
                    try simp only [Act.put, List.setIfInBounds_toArray, List.set_cons_zero, List.set_cons_succ]
                    refine wpAnyH_ready (rs := [19]) (by kernel_rfl) (by simp) (AllReadyH.cons rfl ?_ (AllReadyH.nil))
                    · intro K' hK
                      go_simp
                      refine hK.out _ _ hHeld (fun hHeld => ?_)
                      clear hK K'
                      try simp only [Act.put, List.setIfInBounds_toArray, List.set_cons_zero, List.set_cons_succ]
                      refine take_d 20 (some 71) (.pointer (some ⟨gb, t0.toNat, none⟩)) rfl (by kernel_rfl) (by kernel_rfl) (by kernel_rfl) (fun _ _ _ h => h) (fun oi h => by cases h; exact Or.inl ⟨by rfl, fun w' hS' => by go_simp⟩) hHeld ?_
                      try simp only [Act.put, List.setIfInBounds_toArray, List.set_cons_zero, List.set_cons_succ]
                      refine take_d 21 (some 72) (.int .u8 (W3.toNat : Int)) rfl (by kernel_rfl) (by kernel_rfl) (by kernel_rfl) (fun _ _ _ h => h) (fun oi h => by cases h; exact Or.inl ⟨by rfl, fun w' hS' => by have c := hS' t0; clear hS'; rw [B3.out] at c; go_simp⟩) hHeld ?_
                      try simp only [Act.put, List.setIfInBounds_toArray, List.set_cons_zero, List.set_cons_succ]
                      exact leaf
                  · intro K' hK
                    go_simp
                    refine hK.out _ _ hHeld (fun hHeld => ?_)
                    clear hK K'
                    try simp only [Act.put, List.setIfInBounds_toArray, List.set_cons_zero, List.set_cons_succ]
                    refine take_d 20 (some 71) (.pointer (some ⟨gb, t0.toNat, none⟩)) rfl (by kernel_rfl) (by kernel_rfl) (by kernel_rfl) (fun _ _ _ h => h) (fun oi h => by cases h; exact Or.inl ⟨by rfl, fun w' hS' => by go_simp⟩) hHeld ?_
                    try simp only [Act.put, List.setIfInBounds_toArray, List.set_cons_zero, List.set_cons_succ]
                    refine take_d 21 (some 72) (.int .u8 (W3.toNat : Int)) rfl (by kernel_rfl) (by kernel_rfl) (by kernel_rfl) (fun _ _ _ h => h) (fun oi h => by cases h; exact Or.inl ⟨by rfl, fun w' hS' => by have c := hS' t0; clear hS'; rw [B3.out] at c; go_simp⟩) hHeld ?_
                    try simp only [Act.put, List.setIfInBounds_toArray, List.set_cons_zero, List.set_cons_succ]
                    refine wpAnyH_ready (rs := [14]) (by kernel_rfl) (by simp) (AllReadyH.cons rfl ?_ (AllReadyH.nil))
                    · intro K' hK
                      go_simp
                      refine hK.out _ _ hHeld (fun hHeld => ?_)
                      clear hK K'
                      try simp only [Act.put, List.setIfInBounds_toArray, List.set_cons_zero, List.set_cons_succ]
                      refine take_d 15 (some 66) (.pointer (some ⟨gb, t3.toNat, none⟩)) rfl (by kernel_rfl) (by kernel_rfl) (by kernel_rfl) (fun _ _ _ h => h) (fun oi h => by cases h; exact Or.inl ⟨by rfl, fun w' hS' => by go_simp⟩) hHeld ?_
                      try simp only [Act.put, List.setIfInBounds_toArray, List.set_cons_zero, List.set_cons_succ]
                      refine take_d 16 (some 67) (.int .u8 (W2.toNat : Int)) rfl (by kernel_rfl) (by kernel_rfl) (by kernel_rfl) (fun _ _ _ h => h) (fun oi h => by cases h; exact Or.inl ⟨by rfl, fun w' hS' => by have c := hS' t3; clear hS'; rw [B2.out] at c; go_simp⟩) hHeld ?_
                      try simp only [Act.put, List.setIfInBounds_toArray, List.set_cons_zero, List.set_cons_succ]
                      exact leaf
                · intro K' hK
                  go_simp
                  refine hK.out _ _ hHeld (fun hHeld => ?_)
                  clear hK K'
                  try simp only [Act.put, List.setIfInBounds_toArray, List.set_cons_zero, List.set_cons_succ]
                  refine take_d 15 (some 66) (.pointer (some ⟨gb, t3.toNat, none⟩)) rfl (by kernel_rfl) (by kernel_rfl) (by kernel_rfl) (fun _ _ _ h => h) (fun oi h => by cases h; exact Or.inl ⟨by rfl, fun w' hS' => by go_simp⟩) hHeld ?_
                  try simp only [Act.put, List.setIfInBounds_toArray, List.set_cons_zero, List.set_cons_succ]
                  refine take_d 16 (some 67) (.int .u8 (W2.toNat : Int)) rfl (by kernel_rfl) (by kernel_rfl) (by kernel_rfl) (fun _ _ _ h => h) (fun oi h => by cases h; exact Or.inl ⟨by rfl, fun w' hS' => by have c := hS' t3; clear hS'; rw [B2.out] at c; go_simp⟩) hHeld ?_
                  try simp only [Act.put, List.setIfInBounds_toArray, List.set_cons_zero, List.set_cons_succ]
                  refine wpAnyH_ready (rs := [9, 19]) (by kernel_rfl) (by simp) (AllReadyH.cons rfl ?_ (AllReadyH.cons rfl ?_ (AllReadyH.nil)))
                  · intro K' hK
                    go_simp
                    refine hK.out _ _ hHeld (fun hHeld => ?_)
                    clear hK K'
                    try simp only [Act.put, List.setIfInBounds_toArray, List.set_cons_zero, List.set_cons_succ]
                    refine take_d 10 (some 61) (.pointer (some ⟨gb, t2.toNat, none⟩)) rfl (by kernel_rfl) (by kernel_rfl) (by kernel_rfl) (fun _ _ _ h => h) (fun oi h => by cases h; exact Or.inl ⟨by rfl, fun w' hS' => by go_simp⟩) hHeld ?_
                    try simp only [Act.put, List.setIfInBounds_toArray, List.set_cons_zero, List.set_cons_succ]
                    refine take_d 11 (some 62) (.int .u8 (W1.toNat : Int)) rfl (by kernel_rfl) (by kernel_rfl) (by kernel_rfl) (fun _ _ _ h => h) (fun oi h => by cases h; exact Or.inl ⟨by rfl, fun w' hS' => by have c := hS' t2; clear hS'; rw [B1.out] at c; go_simp⟩) hHeld ?_
                    try simp only [Act.put, List.setIfInBounds_toArray, List.set_cons_zero, List.set_cons_succ]
                    refine wpAnyH_ready (rs := [19]) (by kernel_rfl) (by simp) (AllReadyH.cons rfl ?_ (AllReadyH.nil))
                    · intro K' hK
                      go_simp
                      refine hK.out _ _ hHeld (fun hHeld => ?_)
                      clear hK K'
                      try simp only [Act.put, List.setIfInBounds_toArray, List.set_cons_zero, List.set_cons_succ]
                      refine take_d 20 (some 71) (.pointer (some ⟨gb, t0.toNat, none⟩)) rfl (by kernel_rfl) (by kernel_rfl) (by kernel_rfl) (fun _ _ _ h => h) (fun oi h => by cases h; exact Or.inl ⟨by rfl, fun w' hS' => by go_simp⟩) hHeld ?_
                      try simp only [Act.put, List.setIfInBounds_toArray, List.set_cons_zero, List.set_cons_succ]
                      refine take_d 21 (some 72) (.int .u8 (W3.toNat : Int)) rfl (by kernel_rfl) (by kernel_rfl) (by kernel_rfl) (fun _ _ _ h => h) (fun oi h => by cases h; exact Or.inl ⟨by rfl, fun w' hS' => by have c := hS' t0; clear hS'; rw [B3.out] at c; go_simp⟩) hHeld ?_
                      try simp only [Act.put, List.setIfInBounds_toArray, List.set_cons_zero, List.set_cons_succ]
                      exact leaf
                  · intro K' hK
                    go_simp
                    refine hK.out _ _ hHeld (fun hHeld => ?_)
                    clear hK K'
                    try simp only [Act.put, List.setIfInBounds_toArray, List.set_cons_zero, List.set_cons_succ]
                    refine take_d 20 (some 71) (.pointer (some ⟨gb, t0.toNat, none⟩)) rfl (by kernel_rfl) (by kernel_rfl) (by kernel_rfl) (fun _ _ _ h => h) (fun oi h => by cases h; exact Or.inl ⟨by rfl, fun w' hS' => by go_simp⟩) hHeld ?_
                    try simp only [Act.put, List.setIfInBounds_toArray, List.set_cons_zero, List.set_cons_succ]
                    refine take_d 21 (some 72) (.int .u8 (W3.toNat : Int)) rfl (by kernel_rfl) (by kernel_rfl) (by kernel_rfl) (fun _ _ _ h => h) (fun oi h => by cases h; exact Or.inl ⟨by rfl, fun w' hS' => by have c := hS' t0; clear hS'; rw [B3.out] at c; go_simp⟩) hHeld ?_
                    try simp only [Act.put, List.setIfInBounds_toArray, List.set_cons_zero, List.set_cons_succ]
                    refine wpAnyH_ready (rs := [9]) (by kernel_rfl) (by simp) (AllReadyH.cons rfl ?_ (AllReadyH.nil))
                    · intro K' hK
                      go_simp
                      refine hK.out _ _ hHeld (fun hHeld => ?_)
                      clear hK K'
                      try simp only [Act.put, List.setIfInBounds_toArray, List.set_cons_zero, List.set_cons_succ]
                      refine take_d 10 (some 61) (.pointer (some ⟨gb, t2.toNat, none⟩)) rfl (by kernel_rfl) (by kernel_rfl) (by kernel_rfl) (fun _ _ _ h => h) (fun oi h => by cases h; exact Or.inl ⟨by rfl, fun w' hS' => by go_simp⟩) hHeld ?_
                      try simp only [Act.put, List.setIfInBounds_toArray, List.set_cons_zero, List.set_cons_succ]
                      refine take_d 11 (some 62) (.int .u8 (W1.toNat : Int)) rfl (by kernel_rfl) (by kernel_rfl) (by kernel_rfl) (fun _ _ _ h => h) (fun oi h => by cases h; exact Or.inl ⟨by rfl, fun w' hS' => by have c := hS' t2; clear hS'; rw [B1.out] at c; go_simp⟩) hHeld ?_
                      try simp only [Act.put, List.setIfInBounds_toArray, List.set_cons_zero, List.set_cons_succ]
                      exact leaf
                · intro K' hK
                  go_simp
                  refine hK.out _ _ hHeld (fun hHeld => ?_)
                  clear hK K'
                  try simp only [Act.put, List.setIfInBounds_toArray, List.set_cons_zero, List.set_cons_succ]
                  refine take_d 20 (some 71) (.pointer (some ⟨gb, t0.toNat, none⟩)) rfl (by kernel_rfl) (by kernel_rfl) (by kernel_rfl) (fun _ _ _ h => h) (fun oi h => by cases h; exact Or.inl ⟨by rfl, fun w' hS' => by go_simp⟩) hHeld ?_
                  try simp only [Act.put, List.setIfInBounds_toArray, List.set_cons_zero, List.set_cons_succ]
                  refine take_d 21 (some 72) (.int .u8 (W3.toNat : Int)) rfl (by kernel_rfl) (by kernel_rfl) (by kernel_rfl) (fun _ _ _ h => h) (fun oi h => by cases h; exact Or.inl ⟨by rfl, fun w' hS' => by have c := hS' t0; clear hS'; rw [B3.out] at c; go_simp⟩) hHeld ?_
                  try simp only [Act.put, List.setIfInBounds_toArray, List.set_cons_zero, List.set_cons_succ]
                  refine wpAnyH_ready (rs := [9, 14]) (by kernel_rfl) (by simp) (AllReadyH.cons rfl ?_ (AllReadyH.cons rfl ?_ (AllReadyH.nil)))
                  · intro K' hK
                    go_simp
                    refine hK.out _ _ hHeld (fun hHeld => ?_)
                    clear hK K'
                    try simp only [Act.put, List.setIfInBounds_toArray, List.set_cons_zero, List.set_cons_succ]
                    refine take_d 10 (some 61) (.pointer (some ⟨gb, t2.toNat, none⟩)) rfl (by kernel_rfl) (by kernel_rfl) (by kernel_rfl) (fun _ _ _ h => h) (fun oi h => by cases h; exact Or.inl ⟨by rfl, fun w' hS' => by go_simp⟩) hHeld ?_
                    try simp only [Act.put, List.setIfInBounds_toArray, List.set_cons_zero, List.set_cons_succ]
                    refine take_d 11 (some 62) (.int .u8 (W1.toNat : Int)) rfl (by kernel_rfl) (by kernel_rfl) (by kernel_rfl) (fun _ _ _ h => h) (fun oi h => by cases h; exact Or.inl ⟨by rfl, fun w' hS' => by have c := hS' t2; clear hS'; rw [B1.out] at c; go_simp⟩) hHeld ?_
                    try simp only [Act.put, List.setIfInBounds_toArray, List.set_cons_zero, List.set_cons_succ]
                    refine wpAnyH_ready (rs := [14]) (by kernel_rfl) (by simp) (AllReadyH.cons rfl ?_ (AllReadyH.nil))
                    · intro K' hK
                      go_simp
                      refine hK.out _ _ hHeld (fun hHeld => ?_)
                      clear hK K'
                      try simp only [Act.put, List.setIfInBounds_toArray, List.set_cons_zero, List.set_cons_succ]
                      refine take_d 15 (some 66) (.pointer (some ⟨gb, t3.toNat, none⟩)) rfl (by kernel_rfl) (by kernel_rfl) (by kernel_rfl) (fun _ _ _ h => h) (fun oi h => by cases h; exact Or.inl ⟨by rfl, fun w' hS' => by go_simp⟩) hHeld ?_
                      try simp only [Act.put, List.setIfInBounds_toArray, List.set_cons_zero, List.set_cons_succ]
                      refine take_d 16 (some 67) (.int .u8 (W2.toNat : Int)) rfl (by kernel_rfl) (by kernel_rfl) (by kernel_rfl) (fun _ _ _ h => h) (fun oi h => by cases h; exact Or.inl ⟨by rfl, fun w' hS' => by have c := hS' t3; clear hS'; rw [B2.out] at c; go_simp⟩) hHeld ?_
                      try simp only [Act.put, List.setIfInBounds_toArray, List.set_cons_zero, List.set_cons_succ]
                      exact leaf
                  · intro K' hK
                    go_simp
                    refine hK.out _ _ hHeld (fun hHeld => ?_)
                    clear hK K'
                    try simp only [Act.put, List.setIfInBounds_toArray, List.set_cons_zero, List.set_cons_succ]
                    refine take_d 15 (some 66) (.pointer (some ⟨gb, t3.toNat, none⟩)) rfl (by kernel_rfl) (by kernel_rfl) (by kernel_rfl) (fun _ _ _ h => h) (fun oi h => by cases h; exact Or.inl ⟨by rfl, fun w' hS' => by go_simp⟩) hHeld ?_
                    try simp only [Act.put, List.setIfInBounds_toArray, List.set_cons_zero, List.set_cons_succ]
                    refine take_d 16 (some 67) (.int .u8 (W2.toNat : Int)) rfl (by kernel_rfl) (by kernel_rfl) (by kernel_rfl) (fun _ _ _ h => h) (fun oi h => by cases h; exact Or.inl ⟨by rfl, fun w' hS' => by have c := hS' t3; clear hS'; rw [B2.out] at c; go_simp⟩) hHeld ?_
                    try simp only [Act.put, List.setIfInBounds_toArray, List.set_cons_zero, List.set_cons_succ]
                    refine wpAnyH_ready (rs := [9]) (by kernel_rfl) (by simp) (AllReadyH.cons rfl ?_ (AllReadyH.nil))
                    · intro K' hK
                      go_simp
                      refine hK.out _ _ hHeld (fun hHeld => ?_)
                      clear hK K'
                      try simp only [Act.put, List.setIfInBounds_toArray, List.set_cons_zero, List.set_cons_succ]
                      refine take_d 10 (some 61) (.pointer (some ⟨gb, t2.toNat, none⟩)) rfl (by kernel_rfl) (by kernel_rfl) (by kernel_rfl) (fun _ _ _ h => h) (fun oi h => by cases h; exact Or.inl ⟨by rfl, fun w' hS' => by go_simp⟩) hHeld ?_
                      try simp only [Act.put, List.setIfInBounds_toArray, List.set_cons_zero, List.set_cons_succ]
                      refine take_d 11 (some 62) (.int .u8 (W1.toNat : Int)) rfl (by kernel_rfl) (by kernel_rfl) (by kernel_rfl) (fun _ _ _ h => h) (fun oi h => by cases h; exact Or.inl ⟨by rfl, fun w' hS' => by have c := hS' t2; clear hS'; rw [B1.out] at c; go_simp⟩) hHeld ?_
                      try simp only [Act.put, List.setIfInBounds_toArray, List.set_cons_zero, List.set_cons_succ]
                      exact leaf
              · intro K' hK
                go_simp
                refine hK.out _ _ hHeld (fun hHeld => ?_)
                clear hK K'
                try simp only [Act.put, List.setIfInBounds_toArray, List.set_cons_zero, List.set_cons_succ]
                refine take_d 10 (some 61) (.pointer (some ⟨gb, t2.toNat, none⟩)) rfl (by kernel_rfl) (by kernel_rfl) (by kernel_rfl) (fun _ _ _ h => h) (fun oi h => by cases h; exact Or.inl ⟨by rfl, fun w' hS' => by go_simp⟩) hHeld ?_
                try simp only [Act.put, List.setIfInBounds_toArray, List.set_cons_zero, List.set_cons_succ]
                refine take_d 11 (some 62) (.int .u8 (W1.toNat : Int)) rfl (by kernel_rfl) (by kernel_rfl) (by kernel_rfl) (fun _ _ _ h => h) (fun oi h => by cases h; exact Or.inl ⟨by rfl, fun w' hS' => by have c := hS' t2; clear hS'; rw [B1.out] at c; go_simp⟩) hHeld ?_
                try simp only [Act.put, List.setIfInBounds_toArray, List.set_cons_zero, List.set_cons_succ]
                refine wpAnyH_ready (rs := [2, 14, 19]) (by kernel_rfl) (by simp) (AllReadyH.cons rfl ?_ (AllReadyH.cons rfl ?_ (AllReadyH.cons rfl ?_ (AllReadyH.nil))))
                · intro K' hK
                  go_simp
                  refine hK.out _ _ hHeld (fun hHeld => ?_)
                  clear hK K'
                  try simp only [Act.put, List.setIfInBounds_toArray, List.set_cons_zero, List.set_cons_succ]
                  refine take_d 3 (some 54) (.pointer (some ⟨gb, t1.toNat, none⟩)) rfl (by kernel_rfl) (by kernel_rfl) (by kernel_rfl) (fun _ _ _ h => h) (fun oi h => by cases h; exact Or.inl ⟨by rfl, fun w' hS' => by go_simp⟩) hHeld ?_
                  try simp only [Act.put, List.setIfInBounds_toArray, List.set_cons_zero, List.set_cons_succ]
                  refine take_d 4 (some 55) (.int .u8 ((E.sub t1).toNat : Int)) rfl (by kernel_rfl) (by kernel_rfl) (by kernel_rfl) (fun _ _ _ h => h) (fun oi h => by cases h; exact Or.inl ⟨by rfl, fun w' hS' => by have c := hS' t1; go_simp⟩) hHeld ?_
                  try simp only [Act.put, List.setIfInBounds_toArray, List.set_cons_zero, List.set_cons_succ]
                  refine take_d 6 (some 57) (.int .u8 (W0.toNat : Int)) rfl (by kernel_rfl) (by kernel_rfl) (by kernel_rfl) (fun _ _ _ h => h) (fun oi h => by cases h; exact Or.inl ⟨by rfl, fun w' hS' => by go_simp⟩) hHeld ?_
                  try simp only [Act.put, List.setIfInBounds_toArray, List.set_cons_zero, List.set_cons_succ]
                  refine wpAnyH_ready (rs := [14, 19]) (by kernel_rfl) (by simp) (AllReadyH.cons rfl ?_ (AllReadyH.cons rfl ?_ (AllReadyH.nil)))
                  · intro K' hK
                    go_simp
                    refine hK.out _ _ hHeld (fun hHeld => ?_)
                    clear hK K'
                    try simp only [Act.put, List.setIfInBounds_toArray, List.set_cons_zero, List.set_cons_succ]
                    refine take_d 15 (some 66) (.pointer (some ⟨gb, t3.toNat, none⟩)) rfl (by kernel_rfl) (by kernel_rfl) (by kernel_rfl) (fun _ _ _ h => h) (fun oi h => by cases h; exact Or.inl ⟨by rfl, fun w' hS' => by go_simp⟩) hHeld ?_
                    try simp only [Act.put, List.setIfInBounds_toArray, List.set_cons_zero, List.set_cons_succ]
                    refine take_d 16 (some 67) (.int .u8 (W2.toNat : Int)) rfl (by kernel_rfl) (by kernel_rfl) (by kernel_rfl) (fun _ _ _ h => h) (fun oi h => by cases h; exact Or.inl ⟨by rfl, fun w' hS' => by have c := hS' t3; clear hS'; rw [B2.out] at c; go_simp⟩) hHeld ?_
                    try simp only [Act.put, List.setIfInBounds_toArray, List.set_cons_zero, List.set_cons_succ]
                    refine wpAnyH_ready (rs := [19]) (by kernel_rfl) (by simp) (AllReadyH.cons rfl ?_ (AllReadyH.nil))
                    · intro K' hK
                      go_simp
                      refine hK.out _ _ hHeld (fun hHeld => ?_)
                      clear hK K'
                      try simp only [Act.put, List.setIfInBounds_toArray, List.set_cons_zero, List.set_cons_succ]
                      refine take_d 20 (some 71) (.pointer (some ⟨gb, t0.toNat, none⟩)) rfl (by kernel_rfl) (by kernel_rfl) (by kernel_rfl) (fun _ _ _ h => h) (fun oi h => by cases h; exact Or.inl ⟨by rfl, fun w' hS' => by go_simp⟩) hHeld ?_
                      try simp only [Act.put, List.setIfInBounds_toArray, List.set_cons_zero, List.set_cons_succ]
                      refine take_d 21 (some 72) (.int .u8 (W3.toNat : Int)) rfl (by kernel_rfl) (by kernel_rfl) (by kernel_rfl) (fun _ _ _ h => h) (fun oi h => by cases h; exact Or.inl ⟨by rfl, fun w' hS' => by have c := hS' t0; clear hS'; rw [B3.out] at c; go_simp⟩) hHeld ?_
                      try simp only [Act.put, List.setIfInBounds_toArray, List.set_cons_zero, List.set_cons_succ]
                      exact leaf
                  · intro K' hK
                    go_simp
                    refine hK.out _ _ hHeld (fun hHeld => ?_)
                    clear hK K'
                    try simp only [Act.put, List.setIfInBounds_toArray, List.set_cons_zero, List.set_cons_succ]
                    refine take_d 20 (some 71) (.pointer (some ⟨gb, t0.toNat, none⟩)) rfl (by kernel_rfl) (by kernel_rfl) (by kernel_rfl) (fun _ _ _ h => h) (fun oi h => by cases h; exact Or.inl ⟨by rfl, fun w' hS' => by go_simp⟩) hHeld ?_
                    try simp only [Act.put, List.setIfInBounds_toArray, List.set_cons_zero, List.set_cons_succ]
                    refine take_d 21 (some 72) (.int .u8 (W3.toNat : Int)) rfl (by kernel_rfl) (by kernel_rfl) (by kernel_rfl) (fun _ _ _ h => h) (fun oi h => by cases h; exact Or.inl ⟨by rfl, fun w' hS' => by have c := hS' t0; clear hS'; rw [B3.out] at c; go_simp⟩) hHeld ?_
                    try simp only [Act.put, List.setIfInBounds_toArray, List.set_cons_zero, List.set_cons_succ]
                    refine wpAnyH_ready (rs := [14]) (by kernel_rfl) (by simp) (AllReadyH.cons rfl ?_ (AllReadyH.nil))
                    · intro K' hK
                      go_simp
                      refine hK.out _ _ hHeld (fun hHeld => ?_)
                      clear hK K'
                      try simp only [Act.put, List.setIfInBounds_toArray, List.set_cons_zero, List.set_cons_succ]
                      refine take_d 15 (some 66) (.pointer (some ⟨gb, t3.toNat, none⟩)) rfl (by kernel_rfl) (by kernel_rfl) (by kernel_rfl) (fun _ _ _ h => h) (fun oi h => by cases h; exact Or.inl ⟨by rfl, fun w' hS' => by go_simp⟩) hHeld ?_
                      try simp only [Act.put, List.setIfInBounds_toArray, List.set_cons_zero, List.set_cons_succ]
                      refine take_d 16 (some 67) (.int .u8 (W2.toNat : Int)) rfl (by kernel_rfl) (by kernel_rfl) (by kernel_rfl) (fun _ _ _ h => h) (fun oi h => by cases h; exact Or.inl ⟨by rfl, fun w' hS' => by have c := hS' t3; clear hS'; rw [B2.out] at c; go_simp⟩) hHeld ?_
                      try simp only [Act.put, List.setIfInBounds_toArray, List.set_cons_zero, List.set_cons_succ]
                      exact leaf
                · intro K' hK
                  go_simp
                  refine hK.out _ _ hHeld (fun hHeld => ?_)
                  clear hK K'
                  try simp only [Act.put, List.setIfInBounds_toArray, List.set_cons_zero, List.set_cons_succ]
                  refine take_d 15 (some 66) (.pointer (some ⟨gb, t3.toNat, none⟩)) rfl (by kernel_rfl) (by kernel_rfl) (by kernel_rfl) (fun _ _ _ h => h) (fun oi h => by cases h; exact Or.inl ⟨by rfl, fun w' hS' => by go_simp⟩) hHeld ?_
                  try simp only [Act.put, List.setIfInBounds_toArray, List.set_cons_zero, List.set_cons_succ]
                  refine take_d 16 (some 67) (.int .u8 (W2.toNat : Int)) rfl (by kernel_rfl) (by kernel_rfl) (by kernel_rfl) (fun _ _ _ h => h) (fun oi h => by cases h; exact Or.inl ⟨by rfl, fun w' hS' => by have c := hS' t3; clear hS'; rw [B2.out] at c; go_simp⟩) hHeld ?_
                  try simp only [Act.put, List.setIfInBounds_toArray, List.set_cons_zero, List.set_cons_succ]
                  refine wpAnyH_ready (rs := [2, 19]) (by kernel_rfl) (by simp) (AllReadyH.cons rfl ?_ (AllReadyH.cons rfl ?_ (AllReadyH.nil)))
                  · intro K' hK
                    go_simp
                    refine hK.out _ _ hHeld (fun hHeld => ?_)
                    clear hK K'
                    try simp only [Act.put, List.setIfInBounds_toArray, List.set_cons_zero, List.set_cons_succ]
                    refine take_d 3 (some 54) (.pointer (some ⟨gb, t1.toNat, none⟩)) rfl (by kernel_rfl) (by kernel_rfl) (by kernel_rfl) (fun _ _ _ h => h) (fun oi h => by cases h; exact Or.inl ⟨by rfl, fun w' hS' => by go_simp⟩) hHeld ?_
                    try simp only [Act.put, List.setIfInBounds_toArray, List.set_cons_zero, List.set_cons_succ]
                    refine take_d 4 (some 55) (.int .u8 ((E.sub t1).toNat : Int)) rfl (by kernel_rfl) (by kernel_rfl) (by kernel_rfl) (fun _ _ _ h => h) (fun oi h => by cases h; exact Or.inl ⟨by rfl, fun w' hS' => by have c := hS' t1; go_simp⟩) hHeld ?_
                    try simp only [Act.put, List.setIfInBounds_toArray, List.set_cons_zero, List.set_cons_succ]
                    refine take_d 6 (some 57) (.int .u8 (W0.toNat : Int)) rfl (by kernel_rfl) (by kernel_rfl) (by kernel_rfl) (fun _ _ _ h => h) (fun oi h => by cases h; exact Or.inl ⟨by rfl, fun w' hS' => by go_simp⟩) hHeld ?_
                    try simp only [Act.put, List.setIfInBounds_toArray, List.set_cons_zero, List.set_cons_succ]
                    refine wpAnyH_ready (rs := [19]) (by kernel_rfl) (by simp) (AllReadyH.cons rfl ?_ (AllReadyH.nil))
                    · intro K' hK
                      go_simp
                      refine hK.out _ _ hHeld (fun hHeld => ?_)
                      clear hK K'
                      try simp only [Act.put, List.setIfInBounds_toArray, List.set_cons_zero, List.set_cons_succ]
                      refine take_d 20 (some 71) (.pointer (some ⟨gb, t0.toNat, none⟩)) rfl (by kernel_rfl) (by kernel_rfl) (by kernel_rfl) (fun _ _ _ h => h) (fun oi h => by cases h; exact Or.inl ⟨by rfl, fun w' hS' => by go_simp⟩) hHeld ?_
                      try simp only [Act.put, List.setIfInBounds_toArray, List.set_cons_zero, List.set_cons_succ]
                      refine take_d 21 (some 72) (.int .u8 (W3.toNat : Int)) rfl (by kernel_rfl) (by kernel_rfl) (by kernel_rfl) (fun _ _ _ h => h) (fun oi h => by cases h; exact Or.inl ⟨by rfl, fun w' hS' => by have c := hS' t0; clear hS'; rw [B3.out] at c; go_simp⟩) hHeld ?_
                      try simp only [Act.put, List.setIfInBounds_toArray, List.set_cons_zero, List.set_cons_succ]
                      exact leaf
                  · intro K' hK
                    go_simp
                    refine hK.out _ _ hHeld (fun hHeld => ?_)
                    clear hK K'
                    try simp only [Act.put, List.setIfInBounds_toArray, List.set_cons_zero, List.set_cons_succ]
                    refine take_d 20 (some 71) (.pointer (some ⟨gb, t0.toNat, none⟩)) rfl (by kernel_rfl) (by kernel_rfl) (by kernel_rfl) (fun _ _ _ h => h) (fun oi h => by cases h; exact Or.inl ⟨by rfl, fun w' hS' => by go_simp⟩) hHeld ?_
                    try simp only [Act.put, List.setIfInBounds_toArray, List.set_cons_zero, List.set_cons_succ]
                    refine take_d 21 (some 72) (.int .u8 (W3.toNat : Int)) rfl (by kernel_rfl) (by kernel_rfl) (by kernel_rfl) (fun _ _ _ h => h) (fun oi h => by cases h; exact Or.inl ⟨by rfl, fun w' hS' => by have c := hS' t0; clear hS'; rw [B3.out] at c; go_simp⟩) hHeld ?_
                    try simp only [Act.put, List.setIfInBounds_toArray, List.set_cons_zero, List.set_cons_succ]
                    refine wpAnyH_ready (rs := [2]) (by kernel_rfl) (by simp) (AllReadyH.cons rfl ?_ (AllReadyH.nil))
                    · intro K' hK
                      go_simp
                      refine hK.out _ _ hHeld (fun hHeld => ?_)
                      clear hK K'
                      try simp only [Act.put, List.setIfInBounds_toArray, List.set_cons_zero, List.set_cons_succ]
                      refine take_d 3 (some 54) (.pointer (some ⟨gb, t1.toNat, none⟩)) rfl (by kernel_rfl) (by kernel_rfl) (by kernel_rfl) (fun _ _ _ h => h) (fun oi h => by cases h; exact Or.inl ⟨by rfl, fun w' hS' => by go_simp⟩) hHeld ?_
                      try simp only [Act.put, List.setIfInBounds_toArray, List.set_cons_zero, List.set_cons_succ]
                      refine take_d 4 (some 55) (.int .u8 ((E.sub t1).toNat : Int)) rfl (by kernel_rfl) (by kernel_rfl) (by kernel_rfl) (fun _ _ _ h => h) (fun oi h => by cases h; exact Or.inl ⟨by rfl, fun w' hS' => by have c := hS' t1; go_simp⟩) hHeld ?_
                      try simp only [Act.put, List.setIfInBounds_toArray, List.set_cons_zero, List.set_cons_succ]
                      refine take_d 6 (some 57) (.int .u8 (W0.toNat : Int)) rfl (by kernel_rfl) (by kernel_rfl) (by kernel_rfl) (fun _ _ _ h => h) (fun oi h => by cases h; exact Or.inl ⟨by rfl, fun w' hS' => by go_simp⟩) hHeld ?_
                      try simp only [Act.put, List.setIfInBounds_toArray, List.set_cons_zero, List.set_cons_succ]
                      exact leaf
                · intro K' hK
                  go_simp
                  refine hK.out _ _ hHeld (fun hHeld => ?_)
                  clear hK K'
                  try simp only [Act.put, List.setIfInBounds_toArray, List.set_cons_zero, List.set_cons_succ]
                  refine take_d 20 (some 71) (.pointer (some ⟨gb, t0.toNat, none⟩)) rfl (by kernel_rfl) (by kernel_rfl) (by kernel_rfl) (fun _ _ _ h => h) (fun oi h => by cases h; exact Or.inl ⟨by rfl, fun w' hS' => by go_simp⟩) hHeld ?_
                  try simp only [Act.put, List.setIfInBounds_toArray, List.set_cons_zero, List.set_cons_succ]
                  refine take_d 21 (some 72) (.int .u8 (W3.toNat : Int)) rfl (by kernel_rfl) (by kernel_rfl) (by kernel_rfl) (fun _ _ _ h => h) (fun oi h => by cases h; exact Or.inl ⟨by rfl, fun w' hS' => by have c := hS' t0; clear hS'; rw [B3.out] at c; go_simp⟩) hHeld ?_
                  try simp only [Act.put, List.setIfInBounds_toArray, List.set_cons_zero, List.set_cons_succ]
                  refine wpAnyH_ready (rs := [2, 14]) (by kernel_rfl) (by simp) (AllReadyH.cons rfl ?_ (AllReadyH.cons rfl ?_ (AllReadyH.nil)))
                  · intro K' hK
                    go_simp
                    refine hK.out _ _ hHeld (fun hHeld => ?_)
                    clear hK K'
                    try simp only [Act.put, List.setIfInBounds_toArray, List.set_cons_zero, List.set_cons_succ]
                    refine take_d 3 (some 54) (.pointer (some ⟨gb, t1.toNat, none⟩)) rfl (by kernel_rfl) (by kernel_rfl) (by kernel_rfl) (fun _ _ _ h => h) (fun oi h => by cases h; exact Or.inl ⟨by rfl, fun w' hS' => by go_simp⟩) hHeld ?_
                    try simp only [Act.put, List.setIfInBounds_toArray, List.set_cons_zero, List.set_cons_succ]
                    refine take_d 4 (some 55) (.int .u8 ((E.sub t1).toNat : Int)) rfl (by kernel_rfl) (by kernel_rfl) (by kernel_rfl) (fun _ _ _ h => h) (fun oi h => by cases h; exact Or.inl ⟨by rfl, fun w' hS' => by have c := hS' t1; go_simp⟩) hHeld ?_
                    try simp only [Act.put, List.setIfInBounds_toArray, List.set_cons_zero, List.set_cons_succ]
                    refine take_d 6 (some 57) (.int .u8 (W0.toNat : Int)) rfl (by kernel_rfl) (by kernel_rfl) (by kernel_rfl) (fun _ _ _ h => h) (fun oi h => by cases h; exact Or.inl ⟨by rfl, fun w' hS' => by go_simp⟩) hHeld ?_
                    try simp only [Act.put, List.setIfInBounds_toArray, List.set_cons_zero, List.set_cons_succ]
                    refine wpAnyH_ready (rs := [14]) (by kernel_rfl) (by simp) (AllReadyH.cons rfl ?_ (AllReadyH.nil))
                    · intro K' hK
                      go_simp
                      refine hK.out _ _ hHeld (fun hHeld => ?_)
                      clear hK K'
                      try simp only [Act.put, List.setIfInBounds_toArray, List.set_cons_zero, List.set_cons_succ]
                      refine take_d 15 (some 66) (.pointer (some ⟨gb, t3.toNat, none⟩)) rfl (by kernel_rfl) (by kernel_rfl) (by kernel_rfl) (fun _ _ _ h => h) (fun oi h => by cases h; exact Or.inl ⟨by rfl, fun w' hS' => by go_simp⟩) hHeld ?_
                      try simp only [Act.put, List.setIfInBounds_toArray, List.set_cons_zero, List.set_cons_succ]
                      refine take_d 16 (some 67) (.int .u8 (W2.toNat : Int)) rfl (by kernel_rfl) (by kernel_rfl) (by kernel_rfl) (fun _ _ _ h => h) (fun oi h => by cases h; exact Or.inl ⟨by rfl, fun w' hS' => by have c := hS' t3; clear hS'; rw [B2.out] at c; go_simp⟩) hHeld ?_
                      try simp only [Act.put, List.setIfInBounds_toArray, List.set_cons_zero, List.set_cons_succ]
                      exact leaf
                  · intro K' hK
                    go_simp
                    refine hK.out _ _ hHeld (fun hHeld => ?_)
                    clear hK K'
                    try simp only [Act.put, List.setIfInBounds_toArray, List.set_cons_zero, List.set_cons_succ]
                    refine take_d 15 (some 66) (.pointer (some ⟨gb, t3.toNat, none⟩)) rfl (by kernel_rfl) (by kernel_rfl) (by kernel_rfl) (fun _ _ _ h => h) (fun oi h => by cases h; exact Or.inl ⟨by rfl, fun w' hS' => by go_simp⟩) hHeld ?_
                    try simp only [Act.put, List.setIfInBounds_toArray, List.set_cons_zero, List.set_cons_succ]
                    refine take_d 16 (some 67) (.int .u8 (W2.toNat : Int)) rfl (by kernel_rfl) (by kernel_rfl) (by kernel_rfl) (fun _ _ _ h => h) (fun oi h => by cases h; exact Or.inl ⟨by rfl, fun w' hS' => by have c := hS' t3; clear hS'; rw [B2.out] at c; go_simp⟩) hHeld ?_
                    try simp only [Act.put, List.setIfInBounds_toArray, List.set_cons_zero, List.set_cons_succ]
                    refine wpAnyH_ready (rs := [2]) (by kernel_rfl) (by simp) (AllReadyH.cons rfl ?_ (AllReadyH.nil))
                    · intro K' hK
                      go_simp
                      refine hK.out _ _ hHeld (fun hHeld => ?_)
                      clear hK K'
                      try simp only [Act.put, List.setIfInBounds_toArray, List.set_cons_zero, List.set_cons_succ]
                      refine take_d 3 (some 54) (.pointer (some ⟨gb, t1.toNat, none⟩)) rfl (by kernel_rfl) (by kernel_rfl) (by kernel_rfl) (fun _ _ _ h => h) (fun oi h => by cases h; exact Or.inl ⟨by rfl, fun w' hS' => by go_simp⟩) hHeld ?_
                      try simp only [Act.put, List.setIfInBounds_toArray, List.set_cons_zero, List.set_cons_succ]
                      refine take_d 4 (some 55) (.int .u8 ((E.sub t1).toNat : Int)) rfl (by kernel_rfl) (by kernel_rfl) (by kernel_rfl) (fun _ _ _ h => h) (fun oi h => by cases h; exact Or.inl ⟨by rfl, fun w' hS' => by have c := hS' t1; go_simp⟩) hHeld ?_
                      try simp only [Act.put, List.setIfInBounds_toArray, List.set_cons_zero, List.set_cons_succ]
                      refine take_d 6 (some 57) (.int .u8 (W0.toNat : Int)) rfl (by kernel_rfl) (by kernel_rfl) (by kernel_rfl) (fun _ _ _ h => h) (fun oi h => by cases h; exact Or.inl ⟨by rfl, fun w' hS' => by go_simp⟩) hHeld ?_
                      try simp only [Act.put, List.setIfInBounds_toArray, List.set_cons_zero, List.set_cons_succ]
                      exact leaf
              · intro K' hK
                go_simp
                refine hK.out _ _ hHeld (fun hHeld => ?_)
                clear hK K'
                try simp only [Act.put, List.setIfInBounds_toArray, List.set_cons_zero, List.set_cons_succ]
                refine take_d 15 (some 66) (.pointer (some ⟨gb, t3.toNat, none⟩)) rfl (by kernel_rfl) (by kernel_rfl) (by kernel_rfl) (fun _ _ _ h => h) (fun oi h => by cases h; exact Or.inl ⟨by rfl, fun w' hS' => by go_simp⟩) hHeld ?_
                try simp only [Act.put, List.setIfInBounds_toArray, List.set_cons_zero, List.set_cons_succ]
                refine take_d 16 (some 67) (.int .u8 (W2.toNat : Int)) rfl (by kernel_rfl) (by kernel_rfl) (by kernel_rfl) (fun _ _ _ h => h) (fun oi h => by cases h; exact Or.inl ⟨by rfl, fun w' hS' => by have c := hS' t3; clear hS'; rw [B2.out] at c; go_simp⟩) hHeld ?_
                try simp only [Act.put, List.setIfInBounds_toArray, List.set_cons_zero, List.set_cons_succ]
                refine wpAnyH_ready (rs := [2, 9, 19]) (by kernel_rfl) (by simp) (AllReadyH.cons rfl ?_ (AllReadyH.cons rfl ?_ (AllReadyH.cons rfl ?_ (AllReadyH.nil))))
                · intro K' hK
                  go_simp
                  refine hK.out _ _ hHeld (fun hHeld => ?_)
                  clear hK K'
                  try simp only [Act.put, List.setIfInBounds_toArray, List.set_cons_zero, List.set_cons_succ]
                  refine take_d 3 (some 54) (.pointer (some ⟨gb, t1.toNat, none⟩)) rfl (by kernel_rfl) (by kernel_rfl) (by kernel_rfl) (fun _ _ _ h => h) (fun oi h => by cases h; exact Or.inl ⟨by rfl, fun w' hS' => by go_simp⟩) hHeld ?_
                  try simp only [Act.put, List.setIfInBounds_toArray, List.set_cons_zero, List.set_cons_succ]
                  refine take_d 4 (some 55) (.int .u8 ((E.sub t1).toNat : Int)) rfl (by kernel_rfl) (by kernel_rfl) (by kernel_rfl) (fun _ _ _ h => h) (fun oi h => by cases h; exact Or.inl ⟨by rfl, fun w' hS' => by have c := hS' t1; go_simp⟩) hHeld ?_
                  try simp only [Act.put, List.setIfInBounds_toArray, List.set_cons_zero, List.set_cons_succ]
                  refine take_d 6 (some 57) (.int .u8 (W0.toNat : Int)) rfl (by kernel_rfl) (by kernel_rfl) (by kernel_rfl) (fun _ _ _ h => h) (fun oi h => by cases h; exact Or.inl ⟨by rfl, fun w' hS' => by go_simp⟩) hHeld ?_
                  try simp only [Act.put, List.setIfInBounds_toArray, List.set_cons_zero, List.set_cons_succ]
                  refine wpAnyH_ready (rs := [9, 19]) (by kernel_rfl) (by simp) (AllReadyH.cons rfl ?_ (AllReadyH.cons rfl ?_ (AllReadyH.nil)))
                  · intro K' hK
                    go_simp
                    refine hK.out _ _ hHeld (fun hHeld => ?_)
                    clear hK K'
                    try simp only [Act.put, List.setIfInBounds_toArray, List.set_cons_zero, List.set_cons_succ]
                    refine take_d 10 (some 61) (.pointer (some ⟨gb, t2.toNat, none⟩)) rfl (by kernel_rfl) (by kernel_rfl) (by kernel_rfl) (fun _ _ _ h => h) (fun oi h => by cases h; exact Or.inl ⟨by rfl, fun w' hS' => by go_simp⟩) hHeld ?_
                    try simp only [Act.put, List.setIfInBounds_toArray, List.set_cons_zero, List.set_cons_succ]
                    refine take_d 11 (some 62) (.int .u8 (W1.toNat : Int)) rfl (by kernel_rfl) (by kernel_rfl) (by kernel_rfl) (fun _ _ _ h => h) (fun oi h => by cases h; exact Or.inl ⟨by rfl, fun w' hS' => by have c := hS' t2; clear hS'; rw [B1.out] at c; go_simp⟩) hHeld ?_
                    try simp only [Act.put, List.setIfInBounds_toArray, List.set_cons_zero, List.set_cons_succ]
                    refine wpAnyH_ready (rs := [19]) (by kernel_rfl) (by simp) (AllReadyH.cons rfl ?_ (AllReadyH.nil))
                    · intro K' hK
                      go_simp
                      refine hK.out _ _ hHeld (fun hHeld => ?_)
                      clear hK K'
                      try simp only [Act.put, List.setIfInBounds_toArray, List.set_cons_zero, List.set_cons_succ]
                      refine take_d 20 (some 71) (.pointer (some ⟨gb, t0.toNat, none⟩)) rfl (by kernel_rfl) (by kernel_rfl) (by kernel_rfl) (fun _ _ _ h => h) (fun oi h => by cases h; exact Or.inl ⟨by rfl, fun w' hS' => by go_simp⟩) hHeld ?_
                      try simp only [Act.put, List.setIfInBounds_toArray, List.set_cons_zero, List.set_cons_succ]
                      refine take_d 21 (some 72) (.int .u8 (W3.toNat : Int)) rfl (by kernel_rfl) (by kernel_rfl) (by kernel_rfl) (fun _ _ _ h => h) (fun oi h => by cases h; exact Or.inl ⟨by rfl, fun w' hS' => by have c := hS' t0; clear hS'; rw [B3.out] at c; go_simp⟩) hHeld ?_
                      try simp only [Act.put, List.setIfInBounds_toArray, List.set_cons_zero, List.set_cons_succ]
                      exact leaf
                  · intro K' hK
                    go_simp
                    refine hK.out _ _ hHeld (fun hHeld => ?_)
                    clear hK K'
                    try simp only [Act.put, List.setIfInBounds_toArray, List.set_cons_zero, List.set_cons_succ]
                    refine take_d 20 (some 71) (.pointer (some ⟨gb, t0.toNat, none⟩)) rfl (by kernel_rfl) (by kernel_rfl) (by kernel_rfl) (fun _ _ _ h => h) (fun oi h => by cases h; exact Or.inl ⟨by rfl, fun w' hS' => by go_simp⟩) hHeld ?_
                    try simp only [Act.put, List.setIfInBounds_toArray, List.set_cons_zero, List.set_cons_succ]
                    refine take_d 21 (some 72) (.int .u8 (W3.toNat : Int)) rfl (by kernel_rfl) (by kernel_rfl) (by kernel_rfl) (fun _ _ _ h => h) (fun oi h => by cases h; exact Or.inl ⟨by rfl, fun w' hS' => by have c := hS' t0; clear hS'; rw [B3.out] at c; go_simp⟩) hHeld ?_
                    try simp only [Act.put, List.setIfInBounds_toArray, List.set_cons_zero, List.set_cons_succ]
                    refine wpAnyH_ready (rs := [9]) (by kernel_rfl) (by simp) (AllReadyH.cons rfl ?_ (AllReadyH.nil))
                    · intro K' hK
                      go_simp
                      refine hK.out _ _ hHeld (fun hHeld => ?_)
                      clear hK K'
                      try simp only [Act.put, List.setIfInBounds_toArray, List.set_cons_zero, List.set_cons_succ]
                      refine take_d 10 (some 61) (.pointer (some ⟨gb, t2.toNat, none⟩)) rfl (by kernel_rfl) (by kernel_rfl) (by kernel_rfl) (fun _ _ _ h => h) (fun oi h => by cases h; exact Or.inl ⟨by rfl, fun w' hS' => by go_simp⟩) hHeld ?_
                      try simp only [Act.put, List.setIfInBounds_toArray, List.set_cons_zero, List.set_cons_succ]
                      refine take_d 11 (some 62) (.int .u8 (W1.toNat : Int)) rfl (by kernel_rfl) (by kernel_rfl) (by kernel_rfl) (fun _ _ _ h => h) (fun oi h => by cases h; exact Or.inl ⟨by rfl, fun w' hS' => by have c := hS' t2; clear hS'; rw [B1.out] at c; go_simp⟩) hHeld ?_
                      try simp only [Act.put, List.setIfInBounds_toArray, List.set_cons_zero, List.set_cons_succ]
                      exact leaf
                · intro K' hK
                  go_simp
                  refine hK.out _ _ hHeld (fun hHeld => ?_)
                  clear hK K'
                  try simp only [Act.put, List.setIfInBounds_toArray, List.set_cons_zero, List.set_cons_succ]
                  refine take_d 10 (some 61) (.pointer (some ⟨gb, t2.toNat, none⟩)) rfl (by kernel_rfl) (by kernel_rfl) (by kernel_rfl) (fun _ _ _ h => h) (fun oi h => by cases h; exact Or.inl ⟨by rfl, fun w' hS' => by go_simp⟩) hHeld ?_
                  try simp only [Act.put, List.setIfInBounds_toArray, List.set_cons_zero, List.set_cons_succ]
                  refine take_d 11 (some 62) (.int .u8 (W1.toNat : Int)) rfl (by kernel_rfl) (by kernel_rfl) (by kernel_rfl) (fun _ _ _ h => h) (fun oi h => by cases h; exact Or.inl ⟨by rfl, fun w' hS' => by have c := hS' t2; clear hS'; rw [B1.out] at c; go_simp⟩) hHeld ?_
                  try simp only [Act.put, List.setIfInBounds_toArray, List.set_cons_zero, List.set_cons_succ]
                  refine wpAnyH_ready (rs := [2, 19]) (by kernel_rfl) (by simp) (AllReadyH.cons rfl ?_ (AllReadyH.cons rfl ?_ (AllReadyH.nil)))
                  · intro K' hK
                    go_simp
                    refine hK.out _ _ hHeld (fun hHeld => ?_)
                    clear hK K'
                    try simp only [Act.put, List.setIfInBounds_toArray, List.set_cons_zero, List.set_cons_succ]
                    refine take_d 3 (some 54) (.pointer (some ⟨gb, t1.toNat, none⟩)) rfl (by kernel_rfl) (by kernel_rfl) (by kernel_rfl) (fun _ _ _ h => h) (fun oi h => by cases h; exact Or.inl ⟨by rfl, fun w' hS' => by go_simp⟩) hHeld ?_
                    try simp only [Act.put, List.setIfInBounds_toArray, List.set_cons_zero, List.set_cons_succ]
                    refine take_d 4 (some 55) (.int .u8 ((E.sub t1).toNat : Int)) rfl (by kernel_rfl) (by kernel_rfl) (by kernel_rfl) (fun _ _ _ h => h) (fun oi h => by cases h; exact Or.inl ⟨by rfl, fun w' hS' => by have c := hS' t1; go_simp⟩) hHeld ?_
                    try simp only [Act.put, List.setIfInBounds_toArray, List.set_cons_zero, List.set_cons_succ]
                    refine take_d 6 (some 57) (.int .u8 (W0.toNat : Int)) rfl (by kernel_rfl) (by kernel_rfl) (by kernel_rfl) (fun _ _ _ h => h) (fun oi h => by cases h; exact Or.inl ⟨by rfl, fun w' hS' => by go_simp⟩) hHeld ?_
                    try simp only [Act.put, List.setIfInBounds_toArray, List.set_cons_zero, List.set_cons_succ]
                    refine wpAnyH_ready (rs := [19]) (by kernel_rfl) (by simp) (AllReadyH.cons rfl ?_ (AllReadyH.nil))
                    · intro K' hK
                      go_simp
                      refine hK.out _ _ hHeld (fun hHeld => ?_)
                      clear hK K'
                      try simp only [Act.put, List.setIfInBounds_toArray, List.set_cons_zero, List.set_cons_succ]
                      refine take_d 20 (some 71) (.pointer (some ⟨gb, t0.toNat, none⟩)) rfl (by kernel_rfl) (by kernel_rfl) (by kernel_rfl) (fun _ _ _ h => h) (fun oi h => by cases h; exact Or.inl ⟨by rfl, fun w' hS' => by go_simp⟩) hHeld ?_
                      try simp only [Act.put, List.setIfInBounds_toArray, List.set_cons_zero, List.set_cons_succ]
                      refine take_d 21 (some 72) (.int .u8 (W3.toNat : Int)) rfl (by kernel_rfl) (by kernel_rfl) (by kernel_rfl) (fun _ _ _ h => h) (fun oi h => by cases h; exact Or.inl ⟨by rfl, fun w' hS' => by have c := hS' t0; clear hS'; rw [B3.out] at c; go_simp⟩) hHeld ?_
                      try simp only [Act.put, List.setIfInBounds_toArray, List.set_cons_zero, List.set_cons_succ]
                      exact leaf
                  · intro K' hK
                    go_simp
                    refine hK.out _ _ hHeld (fun hHeld => ?_)
                    clear hK K'
                    try simp only [Act.put, List.setIfInBounds_toArray, List.set_cons_zero, List.set_cons_succ]
                    refine take_d 20 (some 71) (.pointer (some ⟨gb, t0.toNat, none⟩)) rfl (by kernel_rfl) (by kernel_rfl) (by kernel_rfl) (fun _ _ _ h => h) (fun oi h => by cases h; exact Or.inl ⟨by rfl, fun w' hS' => by go_simp⟩) hHeld ?_
                    try simp only [Act.put, List.setIfInBounds_toArray, List.set_cons_zero, List.set_cons_succ]
                    refine take_d 21 (some 72) (.int .u8 (W3.toNat : Int)) rfl (by kernel_rfl) (by kernel_rfl) (by kernel_rfl) (fun _ _ _ h => h) (fun oi h => by cases h; exact Or.inl ⟨by rfl, fun w' hS' => by have c := hS' t0; clear hS'; rw [B3.out] at c; go_simp⟩) hHeld ?_
                    try simp only [Act.put, List.setIfInBounds_toArray, List.set_cons_zero, List.set_cons_succ]
                    refine wpAnyH_ready (rs := [2]) (by kernel_rfl) (by simp) (AllReadyH.cons rfl ?_ (AllReadyH.nil))
                    · intro K' hK
                      go_simp
                      refine hK.out _ _ hHeld (fun hHeld => ?_)
                      clear hK K'
                      try simp only [Act.put, List.setIfInBounds_toArray, List.set_cons_zero, List.set_cons_succ]
                      refine take_d 3 (some 54) (.pointer (some ⟨gb, t1.toNat, none⟩)) rfl (by kernel_rfl) (by kernel_rfl) (by kernel_rfl) (fun _ _ _ h => h) (fun oi h => by cases h; exact Or.inl ⟨by rfl, fun w' hS' => by go_simp⟩) hHeld ?_
                      try simp only [Act.put, List.setIfInBounds_toArray, List.set_cons_zero, List.set_cons_succ]
                      refine take_d 4 (some 55) (.int .u8 ((E.sub t1).toNat : Int)) rfl (by kernel_rfl) (by kernel_rfl) (by kernel_rfl) (fun _ _ _ h => h) (fun oi h => by cases h; exact Or.inl ⟨by rfl, fun w' hS' => by have c := hS' t1; go_simp⟩) hHeld ?_
                      try simp only [Act.put, List.setIfInBounds_toArray, List.set_cons_zero, List.set_cons_succ]
                      refine take_d 6 (some 57) (.int .u8 (W0.toNat : Int)) rfl (by kernel_rfl) (by kernel_rfl) (by kernel_rfl) (fun _ _ _ h => h) (fun oi h => by cases h; exact Or.inl ⟨by rfl, fun w' hS' => by go_simp⟩) hHeld ?_
                      try simp only [Act.put, List.setIfInBounds_toArray, List.set_cons_zero, List.set_cons_succ]
                      exact leaf
                · intro K' hK
                  go_simp
                  refine hK.out _ _ hHeld (fun hHeld => ?_)
                  clear hK K'
                  try simp only [Act.put, List.setIfInBounds_toArray, List.set_cons_zero, List.set_cons_succ]
                  refine take_d 20 (some 71) (.pointer (some ⟨gb, t0.toNat, none⟩)) rfl (by kernel_rfl) (by kernel_rfl) (by kernel_rfl) (fun _ _ _ h => h) (fun oi h => by cases h; exact Or.inl ⟨by rfl, fun w' hS' => by go_simp⟩) hHeld ?_
                  try simp only [Act.put, List.setIfInBounds_toArray, List.set_cons_zero, List.set_cons_succ]
                  refine take_d 21 (some 72) (.int .u8 (W3.toNat : Int)) rfl (by kernel_rfl) (by kernel_rfl) (by kernel_rfl) (fun _ _ _ h => h) (fun oi h => by cases h; exact Or.inl ⟨by rfl, fun w' hS' => by have c := hS' t0; clear hS'; rw [B3.out] at c; go_simp⟩) hHeld ?_
                  try simp only [Act.put, List.setIfInBounds_toArray, List.set_cons_zero, List.set_cons_succ]
                  refine wpAnyH_ready (rs := [2, 9]) (by kernel_rfl) (by simp) (AllReadyH.cons rfl ?_ (AllReadyH.cons rfl ?_ (AllReadyH.nil)))
                  · intro K' hK
                    go_simp
                    refine hK.out _ _ hHeld (fun hHeld => ?_)
                    clear hK K'
                    try simp only [Act.put, List.setIfInBounds_toArray, List.set_cons_zero, List.set_cons_succ]
                    refine take_d 3 (some 54) (.pointer (some ⟨gb, t1.toNat, none⟩)) rfl (by kernel_rfl) (by kernel_rfl) (by kernel_rfl) (fun _ _ _ h => h) (fun oi h => by cases h; exact Or.inl ⟨by rfl, fun w' hS' => by go_simp⟩) hHeld ?_
                    try simp only [Act.put, List.setIfInBounds_toArray, List.set_cons_zero, List.set_cons_succ]
                    refine take_d 4 (some 55) (.int .u8 ((E.sub t1).toNat : Int)) rfl (by kernel_rfl) (by kernel_rfl) (by kernel_rfl) (fun _ _ _ h => h) (fun oi h => by cases h; exact Or.inl ⟨by rfl, fun w' hS' => by have c := hS' t1; go_simp⟩) hHeld ?_
                    try simp only [Act.put, List.setIfInBounds_toArray, List.set_cons_zero, List.set_cons_succ]
                    refine take_d 6 (some 57) (.int .u8 (W0.toNat : Int)) rfl (by kernel_rfl) (by kernel_rfl) (by kernel_rfl) (fun _ _ _ h => h) (fun oi h => by cases h; exact Or.inl ⟨by rfl, fun w' hS' => by go_simp⟩) hHeld ?_
                    try simp only [Act.put, List.setIfInBounds_toArray, List.set_cons_zero, List.set_cons_succ]
                    refine wpAnyH_ready (rs := [9]) (by kernel_rfl) (by simp) (AllReadyH.cons rfl ?_ (AllReadyH.nil))
                    · intro K' hK
                      go_simp
                      refine hK.out _ _ hHeld (fun hHeld => ?_)
                      clear hK K'
                      try simp only [Act.put, List.setIfInBounds_toArray, List.set_cons_zero, List.set_cons_succ]
                      refine take_d 10 (some 61) (.pointer (some ⟨gb, t2.toNat, none⟩)) rfl (by kernel_rfl) (by kernel_rfl) (by kernel_rfl) (fun _ _ _ h => h) (fun oi h => by cases h; exact Or.inl ⟨by rfl, fun w' hS' => by go_simp⟩) hHeld ?_
                      try simp only [Act.put, List.setIfInBounds_toArray, List.set_cons_zero, List.set_cons_succ]
                      refine take_d 11 (some 62) (.int .u8 (W1.toNat : Int)) rfl (by kernel_rfl) (by kernel_rfl) (by kernel_rfl) (fun _ _ _ h => h) (fun oi h => by cases h; exact Or.inl ⟨by rfl, fun w' hS' => by have c := hS' t2; clear hS'; rw [B1.out] at c; go_simp⟩) hHeld ?_
                      try simp only [Act.put, List.setIfInBounds_toArray, List.set_cons_zero, List.set_cons_succ]
                      exact leaf
                  · intro K' hK
                    go_simp
                    refine hK.out _ _ hHeld (fun hHeld => ?_)
                    clear hK K'
                    try simp only [Act.put, List.setIfInBounds_toArray, List.set_cons_zero, List.set_cons_succ]
                    refine take_d 10 (some 61) (.pointer (some ⟨gb, t2.toNat, none⟩)) rfl (by kernel_rfl) (by kernel_rfl) (by kernel_rfl) (fun _ _ _ h => h) (fun oi h => by cases h; exact Or.inl ⟨by rfl, fun w' hS' => by go_simp⟩) hHeld ?_
                    try simp only [Act.put, List.setIfInBounds_toArray, List.set_cons_zero, List.set_cons_succ]
                    refine take_d 11 (some 62) (.int .u8 (W1.toNat : Int)) rfl (by kernel_rfl) (by kernel_rfl) (by kernel_rfl) (fun _ _ _ h => h) (fun oi h => by cases h; exact Or.inl ⟨by rfl, fun w' hS' => by have c := hS' t2; clear hS'; rw [B1.out] at c; go_simp⟩) hHeld ?_
                    try simp only [Act.put, List.setIfInBounds_toArray, List.set_cons_zero, List.set_cons_succ]
                    refine wpAnyH_ready (rs := [2]) (by kernel_rfl) (by simp) (AllReadyH.cons rfl ?_ (AllReadyH.nil))
                    · intro K' hK
                      go_simp
                      refine hK.out _ _ hHeld (fun hHeld => ?_)
                      clear hK K'
                      try simp only [Act.put, List.setIfInBounds_toArray, List.set_cons_zero, List.set_cons_succ]
                      refine take_d 3 (some 54) (.pointer (some ⟨gb, t1.toNat, none⟩)) rfl (by kernel_rfl) (by kernel_rfl) (by kernel_rfl) (fun _ _ _ h => h) (fun oi h => by cases h; exact Or.inl ⟨by rfl, fun w' hS' => by go_simp⟩) hHeld ?_
                      try simp only [Act.put, List.setIfInBounds_toArray, List.set_cons_zero, List.set_cons_succ]
                      refine take_d 4 (some 55) (.int .u8 ((E.sub t1).toNat : Int)) rfl (by kernel_rfl) (by kernel_rfl) (by kernel_rfl) (fun _ _ _ h => h) (fun oi h => by cases h; exact Or.inl ⟨by rfl, fun w' hS' => by have c := hS' t1; go_simp⟩) hHeld ?_
                      try simp only [Act.put, List.setIfInBounds_toArray, List.set_cons_zero, List.set_cons_succ]
                      refine take_d 6 (some 57) (.int .u8 (W0.toNat : Int)) rfl (by kernel_rfl) (by kernel_rfl) (by kernel_rfl) (fun _ _ _ h => h) (fun oi h => by cases h; exact Or.inl ⟨by rfl, fun w' hS' => by go_simp⟩) hHeld ?_
                      try simp only [Act.put, List.setIfInBounds_toArray, List.set_cons_zero, List.set_cons_succ]
                      exact leaf
              · intro K' hK
                go_simp
                refine hK.out _ _ hHeld (fun hHeld => ?_)
                clear hK K'
                try simp only [Act.put, List.setIfInBounds_toArray, List.set_cons_zero, List.set_cons_succ]
                refine take_d 20 (some 71) (.pointer (some ⟨gb, t0.toNat, none⟩)) rfl (by kernel_rfl) (by kernel_rfl) (by kernel_rfl) (fun _ _ _ h => h) (fun oi h => by cases h; exact Or.inl ⟨by rfl, fun w' hS' => by go_simp⟩) hHeld ?_
                try simp only [Act.put, List.setIfInBounds_toArray, List.set_cons_zero, List.set_cons_succ]
                refine take_d 21 (some 72) (.int .u8 (W3.toNat : Int)) rfl (by kernel_rfl) (by kernel_rfl) (by kernel_rfl) (fun _ _ _ h => h) (fun oi h => by cases h; exact Or.inl ⟨by rfl, fun w' hS' => by have c := hS' t0; clear hS'; rw [B3.out] at c; go_simp⟩) hHeld ?_
                try simp only [Act.put, List.setIfInBounds_toArray, List.set_cons_zero, List.set_cons_succ]
                refine wpAnyH_ready (rs := [2, 9, 14]) (by kernel_rfl) (by simp) (AllReadyH.cons rfl ?_ (AllReadyH.cons rfl ?_ (AllReadyH.cons rfl ?_ (AllReadyH.nil))))
                · intro K' hK
                  go_simp
                  refine hK.out _ _ hHeld (fun hHeld => ?_)
                  clear hK K'
                  try simp only [Act.put, List.setIfInBounds_toArray, List.set_cons_zero, List.set_cons_succ]
                  refine take_d 3 (some 54) (.pointer (some ⟨gb, t1.toNat, none⟩)) rfl (by kernel_rfl) (by kernel_rfl) (by kernel_rfl) (fun _ _ _ h => h) (fun oi h => by cases h; exact Or.inl ⟨by rfl, fun w' hS' => by go_simp⟩) hHeld ?_
                  try simp only [Act.put, List.setIfInBounds_toArray, List.set_cons_zero, List.set_cons_succ]
                  refine take_d 4 (some 55) (.int .u8 ((E.sub t1).toNat : Int)) rfl (by kernel_rfl) (by kernel_rfl) (by kernel_rfl) (fun _ _ _ h => h) (fun oi h => by cases h; exact Or.inl ⟨by rfl, fun w' hS' => by have c := hS' t1; go_simp⟩) hHeld ?_
                  try simp only [Act.put, List.setIfInBounds_toArray, List.set_cons_zero, List.set_cons_succ]
                  refine take_d 6 (some 57) (.int .u8 (W0.toNat : Int)) rfl (by kernel_rfl) (by kernel_rfl) (by kernel_rfl) (fun _ _ _ h => h) (fun oi h => by cases h; exact Or.inl ⟨by rfl, fun w' hS' => by go_simp⟩) hHeld ?_
                  try simp only [Act.put, List.setIfInBounds_toArray, List.set_cons_zero, List.set_cons_succ]
                  refine wpAnyH_ready (rs := [9, 14]) (by kernel_rfl) (by simp) (AllReadyH.cons rfl ?_ (AllReadyH.cons rfl ?_ (AllReadyH.nil)))
                  · intro K' hK
                    go_simp
                    refine hK.out _ _ hHeld (fun hHeld => ?_)
                    clear hK K'
                    try simp only [Act.put, List.setIfInBounds_toArray, List.set_cons_zero, List.set_cons_succ]
                    refine take_d 10 (some 61) (.pointer (some ⟨gb, t2.toNat, none⟩)) rfl (by kernel_rfl) (by kernel_rfl) (by kernel_rfl) (fun _ _ _ h => h) (fun oi h => by cases h; exact Or.inl ⟨by rfl, fun w' hS' => by go_simp⟩) hHeld ?_
                    try simp only [Act.put, List.setIfInBounds_toArray, List.set_cons_zero, List.set_cons_succ]
                    refine take_d 11 (some 62) (.int .u8 (W1.toNat : Int)) rfl (by kernel_rfl) (by kernel_rfl) (by kernel_rfl) (fun _ _ _ h => h) (fun oi h => by cases h; exact Or.inl ⟨by rfl, fun w' hS' => by have c := hS' t2; clear hS'; rw [B1.out] at c; go_simp⟩) hHeld ?_
                    try simp only [Act.put, List.setIfInBounds_toArray, List.set_cons_zero, List.set_cons_succ]
                    refine wpAnyH_ready (rs := [14]) (by kernel_rfl) (by simp) (AllReadyH.cons rfl ?_ (AllReadyH.nil))
                    · intro K' hK
                      go_simp
                      refine hK.out _ _ hHeld (fun hHeld => ?_)
                      clear hK K'
                      try simp only [Act.put, List.setIfInBounds_toArray, List.set_cons_zero, List.set_cons_succ]
                      refine take_d 15 (some 66) (.pointer (some ⟨gb, t3.toNat, none⟩)) rfl (by kernel_rfl) (by kernel_rfl) (by kernel_rfl) (fun _ _ _ h => h) (fun oi h => by cases h; exact Or.inl ⟨by rfl, fun w' hS' => by go_simp⟩) hHeld ?_
                      try simp only [Act.put, List.setIfInBounds_toArray, List.set_cons_zero, List.set_cons_succ]
                      refine take_d 16 (some 67) (.int .u8 (W2.toNat : Int)) rfl (by kernel_rfl) (by kernel_rfl) (by kernel_rfl) (fun _ _ _ h => h) (fun oi h => by cases h; exact Or.inl ⟨by rfl, fun w' hS' => by have c := hS' t3; clear hS'; rw [B2.out] at c; go_simp⟩) hHeld ?_
                      try simp only [Act.put, List.setIfInBounds_toArray, List.set_cons_zero, List.set_cons_succ]
                      exact leaf
                  · intro K' hK
                    go_simp
                    refine hK.out _ _ hHeld (fun hHeld => ?_)
                    clear hK K'
                    try simp only [Act.put, List.setIfInBounds_toArray, List.set_cons_zero, List.set_cons_succ]
                    refine take_d 15 (some 66) (.pointer (some ⟨gb, t3.toNat, none⟩)) rfl (by kernel_rfl) (by kernel_rfl) (by kernel_rfl) (fun _ _ _ h => h) (fun oi h => by cases h; exact Or.inl ⟨by rfl, fun w' hS' => by go_simp⟩) hHeld ?_
                    try simp only [Act.put, List.setIfInBounds_toArray, List.set_cons_zero, List.set_cons_succ]
                    refine take_d 16 (some 67) (.int .u8 (W2.toNat : Int)) rfl (by kernel_rfl) (by kernel_rfl) (by kernel_rfl) (fun _ _ _ h => h) (fun oi h => by cases h; exact Or.inl ⟨by rfl, fun w' hS' => by have c := hS' t3; clear hS'; rw [B2.out] at c; go_simp⟩) hHeld ?_
                    try simp only [Act.put, List.setIfInBounds_toArray, List.set_cons_zero, List.set_cons_succ]
                    refine wpAnyH_ready (rs := [9]) (by kernel_rfl) (by simp) (AllReadyH.cons rfl ?_ (AllReadyH.nil))
                    · intro K' hK
                      go_simp
                      refine hK.out _ _ hHeld (fun hHeld => ?_)
                      clear hK K'
                      try simp only [Act.put, List.setIfInBounds_toArray, List.set_cons_zero, List.set_cons_succ]
                      refine take_d 10 (some 61) (.pointer (some ⟨gb, t2.toNat, none⟩)) rfl (by kernel_rfl) (by kernel_rfl) (by kernel_rfl) (fun _ _ _ h => h) (fun oi h => by cases h; exact Or.inl ⟨by rfl, fun w' hS' => by go_simp⟩) hHeld ?_
                      try simp only [Act.put, List.setIfInBounds_toArray, List.set_cons_zero, List.set_cons_succ]
                      refine take_d 11 (some 62) (.int .u8 (W1.toNat : Int)) rfl (by kernel_rfl) (by kernel_rfl) (by kernel_rfl) (fun _ _ _ h => h) (fun oi h => by cases h; exact Or.inl ⟨by rfl, fun w' hS' => by have c := hS' t2; clear hS'; rw [B1.out] at c; go_simp⟩) hHeld ?_
                      try simp only [Act.put, List.setIfInBounds_toArray, List.set_cons_zero, List.set_cons_succ]
                      exact leaf
                · intro K' hK
                  go_simp
                  refine hK.out _ _ hHeld (fun hHeld => ?_)
                  clear hK K'
                  try simp only [Act.put, List.setIfInBounds_toArray, List.set_cons_zero, List.set_cons_succ]
                  refine take_d 10 (some 61) (.pointer (some ⟨gb, t2.toNat, none⟩)) rfl (by kernel_rfl) (by kernel_rfl) (by kernel_rfl) (fun _ _ _ h => h) (fun oi h => by cases h; exact Or.inl ⟨by rfl, fun w' hS' => by go_simp⟩) hHeld ?_
                  try simp only [Act.put, List.setIfInBounds_toArray, List.set_cons_zero, List.set_cons_succ]
                  refine take_d 11 (some 62) (.int .u8 (W1.toNat : Int)) rfl (by kernel_rfl) (by kernel_rfl) (by kernel_rfl) (fun _ _ _ h => h) (fun oi h => by cases h; exact Or.inl ⟨by rfl, fun w' hS' => by have c := hS' t2; clear hS'; rw [B1.out] at c; go_simp⟩) hHeld ?_
                  try simp only [Act.put, List.setIfInBounds_toArray, List.set_cons_zero, List.set_cons_succ]
                  refine wpAnyH_ready (rs := [2, 14]) (by kernel_rfl) (by simp) (AllReadyH.cons rfl ?_ (AllReadyH.cons rfl ?_ (AllReadyH.nil)))
                  · intro K' hK
                    go_simp
                    refine hK.out _ _ hHeld (fun hHeld => ?_)
                    clear hK K'
                    try simp only [Act.put, List.setIfInBounds_toArray, List.set_cons_zero, List.set_cons_succ]
                    refine take_d 3 (some 54) (.pointer (some ⟨gb, t1.toNat, none⟩)) rfl (by kernel_rfl) (by kernel_rfl) (by kernel_rfl) (fun _ _ _ h => h) (fun oi h => by cases h; exact Or.inl ⟨by rfl, fun w' hS' => by go_simp⟩) hHeld ?_
                    try simp only [Act.put, List.setIfInBounds_toArray, List.set_cons_zero, List.set_cons_succ]
                    refine take_d 4 (some 55) (.int .u8 ((E.sub t1).toNat : Int)) rfl (by kernel_rfl) (by kernel_rfl) (by kernel_rfl) (fun _ _ _ h => h) (fun oi h => by cases h; exact Or.inl ⟨by rfl, fun w' hS' => by have c := hS' t1; go_simp⟩) hHeld ?_
                    try simp only [Act.put, List.setIfInBounds_toArray, List.set_cons_zero, List.set_cons_succ]
                    refine take_d 6 (some 57) (.int .u8 (W0.toNat : Int)) rfl (by kernel_rfl) (by kernel_rfl) (by kernel_rfl) (fun _ _ _ h => h) (fun oi h => by cases h; exact Or.inl ⟨by rfl, fun w' hS' => by go_simp⟩) hHeld ?_
                    try simp only [Act.put, List.setIfInBounds_toArray, List.set_cons_zero, List.set_cons_succ]
                    refine wpAnyH_ready (rs := [14]) (by kernel_rfl) (by simp) (AllReadyH.cons rfl ?_ (AllReadyH.nil))
                    · intro K' hK
                      go_simp
                      refine hK.out _ _ hHeld (fun hHeld => ?_)
                      clear hK K'
                      try simp only [Act.put, List.setIfInBounds_toArray, List.set_cons_zero, List.set_cons_succ]
                      refine take_d 15 (some 66) (.pointer (some ⟨gb, t3.toNat, none⟩)) rfl (by kernel_rfl) (by kernel_rfl) (by kernel_rfl) (fun _ _ _ h => h) (fun oi h => by cases h; exact Or.inl ⟨by rfl, fun w' hS' => by go_simp⟩) hHeld ?_
                      try simp only [Act.put, List.setIfInBounds_toArray, List.set_cons_zero, List.set_cons_succ]
                      refine take_d 16 (some 67) (.int .u8 (W2.toNat : Int)) rfl (by kernel_rfl) (by kernel_rfl) (by kernel_rfl) (fun _ _ _ h => h) (fun oi h => by cases h; exact Or.inl ⟨by rfl, fun w' hS' => by have c := hS' t3; clear hS'; rw [B2.out] at c; go_simp⟩) hHeld ?_
                      try simp only [Act.put, List.setIfInBounds_toArray, List.set_cons_zero, List.set_cons_succ]
                      exact leaf
                  · intro K' hK
                    go_simp
                    refine hK.out _ _ hHeld (fun hHeld => ?_)
                    clear hK K'
                    try simp only [Act.put, List.setIfInBounds_toArray, List.set_cons_zero, List.set_cons_succ]
                    refine take_d 15 (some 66) (.pointer (some ⟨gb, t3.toNat, none⟩)) rfl (by kernel_rfl) (by kernel_rfl) (by kernel_rfl) (fun _ _ _ h => h) (fun oi h => by cases h; exact Or.inl ⟨by rfl, fun w' hS' => by go_simp⟩) hHeld ?_
                    try simp only [Act.put, List.setIfInBounds_toArray, List.set_cons_zero, List.set_cons_succ]
                    refine take_d 16 (some 67) (.int .u8 (W2.toNat : Int)) rfl (by kernel_rfl) (by kernel_rfl) (by kernel_rfl) (fun _ _ _ h => h) (fun oi h => by cases h; exact Or.inl ⟨by rfl, fun w' hS' => by have c := hS' t3; clear hS'; rw [B2.out] at c; go_simp⟩) hHeld ?_
                    try simp only [Act.put, List.setIfInBounds_toArray, List.set_cons_zero, List.set_cons_succ]
                    refine wpAnyH_ready (rs := [2]) (by kernel_rfl) (by simp) (AllReadyH.cons rfl ?_ (AllReadyH.nil))
                    · intro K' hK
                      go_simp
                      refine hK.out _ _ hHeld (fun hHeld => ?_)
                      clear hK K'
                      try simp only [Act.put, List.setIfInBounds_toArray, List.set_cons_zero, List.set_cons_succ]
                      refine take_d 3 (some 54) (.pointer (some ⟨gb, t1.toNat, none⟩)) rfl (by kernel_rfl) (by kernel_rfl) (by kernel_rfl) (fun _ _ _ h => h) (fun oi h => by cases h; exact Or.inl ⟨by rfl, fun w' hS' => by go_simp⟩) hHeld ?_
                      try simp only [Act.put, List.setIfInBounds_toArray, List.set_cons_zero, List.set_cons_succ]
                      refine take_d 4 (some 55) (.int .u8 ((E.sub t1).toNat : Int)) rfl (by kernel_rfl) (by kernel_rfl) (by kernel_rfl) (fun _ _ _ h => h) (fun oi h => by cases h; exact Or.inl ⟨by rfl, fun w' hS' => by have c := hS' t1; go_simp⟩) hHeld ?_
                      try simp only [Act.put, List.setIfInBounds_toArray, List.set_cons_zero, List.set_cons_succ]
                      refine take_d 6 (some 57) (.int .u8 (W0.toNat : Int)) rfl (by kernel_rfl) (by kernel_rfl) (by kernel_rfl) (fun _ _ _ h => h) (fun oi h => by cases h; exact Or.inl ⟨by rfl, fun w' hS' => by go_simp⟩) hHeld ?_
                      try simp only [Act.put, List.setIfInBounds_toArray, List.set_cons_zero, List.set_cons_succ]
                      exact leaf
                · intro K' hK
                  go_simp
                  refine hK.out _ _ hHeld (fun hHeld => ?_)
                  clear hK K'
                  try simp only [Act.put, List.setIfInBounds_toArray, List.set_cons_zero, List.set_cons_succ]
                  refine take_d 15 (some 66) (.pointer (some ⟨gb, t3.toNat, none⟩)) rfl (by kernel_rfl) (by kernel_rfl) (by kernel_rfl) (fun _ _ _ h => h) (fun oi h => by cases h; exact Or.inl ⟨by rfl, fun w' hS' => by go_simp⟩) hHeld ?_
                  try simp only [Act.put, List.setIfInBounds_toArray, List.set_cons_zero, List.set_cons_succ]
                  refine take_d 16 (some 67) (.int .u8 (W2.toNat : Int)) rfl (by kernel_rfl) (by kernel_rfl) (by kernel_rfl) (fun _ _ _ h => h) (fun oi h => by cases h; exact Or.inl ⟨by rfl, fun w' hS' => by have c := hS' t3; clear hS'; rw [B2.out] at c; go_simp⟩) hHeld ?_
                  try simp only [Act.put, List.setIfInBounds_toArray, List.set_cons_zero, List.set_cons_succ]
                  refine wpAnyH_ready (rs := [2, 9]) (by kernel_rfl) (by simp) (AllReadyH.cons rfl ?_ (AllReadyH.cons rfl ?_ (AllReadyH.nil)))
                  · intro K' hK
                    go_simp
                    refine hK.out _ _ hHeld (fun hHeld => ?_)
                    clear hK K'
                    try simp only [Act.put, List.setIfInBounds_toArray, List.set_cons_zero, List.set_cons_succ]
                    refine take_d 3 (some 54) (.pointer (some ⟨gb, t1.toNat, none⟩)) rfl (by kernel_rfl) (by kernel_rfl) (by kernel_rfl) (fun _ _ _ h => h) (fun oi h => by cases h; exact Or.inl ⟨by rfl, fun w' hS' => by go_simp⟩) hHeld ?_
                    try simp only [Act.put, List.setIfInBounds_toArray, List.set_cons_zero, List.set_cons_succ]
                    refine take_d 4 (some 55) (.int .u8 ((E.sub t1).toNat : Int)) rfl (by kernel_rfl) (by kernel_rfl) (by kernel_rfl) (fun _ _ _ h => h) (fun oi h => by cases h; exact Or.inl ⟨by rfl, fun w' hS' => by have c := hS' t1; go_simp⟩) hHeld ?_
                    try simp only [Act.put, List.setIfInBounds_toArray, List.set_cons_zero, List.set_cons_succ]
                    refine take_d 6 (some 57) (.int .u8 (W0.toNat : Int)) rfl (by kernel_rfl) (by kernel_rfl) (by kernel_rfl) (fun _ _ _ h => h) (fun oi h => by cases h; exact Or.inl ⟨by rfl, fun w' hS' => by go_simp⟩) hHeld ?_
                    try simp only [Act.put, List.setIfInBounds_toArray, List.set_cons_zero, List.set_cons_succ]
                    refine wpAnyH_ready (rs := [9]) (by kernel_rfl) (by simp) (AllReadyH.cons rfl ?_ (AllReadyH.nil))
                    · intro K' hK
                      go_simp
                      refine hK.out _ _ hHeld (fun hHeld => ?_)
                      clear hK K'
                      try simp only [Act.put, List.setIfInBounds_toArray, List.set_cons_zero, List.set_cons_succ]
                      refine take_d 10 (some 61) (.pointer (some ⟨gb, t2.toNat, none⟩)) rfl (by kernel_rfl) (by kernel_rfl) (by kernel_rfl) (fun _ _ _ h => h) (fun oi h => by cases h; exact Or.inl ⟨by rfl, fun w' hS' => by go_simp⟩) hHeld ?_
                      try simp only [Act.put, List.setIfInBounds_toArray, List.set_cons_zero, List.set_cons_succ]
                      refine take_d 11 (some 62) (.int .u8 (W1.toNat : Int)) rfl (by kernel_rfl) (by kernel_rfl) (by kernel_rfl) (fun _ _ _ h => h) (fun oi h => by cases h; exact Or.inl ⟨by rfl, fun w' hS' => by have c := hS' t2; clear hS'; rw [B1.out] at c; go_simp⟩) hHeld ?_
                      try simp only [Act.put, List.setIfInBounds_toArray, List.set_cons_zero, List.set_cons_succ]
                      exact leaf
                  · intro K' hK
                    go_simp
                    refine hK.out _ _ hHeld (fun hHeld => ?_)
                    clear hK K'
                    try simp only [Act.put, List.setIfInBounds_toArray, List.set_cons_zero, List.set_cons_succ]
                    refine take_d 10 (some 61) (.pointer (some ⟨gb, t2.toNat, none⟩)) rfl (by kernel_rfl) (by kernel_rfl) (by kernel_rfl) (fun _ _ _ h => h) (fun oi h => by cases h; exact Or.inl ⟨by rfl, fun w' hS' => by go_simp⟩) hHeld ?_
                    try simp only [Act.put, List.setIfInBounds_toArray, List.set_cons_zero, List.set_cons_succ]
                    refine take_d 11 (some 62) (.int .u8 (W1.toNat : Int)) rfl (by kernel_rfl) (by kernel_rfl) (by kernel_rfl) (fun _ _ _ h => h) (fun oi h => by cases h; exact Or.inl ⟨by rfl, fun w' hS' => by have c := hS' t2; clear hS'; rw [B1.out] at c; go_simp⟩) hHeld ?_
                    try simp only [Act.put, List.setIfInBounds_toArray, List.set_cons_zero, List.set_cons_succ]
                    refine wpAnyH_ready (rs := [2]) (by kernel_rfl) (by simp) (AllReadyH.cons rfl ?_ (AllReadyH.nil))
                    · intro K' hK
                      go_simp
                      refine hK.out _ _ hHeld (fun hHeld => ?_)
                      clear hK K'
                      try simp only [Act.put, List.setIfInBounds_toArray, List.set_cons_zero, List.set_cons_succ]
                      refine take_d 3 (some 54) (.pointer (some ⟨gb, t1.toNat, none⟩)) rfl (by kernel_rfl) (by kernel_rfl) (by kernel_rfl) (fun _ _ _ h => h) (fun oi h => by cases h; exact Or.inl ⟨by rfl, fun w' hS' => by go_simp⟩) hHeld ?_
                      try simp only [Act.put, List.setIfInBounds_toArray, List.set_cons_zero, List.set_cons_succ]
                      refine take_d 4 (some 55) (.int .u8 ((E.sub t1).toNat : Int)) rfl (by kernel_rfl) (by kernel_rfl) (by kernel_rfl) (fun _ _ _ h => h) (fun oi h => by cases h; exact Or.inl ⟨by rfl, fun w' hS' => by have c := hS' t1; go_simp⟩) hHeld ?_
                      try simp only [Act.put, List.setIfInBounds_toArray, List.set_cons_zero, List.set_cons_succ]
                      refine take_d 6 (some 57) (.int .u8 (W0.toNat : Int)) rfl (by kernel_rfl) (by kernel_rfl) (by kernel_rfl) (fun _ _ _ h => h) (fun oi h => by cases h; exact Or.inl ⟨by rfl, fun w' hS' => by go_simp⟩) hHeld ?_
                      try simp only [Act.put, List.setIfInBounds_toArray, List.set_cons_zero, List.set_cons_succ]
                      exact leaf
            case lf =>
              refine take_d 22 (some 73) (.agg #[Value.int .u8 (W0.toNat : Int), Value.int .u8 (W1.toNat : Int), Value.int .u8 (W2.toNat : Int), Value.int .u8 (W3.toNat : Int)]) rfl (by kernel_rfl) (by kernel_rfl) (by kernel_rfl) (fun _ _ _ h => h) (fun oi h => by cases h; exact Or.inl ⟨by rfl, fun w' hS' => by go_simp⟩) hHeld ?_
              try simp only [Act.put, List.setIfInBounds_toArray, List.set_cons_zero, List.set_cons_succ]
              refine one_d 23 none rfl (by kernel_rfl) ?_
              intro o ho' hd K' hK
              cases ho'
              rw [if_pos (by rfl)]
              refine wp_store_row 113 (.tmp 9) (.tmp 73) rfl gt (W.cellsOf [W0, W1, W2, W3]).toArray rfl rfl 113 _ rT.drew hinf rfl (c8_all _) ?_
              have vT := rT.drew.setRow (W.cellsOf [W0, W1, W2, W3])
              have hoz := owns_setRow (owns_below hoA (Below.drew (Below.refl _ _)) (Nat.le_refl _)) (show g ≠ gt by omega) (W.cellsOf [W0, W1, W2, W3]).toArray
              have hbz := below_row hbA.drew hbs (W.cellsOf [W0, W1, W2, W3]).toArray
              refine hK.out _ _ (HBW.out _ hbz) (fun hHeld => ?_)
              clear hK K' hHeld c0 c1 c2 c3 rT hoA hbA hd hx l0 l1 l2 l3 B1 B2 B3
              refine wpAnyH_done (by kernel_rfl) ?_ _
              try simp only [Act.put]
              generalize wa.drew.setRow gt (W.cellsOf [W0, W1, W2, W3]).toArray = wz at *
              go_wp2_with fail
              refine (CT.out _).mono ?_
              rintro e wy ⟨rfl, hwy⟩
              rw [hwy]
              clear CT hwy wy
              clear e0 e1 e2 e3 hm hs4 hp1
              have hgz : w.heap.size ≤ wz.heap.size := hbz.size
              have hgtz : gt < wz.heap.size := vT.lt
              have hgg : g < wz.heap.size := (hoz.lt g rfl).2
              go_wp2
              have r0 : Row (wz.alloc (.cells #[Value.int .u8 0, Value.int .u8 0, Value.int .u8 0, Value.int .u8 0] 113 (0, 0))) wz.heap.size 113 (W.cellsOf [0, 0, 0, 0]) := Row.new' rfl rfl
              generalize ((p : Int) + 4) % 4 = z49
              generalize (p + 4 - 1) * 4 = z46
              go_loopw [11] (fun kv wq => ∃ j : Nat, j ≤ 4 ∧ kv = .int .i64 j ∧ Row wq gt 113 (W.cellsOf [W0, W1, W2, W3]) ∧ Row wq wz.heap.size 113 (W.cellsOf (E.fill [X0, X1, X2, X3] [0, 0, 0, 0] j)) ∧ wq.ownsRow w.heap.size 113 4 (.slice (some ⟨g, 0, none⟩) (p + 4) cap) (p + 4) (W.cellsOf (K.take (4 * (p + 4)))) ∧ Below w.heap.size w wq) (fun kv _ => 4 - (intOf kv).toNat)
              case atStart => exact ⟨0, Nat.zero_le _, rfl, vT.alloc _, by rw [E.fill_zero]; exact r0, hoz.alloc _, hbz.alloc hbz.size _⟩
              case round =>
                clear r0 vT hoz hbz
                obtain ⟨j, hj, rfl, vT, vX, hoq, hbq⟩ := hrel
                by_cases hjl : j < 4
                · have hs3 : (j : Int) < 4 := by omega
                  have hcj : wr.cell? ⟨g, p * 4 + j, none⟩ = some (.int .u8 ((K.getD (p * 4 + j) 0).toNat : Int)) := by
                    obtain ⟨g', cap', hv, _, _, _, hc⟩ := owns_row4 hoq (by omega)
                    cases hv
                    rw [hc _ (by omega)]; simp [List.getD_eq_getElem?_getD, show p * 4 + j < 4 * (p + 4) by omega]
                  have hct := (vT.cell j).trans (c8_at (by simpa using hjl))
                  have hcx := (vX.cell j).trans (c8_at (by rw [E.fill_length (by rfl)]; simpa using hjl))
                  have hfx := vX.frozen j
                  have hxx := xor8 (K.getD (p * 4 + j) 0) ([W0, W1, W2, W3].getD j 0)
                  rw [HXL.out j hjl] at hxx
                  have vX' := vX.set j (.int .u8 (([X0, X1, X2, X3].getD j 0).toNat : Int))
                  rw [c8_set, E.fill_step (by rfl) (by simpa using hjl)] at vX'
                  generalize [X0, X1, X2, X3].getD j 0 = xx at *
                  generalize [W0, W1, W2, W3].getD j 0 = ww at *
                  generalize K.getD (p * 4 + j) 0 = kk at *
                  have hq0 : (0 : Int) ≤ (p : Int) := by omega
                  have hq1 : IntKind.i64.wrap (p : Int) = (p : Int) := by rw [IntKind.wrap_i64]; omega
                  have hq5 : ¬ ((p : Int) + 4 ≤ (p : Int)) := by omega
                  have hq2 : (p : Int) < ((p + 4 : Nat) : Int) := by omega
                  have hq3 : (0 : Int) ≤ (j : Int) := by omega
                  clear HXL HTP HBW
                  go_wp2_with fail
                  have kc : (wr.setCell ⟨wz.heap.size, j, none⟩ (.int .u8 (xx.toNat : Int))).cell? ⟨g, p * 4 + j, none⟩ = some (.int .u8 (kk.toNat : Int)) := by rw [World.cell?_setCell_other _ _ _ _ (fun h => by have := congrArg Addr.block h; simp at this; omega)]; exact hcj
                  have kt : (wr.setCell ⟨wz.heap.size, j, none⟩ (.int .u8 (xx.toNat : Int))).cell? ⟨gt, j, none⟩ = some (.int .u8 (ww.toNat : Int)) := by rw [World.cell?_setCell_other _ _ _ _ (fun h => by have := congrArg Addr.block h; simp at this; omega)]; exact hct
                  refine wp_region_held_drew (S := fun w' => w'.cell? ⟨g, p * 4 + j, none⟩ = some (.int .u8 (kk.toNat : Int)) ∧ w'.cell? ⟨gt, j, none⟩ = some (.int .u8 (ww.toNat : Int))) (by kernel_rfl) ⟨hcj, hct⟩ (fun hHeld => ?_)
                  refine take_d 0 (some 80) (.int .i64 (j : Int)) rfl (by kernel_rfl) (by kernel_rfl) (by kernel_rfl) (fun _ _ _ h => h) (fun oi h => by cases h; exact Or.inl ⟨by rfl, fun w' hS' => by go_simp⟩) hHeld ?_
                  try simp only [Act.put, List.setIfInBounds_toArray, List.set_cons_zero, List.set_cons_succ]
                  refine take_d 1 (some 81) (.slice (some ⟨g, 0, none⟩) (p + 4) cap) rfl (by kernel_rfl) (by kernel_rfl) (by kernel_rfl) (fun _ _ _ h => h) (fun oi h => by cases h; exact Or.inl ⟨by rfl, fun w' hS' => by go_simp⟩) hHeld ?_
                  try simp only [Act.put, List.setIfInBounds_toArray, List.set_cons_zero, List.set_cons_succ]
                  refine take_d 2 (some 82) (.int .i64 ((p : Int) + 4)) rfl (by kernel_rfl) (by kernel_rfl) (by kernel_rfl) (fun _ _ _ h => h) (fun oi h => by cases h; exact Or.inl ⟨by rfl, fun w' hS' => by go_simp⟩) hHeld ?_
                  try simp only [Act.put, List.setIfInBounds_toArray, List.set_cons_zero, List.set_cons_succ]
                  refine take_d 3 (some 83) (.int .i64 (p : Int)) rfl (by kernel_rfl) (by kernel_rfl) (by kernel_rfl) (fun _ _ _ h => h) (fun oi h => by cases h; exact Or.inl ⟨by rfl, fun w' hS' => by go_simp⟩) hHeld ?_
                  try simp only [Act.put, List.setIfInBounds_toArray, List.set_cons_zero, List.set_cons_succ]
                  refine take_d 4 (some 84) (.int .i64 (j : Int)) rfl (by kernel_rfl) (by kernel_rfl) (by kernel_rfl) (fun _ _ _ h => h) (fun oi h => by cases h; exact Or.inl ⟨by rfl, fun w' hS' => by go_simp⟩) hHeld ?_
                  try simp only [Act.put, List.setIfInBounds_toArray, List.set_cons_zero, List.set_cons_succ]
                  refine take_d 5 (some 85) (.pointer (some ⟨g, p * 4, none⟩)) rfl (by kernel_rfl) (by kernel_rfl) (by kernel_rfl) (fun _ _ _ h => h) (fun oi h => by cases h; exact Or.inl ⟨by rfl, fun w' hS' => by go_simp⟩) hHeld ?_
                  try simp only [Act.put, List.setIfInBounds_toArray, List.set_cons_zero, List.set_cons_succ]
                  refine take_d 6 (some 86) (.pointer (some ⟨g, p * 4 + j, none⟩)) rfl (by kernel_rfl) (by kernel_rfl) (by kernel_rfl) (fun _ _ _ h => h) (fun oi h => by cases h; exact Or.inl ⟨by rfl, fun w' hS' => by go_simp⟩) hHeld ?_
                  try simp only [Act.put, List.setIfInBounds_toArray, List.set_cons_zero, List.set_cons_succ]
                  refine take_d 7 (some 87) (.int .u8 (kk.toNat : Int)) rfl (by kernel_rfl) (by kernel_rfl) (by kernel_rfl) (fun _ _ _ h => h) (fun oi h => by cases h; exact Or.inl ⟨by rfl, fun w' hS' => by have c := hS'.1; go_simp⟩) hHeld ?_
                  try simp only [Act.put, List.setIfInBounds_toArray, List.set_cons_zero, List.set_cons_succ]
                  refine take_d 8 (some 88) (.int .i64 (j : Int)) rfl (by kernel_rfl) (by kernel_rfl) (by kernel_rfl) (fun _ _ _ h => h) (fun oi h => by cases h; exact Or.inl ⟨by rfl, fun w' hS' => by go_simp⟩) hHeld ?_
                  try simp only [Act.put, List.setIfInBounds_toArray, List.set_cons_zero, List.set_cons_succ]
                  refine take_d 9 (some 89) (.pointer (some ⟨gt, j, none⟩)) rfl (by kernel_rfl) (by kernel_rfl) (by kernel_rfl) (fun _ _ _ h => h) (fun oi h => by cases h; exact Or.inl ⟨by rfl, fun w' hS' => by go_simp⟩) hHeld ?_
                  try simp only [Act.put, List.setIfInBounds_toArray, List.set_cons_zero, List.set_cons_succ]
                  refine take_d 10 (some 90) (.int .u8 (ww.toNat : Int)) rfl (by kernel_rfl) (by kernel_rfl) (by kernel_rfl) (fun _ _ _ h => h) (fun oi h => by cases h; exact Or.inl ⟨by rfl, fun w' hS' => by have c := hS'.2; go_simp⟩) hHeld ?_
                  try simp only [Act.put, List.setIfInBounds_toArray, List.set_cons_zero, List.set_cons_succ]
                  refine take_d 11 (some 91) (.int .u8 (xx.toNat : Int)) rfl (by kernel_rfl) (by kernel_rfl) (by kernel_rfl) (fun _ _ _ h => h) (fun oi h => by cases h; exact Or.inl ⟨by rfl, fun w' hS' => by go_simp⟩) hHeld ?_
                  try simp only [Act.put, List.setIfInBounds_toArray, List.set_cons_zero, List.set_cons_succ]
                  refine take_d 12 (some 92) (.pointer (some ⟨wz.heap.size, j, none⟩)) rfl (by kernel_rfl) (by kernel_rfl) (by kernel_rfl) (fun _ _ _ h => h) (fun oi h => by cases h; exact Or.inl ⟨by rfl, fun w' hS' => by go_simp⟩) hHeld ?_
                  try simp only [Act.put, List.setIfInBounds_toArray, List.set_cons_zero, List.set_cons_succ]
                  refine one_d 13 none rfl (by kernel_rfl) ?_
                  intro o ho' hd K' hK
                  cases ho'
                  go_simp
                  refine hK.out _ _ ⟨kc, kt⟩ (fun hHeld => ?_)
                  clear hK K' hHeld hd
                  refine wpAnyH_done (by kernel_rfl) ?_ _
                  try simp only [Act.put]
                  go_wp2
                  go_roundw
                  case rel => exact ⟨j + 1, by omega, by go_num, (vT.other (by omega) _).drew, vX'.drew, owns_below (owns_other hoq (show g ≠ wz.heap.size by omega) _) (Below.drew (Below.refl _ _)) (Nat.le_refl _), (hbq.setCell (by simp; omega) _).drew⟩
                  case measure => simp [intOf]; omega
                · obtain rfl : j = 4 := by omega
                  rw [E.fill_full (n := 4) rfl rfl] at vX
                  have d0 : wr.cell? ⟨wz.heap.size, 0, none⟩ = some (.int .u8 (X0.toNat : Int)) := vX.cell 0
                  have d1 : wr.cell? ⟨wz.heap.size, 1, none⟩ = some (.int .u8 (X1.toNat : Int)) := vX.cell 1
                  have d2 : wr.cell? ⟨wz.heap.size, 2, none⟩ = some (.int .u8 (X2.toNat : Int)) := vX.cell 2
                  have d3 : wr.cell? ⟨wz.heap.size, 3, none⟩ = some (.int .u8 (X3.toNat : Int)) := vX.cell 3
                  have hoA := hoq.alloc (.cells #[Value.int .u8 (X0.toNat : Int), Value.int .u8 (X1.toNat : Int), Value.int .u8 (X2.toNat : Int), Value.int .u8 (X3.toNat : Int)] 113 (0, 0))
                  have rN : Row (wr.alloc (.cells #[Value.int .u8 (X0.toNat : Int), Value.int .u8 (X1.toNat : Int), Value.int .u8 (X2.toNat : Int), Value.int .u8 (X3.toNat : Int)] 113 (0, 0))) wr.heap.size 113 (W.cellsOf [X0, X1, X2, X3]) := Row.new' rfl rfl
                  have hbA := hbq.alloc hbq.size (.cells #[Value.int .u8 (X0.toNat : Int), Value.int .u8 (X1.toNat : Int), Value.int .u8 (X2.toNat : Int), Value.int .u8 (X3.toNat : Int)] 113 (0, 0))
                  go_wp2_with (at_builtin; refine wpList_append_own _ rfl _ _ 90 rfl w.heap.size 113 i0 _ 4 4 Tryz.underlying90 hi hz0 hz1 hz2 rfl (by decide) _ (p + 4) (W.cellsOf (K.take (4 * (p + 4)))) rfl hoA ⟨wr.heap.size, 0, none⟩ 1 1 (W.cellsOf [X0, X1, X2, X3]) rfl rfl (fun j u hj => by rw [addr0, rN.cell]; exact hj) (c8_one _) (by unfold maxLen; omega) (by omega) (by have := hbA.size; omega) ?_)
                  intro v' w2 ho2 hgrow hnil
                  rw [← c8_append, ← HTP.out, show p + 4 + 1 = p + 1 + 4 from by omega] at ho2
                  have hb2 : Below w.heap.size w w2 := hbA.grown hgrow (by have := hbA.size; omega) (fun k hk => (hoA.lt k hk).1)
                  clear hgrow hnil hoA rN hbA d0 d1 d2 d3 vX vT hoq hbq
                  go_wp2
                  go_roundw
                  case rel => exact ⟨p + 1, by omega, by go_num, by rw [HCN.out], ho2, hb2⟩
                  case measure => simp [intOf]; omega
          · have hm : ((p : Int) % 4 == 0) = false := by rw [beq_eq_false_iff_ne]; omega
            have HWT : Hid (E.wt K (p + 4) 0 = K.getD ((p + 3) * 4) 0 ∧ E.wt K (p + 4) 1 = K.getD ((p + 3) * 4 + 1) 0 ∧ E.wt K (p + 4) 2 = K.getD ((p + 3) * 4 + 2) 0 ∧ E.wt K (p + 4) 3 = K.getD ((p + 3) * 4 + 3) 0) := by
              have h4' : ¬ (p + 4) % 4 = 0 := by omega
              have h1 : 4 * (p + 4 - 1) = (p + 3) * 4 := by omega
              refine ⟨?_, ?_, ?_, ?_⟩
              all_goals (unfold E.wt; rw [if_neg h4', h1])
              rfl
            rw [← HWT.out.1] at e0
            rw [← HWT.out.2.1] at e1
            rw [← HWT.out.2.2.1] at e2
            rw [← HWT.out.2.2.2] at e3
            have HCO : Hid (E.dblN 1 ((p + 3) / 4) = E.dblN 1 ((p + 1 + 3) / 4)) := by show _ = _; rw [show (p + 1 + 3) / 4 = (p + 3) / 4 from by omega]
            clear HWT h4 HC HW HT4 HKL hg1 hcp
            generalize E.wt K (p + 4) 0 = W0 at *
            generalize E.wt K (p + 4) 1 = W1 at *
            generalize E.wt K (p + 4) 2 = W2 at *
            generalize E.wt K (p + 4) 3 = W3 at *
            generalize K.getD (4 * (p + 4)) 0 = X0 at *
            generalize K.getD (4 * (p + 4) + 1) 0 = X1 at *
            generalize K.getD (4 * (p + 4) + 2) 0 = X2 at *
            generalize K.getD (4 * (p + 4) + 3) 0 = X3 at *
            rw [HCO.out]
            generalize hcon : E.dblN 1 ((p + 1 + 3) / 4) = con at *
            have HCN := Lib.hid hcon
            clear hcon HCO
            go_wp2_with fail
            have vT : Row (wr.alloc (.cells #[Value.int .u8 (W0.toNat : Int), Value.int .u8 (W1.toNat : Int), Value.int .u8 (W2.toNat : Int), Value.int .u8 (W3.toNat : Int)] 113 (0, 0))) wr.heap.size 113 (W.cellsOf [W0, W1, W2, W3]) := Row.new' rfl rfl
            have hoz := ho.alloc (.cells #[Value.int .u8 (W0.toNat : Int), Value.int .u8 (W1.toNat : Int), Value.int .u8 (W2.toNat : Int), Value.int .u8 (W3.toNat : Int)] 113 (0, 0))
            have hbz := hb.alloc hbs (.cells #[Value.int .u8 (W0.toNat : Int), Value.int .u8 (W1.toNat : Int), Value.int .u8 (W2.toNat : Int), Value.int .u8 (W3.toNat : Int)] 113 (0, 0))
            obtain ⟨wz, hwz⟩ : ∃ wz, wz = wr.alloc (.cells #[Value.int .u8 (W0.toNat : Int), Value.int .u8 (W1.toNat : Int), Value.int .u8 (W2.toNat : Int), Value.int .u8 (W3.toNat : Int)] 113 (0, 0)) := ⟨_, rfl⟩
            have hsz : wr.heap.size + 1 = wz.heap.size := by rw [hwz]; simp
            rw [← hwz] at vT hoz hbz ⊢
            rw [hsz]
            clear hwz hsz
            generalize wr.heap.size = gt at *
            clear e0 e1 e2 e3 hm hs4 hp1
            have hgz : w.heap.size ≤ wz.heap.size := hbz.size
            have hgtz : gt < wz.heap.size := vT.lt
            have hgg : g < wz.heap.size := (hoz.lt g rfl).2
            have r0 : Row (wz.alloc (.cells #[Value.int .u8 0, Value.int .u8 0, Value.int .u8 0, Value.int .u8 0] 113 (0, 0))) wz.heap.size 113 (W.cellsOf [0, 0, 0, 0]) := Row.new' rfl rfl
            generalize ((p : Int) + 4) % 4 = z49
            generalize (p + 4 - 1) * 4 = z46
            go_loopw [11] (fun kv wq => ∃ j : Nat, j ≤ 4 ∧ kv = .int .i64 j ∧ Row wq gt 113 (W.cellsOf [W0, W1, W2, W3]) ∧ Row wq wz.heap.size 113 (W.cellsOf (E.fill [X0, X1, X2, X3] [0, 0, 0, 0] j)) ∧ wq.ownsRow w.heap.size 113 4 (.slice (some ⟨g, 0, none⟩) (p + 4) cap) (p + 4) (W.cellsOf (K.take (4 * (p + 4)))) ∧ Below w.heap.size w wq) (fun kv _ => 4 - (intOf kv).toNat)
            case atStart => exact ⟨0, Nat.zero_le _, rfl, vT.alloc _, by rw [E.fill_zero]; exact r0, hoz.alloc _, hbz.alloc hbz.size _⟩
            case round =>
              clear r0 vT hoz hbz
              obtain ⟨j, hj, rfl, vT, vX, hoq, hbq⟩ := hrel
              by_cases hjl : j < 4
              · have hs3 : (j : Int) < 4 := by omega
                have hcj : wr.cell? ⟨g, p * 4 + j, none⟩ = some (.int .u8 ((K.getD (p * 4 + j) 0).toNat : Int)) := by
                  obtain ⟨g', cap', hv, _, _, _, hc⟩ := owns_row4 hoq (by omega)
                  cases hv
                  rw [hc _ (by omega)]; simp [List.getD_eq_getElem?_getD, show p * 4 + j < 4 * (p + 4) by omega]
                have hct := (vT.cell j).trans (c8_at (by simpa using hjl))
                have hcx := (vX.cell j).trans (c8_at (by rw [E.fill_length (by rfl)]; simpa using hjl))
                have hfx := vX.frozen j
                have hxx := xor8 (K.getD (p * 4 + j) 0) ([W0, W1, W2, W3].getD j 0)
                rw [HXL.out j hjl] at hxx
                have vX' := vX.set j (.int .u8 (([X0, X1, X2, X3].getD j 0).toNat : Int))
                rw [c8_set, E.fill_step (by rfl) (by simpa using hjl)] at vX'
                generalize [X0, X1, X2, X3].getD j 0 = xx at *
                generalize [W0, W1, W2, W3].getD j 0 = ww at *
                generalize K.getD (p * 4 + j) 0 = kk at *
                have hq0 : (0 : Int) ≤ (p : Int) := by omega
                have hq1 : IntKind.i64.wrap (p : Int) = (p : Int) := by rw [IntKind.wrap_i64]; omega
                have hq5 : ¬ ((p : Int) + 4 ≤ (p : Int)) := by omega
                have hq2 : (p : Int) < ((p + 4 : Nat) : Int) := by omega
                have hq3 : (0 : Int) ≤ (j : Int) := by omega
                clear HXL HTP HBW
                go_wp2_with fail
                have kc : (wr.setCell ⟨wz.heap.size, j, none⟩ (.int .u8 (xx.toNat : Int))).cell? ⟨g, p * 4 + j, none⟩ = some (.int .u8 (kk.toNat : Int)) := by rw [World.cell?_setCell_other _ _ _ _ (fun h => by have := congrArg Addr.block h; simp at this; omega)]; exact hcj
                have kt : (wr.setCell ⟨wz.heap.size, j, none⟩ (.int .u8 (xx.toNat : Int))).cell? ⟨gt, j, none⟩ = some (.int .u8 (ww.toNat : Int)) := by rw [World.cell?_setCell_other _ _ _ _ (fun h => by have := congrArg Addr.block h; simp at this; omega)]; exact hct
                refine wp_region_held_drew (S := fun w' => w'.cell? ⟨g, p * 4 + j, none⟩ = some (.int .u8 (kk.toNat : Int)) ∧ w'.cell? ⟨gt, j, none⟩ = some (.int .u8 (ww.toNat : Int))) (by kernel_rfl) ⟨hcj, hct⟩ (fun hHeld => ?_)
                refine take_d 0 (some 80) (.int .i64 (j : Int)) rfl (by kernel_rfl) (by kernel_rfl) (by kernel_rfl) (fun _ _ _ h => h) (fun oi h => by cases h; exact Or.inl ⟨by rfl, fun w' hS' => by go_simp⟩) hHeld ?_
                try simp only [Act.put, List.setIfInBounds_toArray, List.set_cons_zero, List.set_cons_succ]
                refine take_d 1 (some 81) (.slice (some ⟨g, 0, none⟩) (p + 4) cap) rfl (by kernel_rfl) (by kernel_rfl) (by kernel_rfl) (fun _ _ _ h => h) (fun oi h => by cases h; exact Or.inl ⟨by rfl, fun w' hS' => by go_simp⟩) hHeld ?_
                try simp only [Act.put, List.setIfInBounds_toArray, List.set_cons_zero, List.set_cons_succ]
                refine take_d 2 (some 82) (.int .i64 ((p : Int) + 4)) rfl (by kernel_rfl) (by kernel_rfl) (by kernel_rfl) (fun _ _ _ h => h) (fun oi h => by cases h; exact Or.inl ⟨by rfl, fun w' hS' => by go_simp⟩) hHeld ?_
                try simp only [Act.put, List.setIfInBounds_toArray, List.set_cons_zero, List.set_cons_succ]
                refine take_d 3 (some 83) (.int .i64 (p : Int)) rfl (by kernel_rfl) (by kernel_rfl) (by kernel_rfl) (fun _ _ _ h => h) (fun oi h => by cases h; exact Or.inl ⟨by rfl, fun w' hS' => by go_simp⟩) hHeld ?_
                try simp only [Act.put, List.setIfInBounds_toArray, List.set_cons_zero, List.set_cons_succ]
                refine take_d 4 (some 84) (.int .i64 (j : Int)) rfl (by kernel_rfl) (by kernel_rfl) (by kernel_rfl) (fun _ _ _ h => h) (fun oi h => by cases h; exact Or.inl ⟨by rfl, fun w' hS' => by go_simp⟩) hHeld ?_
                try simp only [Act.put, List.setIfInBounds_toArray, List.set_cons_zero, List.set_cons_succ]
                refine take_d 5 (some 85) (.pointer (some ⟨g, p * 4, none⟩)) rfl (by kernel_rfl) (by kernel_rfl) (by kernel_rfl) (fun _ _ _ h => h) (fun oi h => by cases h; exact Or.inl ⟨by rfl, fun w' hS' => by go_simp⟩) hHeld ?_
                try simp only [Act.put, List.setIfInBounds_toArray, List.set_cons_zero, List.set_cons_succ]
                refine take_d 6 (some 86) (.pointer (some ⟨g, p * 4 + j, none⟩)) rfl (by kernel_rfl) (by kernel_rfl) (by kernel_rfl) (fun _ _ _ h => h) (fun oi h => by cases h; exact Or.inl ⟨by rfl, fun w' hS' => by go_simp⟩) hHeld ?_
                try simp only [Act.put, List.setIfInBounds_toArray, List.set_cons_zero, List.set_cons_succ]
                refine take_d 7 (some 87) (.int .u8 (kk.toNat : Int)) rfl (by kernel_rfl) (by kernel_rfl) (by kernel_rfl) (fun _ _ _ h => h) (fun oi h => by cases h; exact Or.inl ⟨by rfl, fun w' hS' => by have c := hS'.1; go_simp⟩) hHeld ?_
                try simp only [Act.put, List.setIfInBounds_toArray, List.set_cons_zero, List.set_cons_succ]
                refine take_d 8 (some 88) (.int .i64 (j : Int)) rfl (by kernel_rfl) (by kernel_rfl) (by kernel_rfl) (fun _ _ _ h => h) (fun oi h => by cases h; exact Or.inl ⟨by rfl, fun w' hS' => by go_simp⟩) hHeld ?_
                try simp only [Act.put, List.setIfInBounds_toArray, List.set_cons_zero, List.set_cons_succ]
                refine take_d 9 (some 89) (.pointer (some ⟨gt, j, none⟩)) rfl (by kernel_rfl) (by kernel_rfl) (by kernel_rfl) (fun _ _ _ h => h) (fun oi h => by cases h; exact Or.inl ⟨by rfl, fun w' hS' => by go_simp⟩) hHeld ?_
                try simp only [Act.put, List.setIfInBounds_toArray, List.set_cons_zero, List.set_cons_succ]
                refine take_d 10 (some 90) (.int .u8 (ww.toNat : Int)) rfl (by kernel_rfl) (by kernel_rfl) (by kernel_rfl) (fun _ _ _ h => h) (fun oi h => by cases h; exact Or.inl ⟨by rfl, fun w' hS' => by have c := hS'.2; go_simp⟩) hHeld ?_
                try simp only [Act.put, List.setIfInBounds_toArray, List.set_cons_zero, List.set_cons_succ]
                refine take_d 11 (some 91) (.int .u8 (xx.toNat : Int)) rfl (by kernel_rfl) (by kernel_rfl) (by kernel_rfl) (fun _ _ _ h => h) (fun oi h => by cases h; exact Or.inl ⟨by rfl, fun w' hS' => by go_simp⟩) hHeld ?_
                try simp only [Act.put, List.setIfInBounds_toArray, List.set_cons_zero, List.set_cons_succ]
                refine take_d 12 (some 92) (.pointer (some ⟨wz.heap.size, j, none⟩)) rfl (by kernel_rfl) (by kernel_rfl) (by kernel_rfl) (fun _ _ _ h => h) (fun oi h => by cases h; exact Or.inl ⟨by rfl, fun w' hS' => by go_simp⟩) hHeld ?_
                try simp only [Act.put, List.setIfInBounds_toArray, List.set_cons_zero, List.set_cons_succ]
                refine one_d 13 none rfl (by kernel_rfl) ?_
                intro o ho' hd K' hK
                cases ho'
                go_simp
                refine hK.out _ _ ⟨kc, kt⟩ (fun hHeld => ?_)
                clear hK K' hHeld hd
                refine wpAnyH_done (by kernel_rfl) ?_ _
                try simp only [Act.put]
                go_wp2
                go_roundw
                case rel => exact ⟨j + 1, by omega, by go_num, (vT.other (by omega) _).drew, vX'.drew, owns_below (owns_other hoq (show g ≠ wz.heap.size by omega) _) (Below.drew (Below.refl _ _)) (Nat.le_refl _), (hbq.setCell (by simp; omega) _).drew⟩
                case measure => simp [intOf]; omega
              · obtain rfl : j = 4 := by omega
                rw [E.fill_full (n := 4) rfl rfl] at vX
                have d0 : wr.cell? ⟨wz.heap.size, 0, none⟩ = some (.int .u8 (X0.toNat : Int)) := vX.cell 0
                have d1 : wr.cell? ⟨wz.heap.size, 1, none⟩ = some (.int .u8 (X1.toNat : Int)) := vX.cell 1
                have d2 : wr.cell? ⟨wz.heap.size, 2, none⟩ = some (.int .u8 (X2.toNat : Int)) := vX.cell 2
                have d3 : wr.cell? ⟨wz.heap.size, 3, none⟩ = some (.int .u8 (X3.toNat : Int)) := vX.cell 3
                have hoA := hoq.alloc (.cells #[Value.int .u8 (X0.toNat : Int), Value.int .u8 (X1.toNat : Int), Value.int .u8 (X2.toNat : Int), Value.int .u8 (X3.toNat : Int)] 113 (0, 0))
                have rN : Row (wr.alloc (.cells #[Value.int .u8 (X0.toNat : Int), Value.int .u8 (X1.toNat : Int), Value.int .u8 (X2.toNat : Int), Value.int .u8 (X3.toNat : Int)] 113 (0, 0))) wr.heap.size 113 (W.cellsOf [X0, X1, X2, X3]) := Row.new' rfl rfl
                have hbA := hbq.alloc hbq.size (.cells #[Value.int .u8 (X0.toNat : Int), Value.int .u8 (X1.toNat : Int), Value.int .u8 (X2.toNat : Int), Value.int .u8 (X3.toNat : Int)] 113 (0, 0))
                go_wp2_with (at_builtin; refine wpList_append_own _ rfl _ _ 90 rfl w.heap.size 113 i0 _ 4 4 Tryz.underlying90 hi hz0 hz1 hz2 rfl (by decide) _ (p + 4) (W.cellsOf (K.take (4 * (p + 4)))) rfl hoA ⟨wr.heap.size, 0, none⟩ 1 1 (W.cellsOf [X0, X1, X2, X3]) rfl rfl (fun j u hj => by rw [addr0, rN.cell]; exact hj) (c8_one _) (by unfold maxLen; omega) (by omega) (by have := hbA.size; omega) ?_)
                intro v' w2 ho2 hgrow hnil
                rw [← c8_append, ← HTP.out, show p + 4 + 1 = p + 1 + 4 from by omega] at ho2
                have hb2 : Below w.heap.size w w2 := hbA.grown hgrow (by have := hbA.size; omega) (fun k hk => (hoA.lt k hk).1)
                clear hgrow hnil hoA rN hbA d0 d1 d2 d3 vX vT hoq hbq
                go_wp2
                go_roundw
                case rel => exact ⟨p + 1, by omega, by go_num, by rw [HCN.out], ho2, hb2⟩
                case measure => simp [intOf]; omega
        · obtain rfl : p = 40 := by omega
          rw [List.take_of_length_le (by rw [HKL.out]; decide)] at ho
          go_wp2
          go_ret
          exact ⟨_, rfl, ho, hb⟩

end Go.Proofs.YtjkaignfomlflaaGreat
