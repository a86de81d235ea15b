/-
  Layer 5: the document's Encrypt; its box and words, told by their cells.
-/
import Derived.Test.YtpkehhbjagmodaaABy
namespace Go.Proofs.Ytpkehhbjagmodaa
open Go.RowKit
set_option linter.unusedVariables false

theorem refBoxC_any (w : World) :
    Calls Try.prog 14 #[] w fun e w' => ∃ gb cap, e = .returned (.slice (some ⟨gb, 0, none⟩) 256 cap) ∧ w.heap.size ≤ gb ∧ gb < w'.heap.size ∧ 256 ≤ cap ∧ (∀ x : UInt8, w'.cell? ⟨gb, x.toNat, none⟩ = some (.int .u8 ((E.sub x).toNat : Int))) ∧ Below w.heap.size w w' := by
  refine (refBox_any w).mono ?_
  rintro e w' ⟨v, rfl, hown, hb⟩
  obtain ⟨box, hbox⟩ : ∃ b : List UInt8, b = E.sbox := ⟨_, rfl⟩
  have hl : box.length = 256 := by rw [hbox]; exact E.sbox_length
  have hs : ∀ x : UInt8, box.getD x.toNat 0 = E.sub x := fun x => by rw [hbox]; rfl
  rw [← hbox, ← hl] at hown
  obtain ⟨g, cap, hv, h1, h2, h3, h4⟩ := owns_cells hown (by omega)
  rw [hl] at h3
  refine ⟨g, cap, by rw [hv, hl], h1, h2, h3, fun x => ?_, hb⟩
  rw [h4 _ (by rw [hl]; exact x.toNat_lt), hs]

theorem wordsC_any (s : ByteArray) (hs : s.size = 16) (gb capb : Nat) (w : World) (hgb : gb < w.heap.size) (hcap : 256 ≤ capb) (hbox : ∀ x : UInt8, w.cell? ⟨gb, x.toNat, none⟩ = some (.int .u8 ((E.sub x).toNat : Int))) :
    Calls Try.prog 13 #[.string s, .slice (some ⟨gb, 0, none⟩) 256 capb] w fun e w' => ∃ gw cap, e = .returned (.slice (some ⟨gw, 0, none⟩) 44 cap) ∧ w.heap.size ≤ gw ∧ gw < w'.heap.size ∧ (∀ j, j < 176 → w'.cell? ⟨gw, j, none⟩ = some (.int .u8 (((E.rks s.data.toList 11).getD j 0).toNat : Int))) ∧ Below w.heap.size w w' := by
  refine (words_any s hs gb capb w hgb hcap hbox).mono ?_
  rintro e w' ⟨v, rfl, hown, hb⟩
  obtain ⟨g, cap, hv, h1, h2, h3, h4⟩ := owns_row4 hown (by decide)
  exact ⟨g, cap, by rw [hv], h1, h2, fun j hj => h4 j (by omega), hb⟩

set_option maxHeartbeats 2000000 in
theorem refEnc_any (s : ByteArray) (hs : s.size = 16) (b : List UInt8) (hb : b.length = 16) (w : World) :
    Calls Try.prog 17 #[.string s, .agg (W.cellsOf b).toArray] w fun e w' => e = .returned (.agg (W.cellsOf (E.enc s.data.toList b)).toArray) ∧ Below w.heap.size w w' := by
  have hk : s.data.toList.length = 16 := by simpa using hs
  have HB := Lib.hid hb
  have HEL := Lib.hid (E.enc_length s.data.toList b)
  have CB : Hid (∀ gb capb gw capw wx, gb < wx.heap.size → gw < wx.heap.size → (∀ x : UInt8, wx.cell? ⟨gb, x.toNat, none⟩ = some (.int .u8 ((E.sub x).toNat : Int))) → (∀ j, j < 176 → wx.cell? ⟨gw, j, none⟩ = some (.int .u8 (((E.rks s.data.toList 11).getD j 0).toNat : Int))) → Calls Try.prog 36 #[.slice (some ⟨gb, 0, none⟩) 256 capb, .slice (some ⟨gw, 0, none⟩) 44 capw, .agg (W.cellsOf b).toArray] wx fun e w' => e = .returned (.agg (W.cellsOf (E.enc s.data.toList b)).toArray) ∧ Below wx.heap.size wx w') := fun gb capb gw capw wx h1 h2 h3 h4 => by_any s.data.toList b hk hb gb capb gw capw wx h1 h2 h3 h4
  have CW : Hid (∀ gb capb wx, gb < wx.heap.size → 256 ≤ capb → (∀ x : UInt8, wx.cell? ⟨gb, x.toNat, none⟩ = some (.int .u8 ((E.sub x).toNat : Int))) → Calls Try.prog 13 #[.string s, .slice (some ⟨gb, 0, none⟩) 256 capb] wx fun e w' => ∃ gw cap, e = .returned (.slice (some ⟨gw, 0, none⟩) 44 cap) ∧ wx.heap.size ≤ gw ∧ gw < w'.heap.size ∧ (∀ j, j < 176 → w'.cell? ⟨gw, j, none⟩ = some (.int .u8 (((E.rks s.data.toList 11).getD j 0).toNat : Int))) ∧ Below wx.heap.size wx w') := fun gb capb wx h1 h2 h3 => wordsC_any s hs gb capb wx h1 h2 h3
  generalize E.enc s.data.toList b = eb at *
  generalize E.rks s.data.toList 11 = K at *
  have hu1 : Try.prog.underlying 23 = some (.array 16 5) := Try.underlying23
  have hib := info16' HB.out
  have hie := info16 HEL.out
  have hze : (W.cellsOf (List.replicate 16 0)).toArray.size = (W.cellsOf eb).toArray.size := by rw [List.size_toArray, List.size_toArray, c8_len, c8_len, HEL.out]; rfl
  clear hs hb hk
  go_enter Try.func17, Try.ntmps17
  go_wp2_with fail
  refine (refBoxC_any _).mono ?_
  rintro e w1 ⟨gb, cap, rfl, hg1, hg2, hcap, hbx, b1⟩
  have rB : Row w1 w.heap.size 23 (W.cellsOf b) := Row.below (Row.alloc (Row.new' rfl rfl) _) b1 (by simp; omega)
  have rR : Row w1 (w.heap.size + 1) 23 (W.cellsOf (List.replicate 16 0)) := Row.below (Row.new' rfl (by simp)) b1 (by simp)
  have hw1 : Below w.heap.size w w1 := (((Below.refl _ _).alloc (Nat.le_refl _) _).alloc (by simp) _).trans (b1.mono (by simp; omega))
  clear b1
  have lb : Hid (∀ wx, Row wx w.heap.size 23 (W.cellsOf b) → wx.rangeAt w.heap.size 0 (W.cellsOf b)) := fun wx h => by have := h.rangeOf 0 16; rwa [List.drop_zero, List.take_of_length_le (by rw [c8_len, HB.out]; decide)] at this
  have HBX := Lib.hid hbx
  clear hbx
  go_wp2_with fail
  refine wp_region_held_drew (S := fun w' => w'.rangeAt w.heap.size 0 (W.cellsOf b)) (by kernel_rfl) (lb.out _ rB.drew) (fun hHeld => ?_)
  refine take_d 0 (some 7) (.slice (some ⟨gb, 0, none⟩) 256 cap) rfl (by kernel_rfl) (by kernel_rfl) (by kernel_rfl) (fun _ _ _ h => h) (fun oi h => by cases h; exact Or.inl ⟨by rfl, fun w' hS' => by go_simp⟩) hHeld ?_
  try simp only [Act.put, List.setIfInBounds_toArray, List.set_cons_zero, List.set_cons_succ]
  refine take_d 1 (some 8) (.string s) rfl (by kernel_rfl) (by kernel_rfl) (by kernel_rfl) (fun _ _ _ h => h) (fun oi h => by cases h; exact Or.inl ⟨by rfl, fun w' hS' => by go_simp⟩) hHeld ?_
  try simp only [Act.put, List.setIfInBounds_toArray, List.set_cons_zero, List.set_cons_succ]
  refine take_d 2 (some 9) (.slice (some ⟨gb, 0, none⟩) 256 cap) rfl (by kernel_rfl) (by kernel_rfl) (by kernel_rfl) (fun _ _ _ h => h) (fun oi h => by cases h; exact Or.inl ⟨by rfl, fun w' hS' => by go_simp⟩) hHeld ?_
  try simp only [Act.put, List.setIfInBounds_toArray, List.set_cons_zero, List.set_cons_succ]
  refine take_d 4 (some 11) (.agg (W.cellsOf b).toArray) rfl (by kernel_rfl) (by kernel_rfl) (by kernel_rfl) (fun _ _ _ h => h) (fun oi h => by cases h; exact yieldsIf_load_mid (by rfl) 23 (.tmp 3) rfl w.heap.size 0 rfl (W.cellsOf b) _ (fun w' hS' => hS') hu1 rfl hib) hHeld ?_
  try simp only [Act.put, List.setIfInBounds_toArray, List.set_cons_zero, List.set_cons_succ]
  refine one_d 3 (some 10) rfl (by kernel_rfl) ?_
  intro o ho hd K' hK
  cases ho
  go_simp
  refine (CW.out gb cap _ (by exact hg2) hcap (fun x => by exact HBX.out x)).mono ?_
  rintro e w2 ⟨gw, capw, rfl, hg3, hg4, hkw, b2⟩
  have rB2 := Row.below rB.drew b2 rB.lt
  have rR2 := Row.below rR.drew b2 rR.lt
  have hw2 := hw1.drew.trans (b2.mono hw1.size)
  have HBX2 : Hid (∀ x : UInt8, w2.cell? ⟨gb, x.toNat, none⟩ = some (.int .u8 ((E.sub x).toNat : Int))) := fun x => by rw [b2.cell (p := ⟨gb, _, none⟩) hg2]; exact HBX.out x
  have hgb2 : gb < w2.heap.size := Nat.lt_of_lt_of_le hg2 b2.size
  have HKW := Lib.hid hkw
  clear b2 rB rR hw1 HBX hkw hd hHeld
  refine hK.out _ _ (lb.out _ rB2) (fun hHeld => ?_)
  clear hK K'
  try simp only [Act.put, List.setIfInBounds_toArray, List.set_cons_zero, List.set_cons_succ]
  refine one_d 5 (some 12) rfl (by kernel_rfl) ?_
  intro o ho hd K' hK
  cases ho
  go_simp
  refine (CB.out gb cap gw capw _ hgb2 hg4 HBX2.out HKW.out).mono ?_
  rintro e w3 ⟨rfl, b3⟩
  have rB3 := Row.below rB2 b3 rB2.lt
  have rR3 := Row.below rR2 b3 rR2.lt
  have hw3 := hw2.trans (b3.mono hw2.size)
  clear b3 rB2 rR2 hw2 hd hHeld
  refine hK.out _ _ (lb.out _ rB3) (fun hHeld => ?_)
  clear hK K'
  try simp only [Act.put, List.setIfInBounds_toArray, List.set_cons_zero, List.set_cons_succ]
  refine one_d 6 none rfl (by kernel_rfl) ?_
  intro o ho hd K' hK
  cases ho
  rw [if_pos (by rfl)]
  refine wp_store_row 23 (.tmp 4) (.tmp 12) rfl (w.heap.size + 1) (W.cellsOf eb).toArray rfl rfl 23 _ rR3 hie hze (c8_all _) ?_
  have rB4 := rB3.setRow_other (show w.heap.size ≠ w.heap.size + 1 by omega) (W.cellsOf eb).toArray
  have rR4 := rR3.setRow (W.cellsOf eb)
  have hw4 := below_row hw3 (show w.heap.size ≤ w.heap.size + 1 by omega) (W.cellsOf eb).toArray
  refine hK.out _ _ (lb.out _ rB4) (fun hHeld => ?_)
  clear hK K' hHeld rB3 rR3 hw3
  refine wpAnyH_done (by kernel_rfl) ?_ _
  try simp only [Act.put]
  go_wp2
  exact bodyPost_ret (results_cell_row rfl _ _ (w.heap.size + 1) _ _ _ _ rfl rR4 Try.underlying23 rfl hie) rfl ⟨rfl, hw4⟩

end Go.Proofs.Ytpkehhbjagmodaa
