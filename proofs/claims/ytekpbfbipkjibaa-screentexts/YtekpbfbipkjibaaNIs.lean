/-
  Layer 11: the document's Cells; Is: is a screen just this?
-/
import Derived.Test.YtekpbfbipkjibaaNRefC
import Derived.Test.YtekpbfbipkjibaaNNew
namespace Go.Proofs.Ytekpbfbipkjibaa
open Go.RowKit
set_option linter.unusedVariables false
set_option maxRecDepth 20000

theorem txt_strs {x : World} {B g cap n : Nat} {l : List (List UInt8)} (h : x.ownsRow B 9 1 (.slice (some ⟨g, 0, none⟩) n cap) n (txt l)) :
    ∀ j, j < (l.map fun x => (⟨x.toArray⟩ : ByteArray)).length → x.cell? ⟨g, 0 + j, none⟩ = some (.string ((l.map fun x => (⟨x.toArray⟩ : ByteArray)).getD j ByteArray.empty)) := by
  intro j hj
  have hl' : l.length = n := by have := h.1; simpa [txt] using this
  simp at hj
  rw [Nat.zero_add, h.cellAt j (by omega)]
  simp [txt, hj]

theorem eqRows (g1 g2 n c1 c2 B1 B2 : Nat) (P : List (List UInt8)) (x : World) (h0 : 1 ≤ n) (hn : n ≤ 1000) (o1 : x.ownsRow B1 9 1 (.slice (some ⟨g1, 0, none⟩) n c1) n (txt P)) (o2 : x.ownsRow B2 9 1 (.slice (some ⟨g2, 0, none⟩) n c2) n (txt P)) :
    Calls Try.prog 38 #[.slice (some ⟨g1, 0, none⟩) n c1, .slice (some ⟨g2, 0, none⟩) n c2] x fun e w' => e = .returned (.bool true) ∧ Below x.heap.size x w' := by
  have lP : P.length = n := by have := o1.1; simpa [txt] using this
  refine (Try.slices_Equal_string g1 0 n c1 g2 0 n c2 _ _ x (by simp; omega) (by simp; omega) (by omega) (by omega) (txt_strs o1) (txt_strs o2)).mono ?_
  rintro e w' ⟨rfl, q, rfl⟩
  exact ⟨by rw [decide_eq_true rfl], below_drewN (Below.refl _ _) q⟩

set_option maxHeartbeats 4000000 in
theorem refCells_any (wd ht gq cap : Nat) (x y : Int) (c : List UInt8) (w : World) (h2 : wd ≤ 80) (h4 : ht ≤ 24) (hc : c.length = wd * ht) (ho : w.ownsRow 0 9 1 (.slice (some ⟨gq, 0, none⟩) ht cap) ht (txt (N11.rows wd ht c))) :
    Calls Try.prog 39 #[.agg #[.int .i64 wd, .int .i64 ht, .int .i64 x, .int .i64 y, .slice (some ⟨gq, 0, none⟩) ht cap]] w fun e w' => e = .returned (.string ⟨c.toArray⟩) ∧ Below w.heap.size w w' := by
  have hn19 : wd * ht ≤ 80 * 24 := Nat.mul_le_mul h2 h4
  have HF : Hid ((N11.rows wd ht c).flatten = c) := N11.flat_all hc
  have ho1 := ho.alloc (.cells #[.int .i64 wd, .int .i64 ht, .int .i64 x, .int .i64 y, .slice (some ⟨gq, 0, none⟩) ht cap] 33 (0, 0))
  have b1 : Below w.heap.size w (w.alloc (.cells #[.int .i64 wd, .int .i64 ht, .int .i64 x, .int .i64 y, .slice (some ⟨gq, 0, none⟩) ht cap] 33 (0, 0))) := (Below.refl _ _).alloc (Nat.le_refl _) _
  have hlen : Hid (∀ k, (((N11.rows wd ht c).take k).flatten).length ≤ 1920) := fun k => by
    have h : (((N11.rows wd ht c).take k).flatten ++ ((N11.rows wd ht c).drop k).flatten).length = c.length := by rw [← List.flatten_append, List.take_append_drop, HF.out]
    rw [List.length_append] at h
    omega
  go_enter Try.func39, Try.ntmps39
  go_wp2
  generalize w.alloc (.cells #[.int .i64 wd, .int .i64 ht, .int .i64 x, .int .i64 y, .slice (some ⟨gq, 0, none⟩) ht cap] 33 (0, 0)) = wa at *
  go_loopw [3, 5, 9] (fun tv _ kv wr => ∃ (k : Nat) (T : ByteArray), k ≤ ht ∧ kv = .int .i64 k ∧ tv = .string T ∧ Hid (T = ⟨((N11.rows wd ht c).take k).flatten.toArray⟩) ∧ wr = wa) (fun _ _ kv _ => ht - (intOf kv).toNat)
  case atStart => exact ⟨0, ⟨#[]⟩, Nat.zero_le _, rfl, rfl, rfl, rfl⟩
  case round =>
    obtain ⟨k, T, hk, rfl, rfl, HT, rfl⟩ := hrel
    by_cases hkt : k < ht
    · have hks : (k : Int) < ht := by omega
      obtain ⟨RQ, hRQ⟩ : ∃ RQ : ByteArray, RQ = ⟨(N11.row wd c k).toArray⟩ := ⟨_, rfl⟩
      have hck : wr.cell? ⟨gq, k, none⟩ = some (.string RQ) := by
        rw [ho1.cellAt k (by omega), hRQ]
        unfold txt
        rw [List.getElem?_map, N11.rows_at hkt]
        rfl
      have hT2 : T ++ RQ = ⟨((N11.rows wd ht c).take (k + 1)).flatten.toArray⟩ := by
        have : (N11.rows wd ht c)[k]? = some (N11.row wd c k) := N11.rows_at hkt
        rw [List.getElem?_eq_getElem (by rw [N11.rows_length]; exact hkt)] at this
        rw [HT.out, hRQ, List.take_succ_eq_append_getElem (by rw [N11.rows_length]; exact hkt), Option.some.inj this]
        apply ByteArray.ext
        apply Array.ext'
        simp [ByteArray.data_append]
      have HT2 := Lib.hid hT2
      have hsz : T.size + RQ.size ≤ 9223372036854775807 := by
        have h1 : (T ++ RQ).size ≤ 1920 := by rw [hT2]; show ((N11.rows wd ht c).take (k + 1)).flatten.toArray.size ≤ 1920; simpa using hlen.out (k + 1)
        rw [ByteArray.size_append] at h1
        omega
      clear hRQ hT2
      go_wp2
      go_roundw
      case rel => exact ⟨k + 1, T ++ RQ, by omega, by go_num, rfl, HT2, by first | rfl | trivial⟩
      case measure => simp [intOf]; omega
    · obtain rfl : ht = k := by omega
      have HR : Hid (T = ⟨c.toArray⟩) := by
        show _ = _
        rw [HT.out, List.take_of_length_le (by rw [N11.rows_length]; exact Nat.le_refl _), HF.out]
      go_wp2
      go_ret
      exact ⟨by rw [HR.out] <;> rfl, b1⟩

set_option maxHeartbeats 8000000 in
theorem is_any (wd ht x y gq cap : Nat) (c : List UInt8) (w : World) (h2 : wd ≤ 80) (h3 : 1 ≤ ht) (h4 : ht ≤ 24) (hc : c.length = wd * ht) (ho : w.ownsRow 0 9 1 (.slice (some ⟨gq, 0, none⟩) ht cap) ht (txt (N11.rows wd ht c))) :
    Calls Try.prog 15 #[.agg #[.int .i64 wd, .int .i64 ht, .int .i64 x, .int .i64 y, .string ⟨c.toArray⟩], .agg #[.int .i64 wd, .int .i64 ht, .int .i64 x, .int .i64 y, .slice (some ⟨gq, 0, none⟩) ht cap]] w fun e w' => e = .returned (.bool true) ∧ Below w.heap.size w w' := by
  have hn19 : wd * ht ≤ 80 * 24 := Nat.mul_le_mul h2 h4
  obtain ⟨C1, hC1⟩ : ∃ C1 : ByteArray, C1 = ⟨c.toArray⟩ := ⟨_, rfl⟩
  have hC1s : C1.size ≤ 1920 := by rw [hC1]; show c.toArray.size ≤ 1920; simp; omega
  rw [← hC1]
  have CS : Hid (∀ wx, Calls Try.prog 37 #[.agg #[.int .i64 wd, .int .i64 ht, .int .i64 x, .int .i64 y, .string C1]] wx fun e w' => e = .returned (.tuple #[.int .i64 wd, .int .i64 ht]) ∧ Below wx.heap.size wx w') := fun wx => size_any _ _ _ _ _ wx
  have CU : Hid (∀ wx, Calls Try.prog 20 #[.agg #[.int .i64 wd, .int .i64 ht, .int .i64 x, .int .i64 y, .string C1]] wx fun e w' => e = .returned (.tuple #[.int .i64 x, .int .i64 y]) ∧ Below wx.heap.size wx w') := fun wx => cursor_any _ _ _ _ _ wx
  have C4 : Hid (∀ wx, Calls Try.prog 21 #[.agg #[.int .i64 wd, .int .i64 ht, .int .i64 x, .int .i64 y, .string C1]] wx fun e w' => e = .returned (.string C1) ∧ Below wx.heap.size wx w') := fun wx => cells_any _ _ _ _ _ (by omega) wx
  have CR : Hid (∀ wx, Calls Try.prog 22 #[.agg #[.int .i64 wd, .int .i64 ht, .int .i64 x, .int .i64 y, .string C1]] wx fun e w' => e = .returned (.slice (some ⟨wx.heap.size + 1, 0, none⟩) ht ht) ∧ w'.ownsRow wx.heap.size 9 1 (.slice (some ⟨wx.heap.size + 1, 0, none⟩) ht ht) ht (txt (N11.rows wd ht c)) ∧ Below wx.heap.size wx w') := fun wx => by
    rw [hC1]; exact rows_any wd ht x y c h2 h4 hc wx
  have CQ : Hid (∀ wx, wx.ownsRow 0 9 1 (.slice (some ⟨gq, 0, none⟩) ht cap) ht (txt (N11.rows wd ht c)) → Calls Try.prog 39 #[.agg #[.int .i64 wd, .int .i64 ht, .int .i64 x, .int .i64 y, .slice (some ⟨gq, 0, none⟩) ht cap]] wx fun e w' => e = .returned (.string C1) ∧ Below wx.heap.size wx w') := fun wx hx => by
    rw [hC1]; exact refCells_any wd ht gq cap x y c wx h2 h4 hc hx
  have r1 : Row ((w.alloc (.cells #[.int .i64 wd, .int .i64 ht, .int .i64 x, .int .i64 y, .string C1] 25 (0, 0))).alloc (.cells #[.int .i64 wd, .int .i64 ht, .int .i64 x, .int .i64 y, .slice (some ⟨gq, 0, none⟩) ht cap] 33 (0, 0))) w.heap.size 25 [.int .i64 wd, .int .i64 ht, .int .i64 x, .int .i64 y, .string C1] := (Row.new' rfl rfl).alloc _
  have q1 : Row ((w.alloc (.cells #[.int .i64 wd, .int .i64 ht, .int .i64 x, .int .i64 y, .string C1] 25 (0, 0))).alloc (.cells #[.int .i64 wd, .int .i64 ht, .int .i64 x, .int .i64 y, .slice (some ⟨gq, 0, none⟩) ht cap] 33 (0, 0))) (w.heap.size + 1) 33 [.int .i64 wd, .int .i64 ht, .int .i64 x, .int .i64 y, .slice (some ⟨gq, 0, none⟩) ht cap] := Row.new' rfl (by simp)
  have b1 : Below w.heap.size w ((w.alloc (.cells #[.int .i64 wd, .int .i64 ht, .int .i64 x, .int .i64 y, .string C1] 25 (0, 0))).alloc (.cells #[.int .i64 wd, .int .i64 ht, .int .i64 x, .int .i64 y, .slice (some ⟨gq, 0, none⟩) ht cap] 33 (0, 0))) := ((Below.refl _ _).alloc (Nat.le_refl _) _).alloc (by simp) _
  have ho1 := (ho.alloc (.cells #[.int .i64 wd, .int .i64 ht, .int .i64 x, .int .i64 y, .string C1] 25 (0, 0))).alloc (.cells #[.int .i64 wd, .int .i64 ht, .int .i64 x, .int .i64 y, .slice (some ⟨gq, 0, none⟩) ht cap] 33 (0, 0))
  clear hC1 ho hc
  go_enter Try.func15, Try.ntmps15
  go_wp2_with fail
  generalize (w.alloc (.cells #[.int .i64 wd, .int .i64 ht, .int .i64 x, .int .i64 y, .string C1] 25 (0, 0))).alloc (.cells #[.int .i64 wd, .int .i64 ht, .int .i64 x, .int .i64 y, .slice (some ⟨gq, 0, none⟩) ht cap] 33 (0, 0)) = w1 at *
  refine (CS.out _).mono ?_
  rintro e w2 ⟨rfl, b2⟩
  have r2 := r1.below b2 r1.lt
  have q2 := q1.below b2 q1.lt
  have ho2 := ownN ho1 b2
  have bb2 := b1.trans (b2.mono b1.size)
  clear r1 q1 ho1 b1 b2
  go_wp2_with (first | refine wpList_load_row rfl 25 (.tmp 2) rfl w.heap.size rfl _ _ _ _ r2 Try.underlying25 rfl infoScr ?_)
  refine (CU.out _).mono ?_
  rintro e w3 ⟨rfl, b3⟩
  have rg := r2.below b3 r2.lt
  have rq := q2.below b3 q2.lt
  have hoq := ownN ho2 b3
  have bba := bb2.trans (b3.mono bb2.size)
  clear r2 q2 ho2 bb2 b3
  go_wp2
  refine wp_region_held_drew (S := fun w' => Row w' w.heap.size 25 [.int .i64 wd, .int .i64 ht, .int .i64 x, .int .i64 y, .string C1] ∧ Row w' (w.heap.size + 1) 33 [.int .i64 wd, .int .i64 ht, .int .i64 x, .int .i64 y, .slice (some ⟨gq, 0, none⟩) ht cap] ∧ w'.ownsRow 0 9 1 (.slice (some ⟨gq, 0, none⟩) ht cap) ht (txt (N11.rows wd ht c)) ∧ Below w.heap.size w w') (by kernel_rfl) (⟨rg.drew, rq.drew, hoq.drew, bba.drew⟩) (fun hHeld => ?_)
  refine take_d 0 (some 19) (.int .i64 wd) rfl (by kernel_rfl) (by kernel_rfl) (by kernel_rfl) (fun _ _ _ h => h) (fun oi h => by cases h; exact Or.inl ⟨by rfl, fun w' hS' => by go_simp⟩) hHeld ?_
  try simp only [Act.put, List.setIfInBounds_toArray, List.set_cons_zero, List.set_cons_succ]
  refine take_d 1 (some 20) (.pointer (some ⟨(w.heap.size + 1), 0, none⟩)) rfl (by kernel_rfl) (by kernel_rfl) (by kernel_rfl) (fun _ _ _ h => h) (fun oi h => by cases h; exact Or.inl ⟨by rfl, fun w' hS' => by go_simp⟩) hHeld ?_
  try simp only [Act.put, List.setIfInBounds_toArray, List.set_cons_zero, List.set_cons_succ]
  refine take_d 2 (some 21) (.int .i64 wd) rfl (by kernel_rfl) (by kernel_rfl) (by kernel_rfl) (fun _ _ _ h => h) (fun oi h => by cases h; exact Or.inl ⟨by rfl, fun w' hS' => by have c : w'.cell? ⟨(w.heap.size + 1), 0, none⟩ = some (.int .i64 wd) := hS'.2.1.cell 0; go_simp⟩) hHeld ?_
  try simp only [Act.put, List.setIfInBounds_toArray, List.set_cons_zero, List.set_cons_succ]
  refine take_d 3 (some 22) (.bool true) rfl (by kernel_rfl) (by kernel_rfl) (by kernel_rfl) (fun _ _ _ h => h) (fun oi h => by cases h; exact Or.inl ⟨by rfl, fun w' hS' => by go_simp⟩) hHeld ?_
  try simp only [Act.put, List.setIfInBounds_toArray, List.set_cons_zero, List.set_cons_succ]
  refine take_d 4 (some 23) (.bool true) rfl (by kernel_rfl) (by kernel_rfl) (by kernel_rfl) (fun _ _ _ h => h) (fun oi h => by cases h; exact Or.inl ⟨by rfl, fun w' hS' => by go_simp⟩) hHeld ?_
  try simp only [Act.put, List.setIfInBounds_toArray, List.set_cons_zero, List.set_cons_succ]
  refine take_d 5 (some 24) (.int .i64 ht) rfl (by kernel_rfl) (by kernel_rfl) (by kernel_rfl) (fun _ _ _ h => h) (fun oi h => by cases h; exact Or.inl ⟨by rfl, fun w' hS' => by go_simp⟩) hHeld ?_
  try simp only [Act.put, List.setIfInBounds_toArray, List.set_cons_zero, List.set_cons_succ]
  refine take_d 6 (some 25) (.pointer (some ⟨(w.heap.size + 1), 1, none⟩)) rfl (by kernel_rfl) (by kernel_rfl) (by kernel_rfl) (fun _ _ _ h => h) (fun oi h => by cases h; exact Or.inl ⟨by rfl, fun w' hS' => by go_simp⟩) hHeld ?_
  try simp only [Act.put, List.setIfInBounds_toArray, List.set_cons_zero, List.set_cons_succ]
  refine take_d 7 (some 26) (.int .i64 ht) rfl (by kernel_rfl) (by kernel_rfl) (by kernel_rfl) (fun _ _ _ h => h) (fun oi h => by cases h; exact Or.inl ⟨by rfl, fun w' hS' => by have c : w'.cell? ⟨(w.heap.size + 1), 1, none⟩ = some (.int .i64 ht) := hS'.2.1.cell 1; go_simp⟩) hHeld ?_
  try simp only [Act.put, List.setIfInBounds_toArray, List.set_cons_zero, List.set_cons_succ]
  refine take_d 8 (some 27) (.bool true) rfl (by kernel_rfl) (by kernel_rfl) (by kernel_rfl) (fun _ _ _ h => h) (fun oi h => by cases h; exact Or.inl ⟨by rfl, fun w' hS' => by go_simp⟩) hHeld ?_
  try simp only [Act.put, List.setIfInBounds_toArray, List.set_cons_zero, List.set_cons_succ]
  refine take_d 9 (some 28) (.bool true) rfl (by kernel_rfl) (by kernel_rfl) (by kernel_rfl) (fun _ _ _ h => h) (fun oi h => by cases h; exact Or.inl ⟨by rfl, fun w' hS' => by go_simp⟩) hHeld ?_
  try simp only [Act.put, List.setIfInBounds_toArray, List.set_cons_zero, List.set_cons_succ]
  refine take_d 10 (some 29) (.bool true) rfl (by kernel_rfl) (by kernel_rfl) (by kernel_rfl) (fun _ _ _ h => h) (fun oi h => by cases h; exact Or.inl ⟨by rfl, fun w' hS' => by go_simp⟩) hHeld ?_
  try simp only [Act.put, List.setIfInBounds_toArray, List.set_cons_zero, List.set_cons_succ]
  refine take_d 11 (some 30) (.int .i64 x) rfl (by kernel_rfl) (by kernel_rfl) (by kernel_rfl) (fun _ _ _ h => h) (fun oi h => by cases h; exact Or.inl ⟨by rfl, fun w' hS' => by go_simp⟩) hHeld ?_
  try simp only [Act.put, List.setIfInBounds_toArray, List.set_cons_zero, List.set_cons_succ]
  refine take_d 12 (some 31) (.pointer (some ⟨(w.heap.size + 1), 2, none⟩)) rfl (by kernel_rfl) (by kernel_rfl) (by kernel_rfl) (fun _ _ _ h => h) (fun oi h => by cases h; exact Or.inl ⟨by rfl, fun w' hS' => by go_simp⟩) hHeld ?_
  try simp only [Act.put, List.setIfInBounds_toArray, List.set_cons_zero, List.set_cons_succ]
  refine take_d 13 (some 32) (.int .i64 x) rfl (by kernel_rfl) (by kernel_rfl) (by kernel_rfl) (fun _ _ _ h => h) (fun oi h => by cases h; exact Or.inl ⟨by rfl, fun w' hS' => by have c : w'.cell? ⟨(w.heap.size + 1), 2, none⟩ = some (.int .i64 x) := hS'.2.1.cell 2; go_simp⟩) hHeld ?_
  try simp only [Act.put, List.setIfInBounds_toArray, List.set_cons_zero, List.set_cons_succ]
  refine take_d 14 (some 33) (.bool true) rfl (by kernel_rfl) (by kernel_rfl) (by kernel_rfl) (fun _ _ _ h => h) (fun oi h => by cases h; exact Or.inl ⟨by rfl, fun w' hS' => by go_simp⟩) hHeld ?_
  try simp only [Act.put, List.setIfInBounds_toArray, List.set_cons_zero, List.set_cons_succ]
  refine take_d 15 (some 34) (.bool true) rfl (by kernel_rfl) (by kernel_rfl) (by kernel_rfl) (fun _ _ _ h => h) (fun oi h => by cases h; exact Or.inl ⟨by rfl, fun w' hS' => by go_simp⟩) hHeld ?_
  try simp only [Act.put, List.setIfInBounds_toArray, List.set_cons_zero, List.set_cons_succ]
  refine take_d 16 (some 35) (.bool true) rfl (by kernel_rfl) (by kernel_rfl) (by kernel_rfl) (fun _ _ _ h => h) (fun oi h => by cases h; exact Or.inl ⟨by rfl, fun w' hS' => by go_simp⟩) hHeld ?_
  try simp only [Act.put, List.setIfInBounds_toArray, List.set_cons_zero, List.set_cons_succ]
  refine take_d 17 (some 36) (.int .i64 y) rfl (by kernel_rfl) (by kernel_rfl) (by kernel_rfl) (fun _ _ _ h => h) (fun oi h => by cases h; exact Or.inl ⟨by rfl, fun w' hS' => by go_simp⟩) hHeld ?_
  try simp only [Act.put, List.setIfInBounds_toArray, List.set_cons_zero, List.set_cons_succ]
  refine take_d 18 (some 37) (.pointer (some ⟨(w.heap.size + 1), 3, none⟩)) rfl (by kernel_rfl) (by kernel_rfl) (by kernel_rfl) (fun _ _ _ h => h) (fun oi h => by cases h; exact Or.inl ⟨by rfl, fun w' hS' => by go_simp⟩) hHeld ?_
  try simp only [Act.put, List.setIfInBounds_toArray, List.set_cons_zero, List.set_cons_succ]
  refine take_d 19 (some 38) (.int .i64 y) rfl (by kernel_rfl) (by kernel_rfl) (by kernel_rfl) (fun _ _ _ h => h) (fun oi h => by cases h; exact Or.inl ⟨by rfl, fun w' hS' => by have c : w'.cell? ⟨(w.heap.size + 1), 3, none⟩ = some (.int .i64 y) := hS'.2.1.cell 3; go_simp⟩) hHeld ?_
  try simp only [Act.put, List.setIfInBounds_toArray, List.set_cons_zero, List.set_cons_succ]
  refine take_d 20 (some 39) (.bool true) rfl (by kernel_rfl) (by kernel_rfl) (by kernel_rfl) (fun _ _ _ h => h) (fun oi h => by cases h; exact Or.inl ⟨by rfl, fun w' hS' => by go_simp⟩) hHeld ?_
  try simp only [Act.put, List.setIfInBounds_toArray, List.set_cons_zero, List.set_cons_succ]
  refine take_d 21 (some 40) (.bool true) rfl (by kernel_rfl) (by kernel_rfl) (by kernel_rfl) (fun _ _ _ h => h) (fun oi h => by cases h; exact Or.inl ⟨by rfl, fun w' hS' => by go_simp⟩) hHeld ?_
  try simp only [Act.put, List.setIfInBounds_toArray, List.set_cons_zero, List.set_cons_succ]
  refine take_d 22 (some 41) (.bool true) rfl (by kernel_rfl) (by kernel_rfl) (by kernel_rfl) (fun _ _ _ h => h) (fun oi h => by cases h; exact Or.inl ⟨by rfl, fun w' hS' => by go_simp⟩) hHeld ?_
  try simp only [Act.put, List.setIfInBounds_toArray, List.set_cons_zero, List.set_cons_succ]
  refine take_d 23 (some 42) (.agg #[.int .i64 wd, .int .i64 ht, .int .i64 x, .int .i64 y, .string C1]) rfl (by kernel_rfl) (by kernel_rfl) (by kernel_rfl) (fun _ _ _ h => h) (fun oi h => by cases h; exact yieldsIf_load_mid (by rfl) 25 (.tmp 2) rfl w.heap.size 0 rfl [.int .i64 wd, .int .i64 ht, .int .i64 x, .int .i64 y, .string C1] _ (fun w' hS' => hS'.1.range) Try.underlying25 rfl infoScr) hHeld ?_
  try simp only [Act.put, List.setIfInBounds_toArray, List.set_cons_zero, List.set_cons_succ]
  refine take_d 25 (some 44) (.pointer (some ⟨(w.heap.size + 1), 4, none⟩)) rfl (by kernel_rfl) (by kernel_rfl) (by kernel_rfl) (fun _ _ _ h => h) (fun oi h => by cases h; exact Or.inl ⟨by rfl, fun w' hS' => by go_simp⟩) hHeld ?_
  try simp only [Act.put, List.setIfInBounds_toArray, List.set_cons_zero, List.set_cons_succ]
  refine take_d 26 (some 45) (.slice (some ⟨gq, 0, none⟩) ht cap) rfl (by kernel_rfl) (by kernel_rfl) (by kernel_rfl) (fun _ _ _ h => h) (fun oi h => by cases h; exact Or.inl ⟨by rfl, fun w' hS' => by have c : w'.cell? ⟨(w.heap.size + 1), 4, none⟩ = some (.slice (some ⟨gq, 0, none⟩) ht cap) := hS'.2.1.cell 4; go_simp⟩) hHeld ?_
  try simp only [Act.put, List.setIfInBounds_toArray, List.set_cons_zero, List.set_cons_succ]
  refine one_d 24 (some 43) rfl (by kernel_rfl) ?_
  intro o ho hd K hK
  cases ho
  go_simp
  refine (CR.out _).mono ?_
  rintro e v1 ⟨rfl, hoR, bb⟩
  have hHeld' := hHeld
  clear hHeld
  have hHeld := hHeld'
  clear hHeld'
  refine hK.out _ _ (⟨hHeld.1.below bb hHeld.1.lt, hHeld.2.1.below bb hHeld.2.1.lt, ownN hHeld.2.2.1 bb, hHeld.2.2.2.trans (bb.mono hHeld.2.2.2.size)⟩) (fun hHeld => ?_)
  clear hK K hd bb
  try simp only [Act.put, List.setIfInBounds_toArray, List.set_cons_zero, List.set_cons_succ]
  refine one_d 27 (some 46) rfl (by kernel_rfl) ?_
  intro o ho hd K hK
  cases ho
  go_simp
  refine (eqRows _ _ _ _ _ _ _ _ _ h3 (by omega) hoR hHeld.2.2.1).mono ?_
  rintro e v2 ⟨rfl, bb⟩
  have hHeld' := hHeld
  clear hHeld
  have hHeld := hHeld'
  clear hHeld'
  refine hK.out _ _ (⟨hHeld.1.below bb hHeld.1.lt, hHeld.2.1.below bb hHeld.2.1.lt, ownN hHeld.2.2.1 bb, hHeld.2.2.2.trans (bb.mono hHeld.2.2.2.size)⟩) (fun hHeld => ?_)
  clear hK K hd bb
  try simp only [Act.put, List.setIfInBounds_toArray, List.set_cons_zero, List.set_cons_succ]
  refine take_d 28 (some 47) (.bool true) rfl (by kernel_rfl) (by kernel_rfl) (by kernel_rfl) (fun _ _ _ h => h) (fun oi h => by cases h; exact Or.inl ⟨by rfl, fun w' hS' => by go_simp⟩) hHeld ?_
  try simp only [Act.put, List.setIfInBounds_toArray, List.set_cons_zero, List.set_cons_succ]
  refine take_d 29 (some 48) (.bool true) rfl (by kernel_rfl) (by kernel_rfl) (by kernel_rfl) (fun _ _ _ h => h) (fun oi h => by cases h; exact Or.inl ⟨by rfl, fun w' hS' => by go_simp⟩) hHeld ?_
  try simp only [Act.put, List.setIfInBounds_toArray, List.set_cons_zero, List.set_cons_succ]
  refine take_d 30 (some 49) (.agg #[.int .i64 wd, .int .i64 ht, .int .i64 x, .int .i64 y, .string C1]) rfl (by kernel_rfl) (by kernel_rfl) (by kernel_rfl) (fun _ _ _ h => h) (fun oi h => by cases h; exact yieldsIf_load_mid (by rfl) 25 (.tmp 2) rfl w.heap.size 0 rfl [.int .i64 wd, .int .i64 ht, .int .i64 x, .int .i64 y, .string C1] _ (fun w' hS' => hS'.1.range) Try.underlying25 rfl infoScr) hHeld ?_
  try simp only [Act.put, List.setIfInBounds_toArray, List.set_cons_zero, List.set_cons_succ]
  refine take_d 32 (some 51) (.agg #[.int .i64 wd, .int .i64 ht, .int .i64 x, .int .i64 y, .slice (some ⟨gq, 0, none⟩) ht cap]) rfl (by kernel_rfl) (by kernel_rfl) (by kernel_rfl) (fun _ _ _ h => h) (fun oi h => by cases h; exact yieldsIf_load_mid (by rfl) 33 (.tmp 3) rfl (w.heap.size + 1) 0 rfl [.int .i64 wd, .int .i64 ht, .int .i64 x, .int .i64 y, .slice (some ⟨gq, 0, none⟩) ht cap] _ (fun w' hS' => hS'.2.1.range) Try.underlying33 rfl infoRS) hHeld ?_
  try simp only [Act.put, List.setIfInBounds_toArray, List.set_cons_zero, List.set_cons_succ]
  refine one_d 31 (some 50) rfl (by kernel_rfl) ?_
  intro o ho hd K hK
  cases ho
  go_simp
  refine (C4.out _).mono ?_
  rintro e v3 ⟨rfl, bb⟩
  have hHeld' := hHeld
  clear hHeld
  have hHeld := hHeld'
  clear hHeld'
  refine hK.out _ _ (⟨hHeld.1.below bb hHeld.1.lt, hHeld.2.1.below bb hHeld.2.1.lt, ownN hHeld.2.2.1 bb, hHeld.2.2.2.trans (bb.mono hHeld.2.2.2.size)⟩) (fun hHeld => ?_)
  clear hK K hd bb
  try simp only [Act.put, List.setIfInBounds_toArray, List.set_cons_zero, List.set_cons_succ]
  refine one_d 33 (some 52) rfl (by kernel_rfl) ?_
  intro o ho hd K hK
  cases ho
  go_simp
  refine (CQ.out _ (by exact hHeld.2.2.1)).mono ?_
  rintro e v4 ⟨rfl, bb⟩
  have hHeld' := hHeld
  clear hHeld
  have hHeld := hHeld'
  clear hHeld'
  refine hK.out _ _ (⟨hHeld.1.below bb hHeld.1.lt, hHeld.2.1.below bb hHeld.2.1.lt, ownN hHeld.2.2.1 bb, hHeld.2.2.2.trans (bb.mono hHeld.2.2.2.size)⟩) (fun hHeld => ?_)
  clear hK K hd bb
  try simp only [Act.put, List.setIfInBounds_toArray, List.set_cons_zero, List.set_cons_succ]
  refine take_d 34 (some 53) (.bool true) rfl (by kernel_rfl) (by kernel_rfl) (by kernel_rfl) (fun _ _ _ h => h) (fun oi h => by cases h; exact Or.inl ⟨by rfl, fun w' hS' => by go_simp⟩) hHeld ?_
  try simp only [Act.put, List.setIfInBounds_toArray, List.set_cons_zero, List.set_cons_succ]
  refine take_d 35 (some 54) (.bool true) rfl (by kernel_rfl) (by kernel_rfl) (by kernel_rfl) (fun _ _ _ h => h) (fun oi h => by cases h; exact Or.inl ⟨by rfl, fun w' hS' => by go_simp⟩) hHeld ?_
  try simp only [Act.put, List.setIfInBounds_toArray, List.set_cons_zero, List.set_cons_succ]
  refine take_d 36 (some 4) (.bool true) rfl (by kernel_rfl) (by kernel_rfl) (by kernel_rfl) (fun _ _ _ h => h) (fun oi h => by cases h; exact Or.inl ⟨by rfl, fun w' hS' => by go_simp⟩) hHeld ?_
  try simp only [Act.put, List.setIfInBounds_toArray, List.set_cons_zero, List.set_cons_succ]
  refine wpAnyH_done (by kernel_rfl) ?_ _
  try simp only [Act.put]
  have hb := hHeld.2.2.2
  go_wp2
  go_ret
  exact ⟨rfl, hb⟩

end Go.Proofs.Ytekpbfbipkjibaa
