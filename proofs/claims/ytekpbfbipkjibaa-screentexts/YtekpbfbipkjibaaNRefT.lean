/-
  The document's side of layer 11: Text.
-/
import Derived.Test.YtekpbfbipkjibaaNIs
import Derived.Test.YtekpbfbipkjibaaNText
import Derived.Test.YtekpbfbipkjibaaSTake
namespace Go.Proofs.Ytekpbfbipkjibaa
open Go.RowKit
set_option linter.unusedVariables false
set_option maxRecDepth 20000

set_option maxHeartbeats 8000000 in
theorem refText_any (wd ht x y gq cap : Nat) (c : List UInt8) (w : World) (h2 : wd ≤ 80) (h4 : ht ≤ 24) (h5 : x < 256) (h6 : y < 256) (hc : c.length = wd * ht) (ho : w.ownsRow 0 9 1 (.slice (some ⟨gq, 0, none⟩) ht cap) ht (txt (N11.rows wd ht c))) :
    Calls Try.prog 18 #[.agg #[.int .i64 wd, .int .i64 ht, .int .i64 x, .int .i64 y, .slice (some ⟨gq, 0, none⟩) ht cap]] w fun e w' => e = .returned (.string ⟨(hd4 wd ht x y ++ c).toArray⟩) ∧ Below w.heap.size w w' := by
  have hn19 : wd * ht ≤ 80 * 24 := Nat.mul_le_mul h2 h4
  obtain ⟨C1, hC1⟩ : ∃ C1 : ByteArray, C1 = ⟨c.toArray⟩ := ⟨_, rfl⟩
  obtain ⟨HD, hHD⟩ : ∃ HD : ByteArray, HD = ⟨(hd4 wd ht x y).toArray⟩ := ⟨_, rfl⟩
  have hx : (⟨(hd4 wd ht x y ++ c).toArray⟩ : ByteArray) = HD ++ C1 := by
    rw [hHD, hC1]
    apply ByteArray.ext
    apply Array.ext'
    simp [ByteArray.data_append]
  have hs1 : C1.size ≤ 1920 := by rw [hC1]; show c.toArray.size ≤ 1920; simp; omega
  have hs2 : HD.size = 4 := by rw [hHD]; rfl
  have p1 : HD.size + C1.size ≤ 9223372036854775807 := by omega
  have p2 : C1.size ≤ 9223372036854775807 := by omega
  have CC : Hid (∀ wx, wx.ownsRow 0 9 1 (.slice (some ⟨gq, 0, none⟩) ht cap) ht (txt (N11.rows wd ht c)) → Calls Try.prog 39 #[.agg #[.int .i64 wd, .int .i64 ht, .int .i64 x, .int .i64 y, .slice (some ⟨gq, 0, none⟩) ht cap]] wx fun e w' => e = .returned (.string C1) ∧ Below wx.heap.size wx w') := fun wx hx => by
    rw [hC1]; exact refCells_any wd ht gq cap x y c wx h2 h4 hc hx
  have HCV : Hid (∀ (wx : World) (g : Nat), Row wx g 5 [.int .u8 wd, .int .u8 ht, .int .u8 x, .int .u8 y] → (convert 46 9 (.slice (some ⟨g, 0, none⟩) 4 4)).run Try.prog wx = .ok (.string HD) wx) := fun wx g hr => by
    rw [hHD]
    have hr' := hr
    rw [← hd4_cells (show wd < 256 by omega) (show ht < 256 by omega) h5 h6] at hr'
    exact run_convert_bytes_back (P := Try.prog) wx 46 9 5 ⟨g, 0, none⟩ 4 (hd4 wd ht x y) Try.underlying46 Try.underlying5 Try.underlying9 (fun t ht => by
      have e : (⟨g, 0, none⟩ : Addr).add t = ⟨g, t, none⟩ := by unfold Addr.add; split <;> simp_all
      rw [e, hr'.cell, c8_at ht]; simp [List.getD_eq_getElem?_getD, ht])
  rw [hx]
  have w1' := u8wrap (show wd < 256 by omega)
  have w2' := u8wrap (show ht < 256 by omega)
  have w3' := u8wrap h5
  have w4' := u8wrap h6
  have r1 : Row (w.alloc (.cells #[.int .i64 wd, .int .i64 ht, .int .i64 x, .int .i64 y, .slice (some ⟨gq, 0, none⟩) ht cap] 33 (0, 0))) w.heap.size 33 [.int .i64 wd, .int .i64 ht, .int .i64 x, .int .i64 y, .slice (some ⟨gq, 0, none⟩) ht cap] := Row.new' rfl rfl
  have b1 : Below w.heap.size w (w.alloc (.cells #[.int .i64 wd, .int .i64 ht, .int .i64 x, .int .i64 y, .slice (some ⟨gq, 0, none⟩) ht cap] 33 (0, 0))) := (Below.refl _ _).alloc (Nat.le_refl _) _
  have ho1 := ho.alloc (.cells #[.int .i64 wd, .int .i64 ht, .int .i64 x, .int .i64 y, .slice (some ⟨gq, 0, none⟩) ht cap] 33 (0, 0))
  clear hC1 hHD hx hs2 hc ho
  go_enter Try.func18, Try.ntmps18
  go_wp2
  generalize w.alloc (.cells #[.int .i64 wd, .int .i64 ht, .int .i64 x, .int .i64 y, .slice (some ⟨gq, 0, none⟩) ht cap] 33 (0, 0)) = w1 at *
  refine wp_region_held_drew (S := fun w' => Row w' w.heap.size 33 [.int .i64 wd, .int .i64 ht, .int .i64 x, .int .i64 y, .slice (some ⟨gq, 0, none⟩) ht cap] ∧ w'.ownsRow 0 9 1 (.slice (some ⟨gq, 0, none⟩) ht cap) ht (txt (N11.rows wd ht c)) ∧ Below w.heap.size w w') (by kernel_rfl) (⟨r1.drew, World.ownsRow.drew ho1, b1.drew⟩) (fun hHeld => ?_)
  refine take_d 0 (some 3) (.pointer (some ⟨w.heap.size, 0, none⟩)) rfl (by kernel_rfl) (by kernel_rfl) (by kernel_rfl) (fun _ _ _ h => h) (fun oi h => by cases h; exact Or.inl ⟨by rfl, fun w' hS' => by go_simp⟩) hHeld ?_
  try simp only [Act.put, List.setIfInBounds_toArray, List.set_cons_zero, List.set_cons_succ]
  refine take_d 1 (some 4) (.int .i64 wd) rfl (by kernel_rfl) (by kernel_rfl) (by kernel_rfl) (fun _ _ _ h => h) (fun oi h => by cases h; exact Or.inl ⟨by rfl, fun w' hS' => by have c : w'.cell? ⟨w.heap.size, 0, none⟩ = some (.int .i64 wd) := hS'.1.cell 0; go_simp⟩) hHeld ?_
  try simp only [Act.put, List.setIfInBounds_toArray, List.set_cons_zero, List.set_cons_succ]
  refine take_d 2 (some 5) (.int .u8 (wd : Int)) rfl (by kernel_rfl) (by kernel_rfl) (by kernel_rfl) (fun _ _ _ h => h) (fun oi h => by cases h; exact Or.inl ⟨by rfl, fun w' hS' => by go_simp⟩) hHeld ?_
  try simp only [Act.put, List.setIfInBounds_toArray, List.set_cons_zero, List.set_cons_succ]
  refine take_d 3 (some 6) (.pointer (some ⟨w.heap.size, 1, none⟩)) rfl (by kernel_rfl) (by kernel_rfl) (by kernel_rfl) (fun _ _ _ h => h) (fun oi h => by cases h; exact Or.inl ⟨by rfl, fun w' hS' => by go_simp⟩) hHeld ?_
  try simp only [Act.put, List.setIfInBounds_toArray, List.set_cons_zero, List.set_cons_succ]
  refine take_d 4 (some 7) (.int .i64 ht) rfl (by kernel_rfl) (by kernel_rfl) (by kernel_rfl) (fun _ _ _ h => h) (fun oi h => by cases h; exact Or.inl ⟨by rfl, fun w' hS' => by have c : w'.cell? ⟨w.heap.size, 1, none⟩ = some (.int .i64 ht) := hS'.1.cell 1; go_simp⟩) hHeld ?_
  try simp only [Act.put, List.setIfInBounds_toArray, List.set_cons_zero, List.set_cons_succ]
  refine take_d 5 (some 8) (.int .u8 (ht : Int)) rfl (by kernel_rfl) (by kernel_rfl) (by kernel_rfl) (fun _ _ _ h => h) (fun oi h => by cases h; exact Or.inl ⟨by rfl, fun w' hS' => by go_simp⟩) hHeld ?_
  try simp only [Act.put, List.setIfInBounds_toArray, List.set_cons_zero, List.set_cons_succ]
  refine take_d 6 (some 9) (.pointer (some ⟨w.heap.size, 2, none⟩)) rfl (by kernel_rfl) (by kernel_rfl) (by kernel_rfl) (fun _ _ _ h => h) (fun oi h => by cases h; exact Or.inl ⟨by rfl, fun w' hS' => by go_simp⟩) hHeld ?_
  try simp only [Act.put, List.setIfInBounds_toArray, List.set_cons_zero, List.set_cons_succ]
  refine take_d 7 (some 10) (.int .i64 x) rfl (by kernel_rfl) (by kernel_rfl) (by kernel_rfl) (fun _ _ _ h => h) (fun oi h => by cases h; exact Or.inl ⟨by rfl, fun w' hS' => by have c : w'.cell? ⟨w.heap.size, 2, none⟩ = some (.int .i64 x) := hS'.1.cell 2; go_simp⟩) hHeld ?_
  try simp only [Act.put, List.setIfInBounds_toArray, List.set_cons_zero, List.set_cons_succ]
  refine take_d 8 (some 11) (.int .u8 (x : Int)) rfl (by kernel_rfl) (by kernel_rfl) (by kernel_rfl) (fun _ _ _ h => h) (fun oi h => by cases h; exact Or.inl ⟨by rfl, fun w' hS' => by go_simp⟩) hHeld ?_
  try simp only [Act.put, List.setIfInBounds_toArray, List.set_cons_zero, List.set_cons_succ]
  refine take_d 9 (some 12) (.pointer (some ⟨w.heap.size, 3, none⟩)) rfl (by kernel_rfl) (by kernel_rfl) (by kernel_rfl) (fun _ _ _ h => h) (fun oi h => by cases h; exact Or.inl ⟨by rfl, fun w' hS' => by go_simp⟩) hHeld ?_
  try simp only [Act.put, List.setIfInBounds_toArray, List.set_cons_zero, List.set_cons_succ]
  refine take_d 10 (some 13) (.int .i64 y) rfl (by kernel_rfl) (by kernel_rfl) (by kernel_rfl) (fun _ _ _ h => h) (fun oi h => by cases h; exact Or.inl ⟨by rfl, fun w' hS' => by have c : w'.cell? ⟨w.heap.size, 3, none⟩ = some (.int .i64 y) := hS'.1.cell 3; go_simp⟩) hHeld ?_
  try simp only [Act.put, List.setIfInBounds_toArray, List.set_cons_zero, List.set_cons_succ]
  refine take_d 11 (some 14) (.int .u8 (y : Int)) rfl (by kernel_rfl) (by kernel_rfl) (by kernel_rfl) (fun _ _ _ h => h) (fun oi h => by cases h; exact Or.inl ⟨by rfl, fun w' hS' => by go_simp⟩) hHeld ?_
  try simp only [Act.put, List.setIfInBounds_toArray, List.set_cons_zero, List.set_cons_succ]
  refine take_d 14 (some 17) (.agg #[.int .i64 wd, .int .i64 ht, .int .i64 x, .int .i64 y, .slice (some ⟨gq, 0, none⟩) ht cap]) rfl (by kernel_rfl) (by kernel_rfl) (by kernel_rfl) (fun _ _ _ h => h) (fun oi h => by cases h; exact yieldsIf_load_mid (by rfl) 33 (.tmp 1) rfl w.heap.size 0 rfl [.int .i64 wd, .int .i64 ht, .int .i64 x, .int .i64 y, .slice (some ⟨gq, 0, none⟩) ht cap] _ (fun w' hS' => hS'.1.range) Try.underlying33 rfl infoRS) hHeld ?_
  try simp only [Act.put, List.setIfInBounds_toArray, List.set_cons_zero, List.set_cons_succ]
  refine two_d 12 15 rfl rfl (by kernel_rfl) ?_ ?_
  · intro K hK
    go_simp
    refine hK.out _ _ ⟨hHeld.1.alloc _, World.ownsRow.alloc hHeld.2.1 _, hHeld.2.2.alloc hHeld.2.2.size _⟩ (fun hHeld => ?_)
    clear hK K
    try simp only [Act.put, List.setIfInBounds_toArray, List.set_cons_zero, List.set_cons_succ]
    have rb : Row (w1.alloc (.cells #[.int .u8 wd, .int .u8 ht, .int .u8 x, .int .u8 y] 5 (0, 0))).drew w1.heap.size 5 [.int .u8 wd, .int .u8 ht, .int .u8 x, .int .u8 y] := Row.new' rfl rfl
    generalize w1.heap.size = gb at *
    generalize (w1.alloc (.cells #[.int .u8 wd, .int .u8 ht, .int .u8 x, .int .u8 y] 5 (0, 0))).drew = v1 at *
    refine two_d 13 15 rfl rfl (by kernel_rfl) ?_ ?_
    · intro K hK
      have hcv := HCV.out _ _ rb
      go_simp
      refine hK.out _ _ hHeld (fun hHeld => ?_)
      clear hK K hcv
      try simp only [Act.put, List.setIfInBounds_toArray, List.set_cons_zero, List.set_cons_succ]
      refine one_d 15 (some 18) rfl (by kernel_rfl) ?_
      intro o ho1 hd
      cases ho1
      clear hd
      intro K hK
      go_simp
      refine (CC.out _ (by exact hHeld.2.1)).mono ?_
      rintro e v2 ⟨rfl, bb⟩
      have hHeld2 := (⟨hHeld.1.below bb hHeld.1.lt, ownN hHeld.2.1 bb, hHeld.2.2.trans (bb.mono hHeld.2.2.size)⟩ : _ ∧ _ ∧ _)
      refine hK.out _ _ hHeld2 (fun hHeld => ?_)
      clear hK K bb hHeld2
      try simp only [Act.put, List.setIfInBounds_toArray, List.set_cons_zero, List.set_cons_succ]
      refine take_d 16 (some 19) (.string (HD ++ C1)) rfl (by kernel_rfl) (by kernel_rfl) (by kernel_rfl) (fun _ _ _ h => h) (fun oi h => by cases h; exact Or.inl ⟨by rfl, fun w' hS' => by go_simp⟩) hHeld ?_
      try simp only [Act.put, List.setIfInBounds_toArray, List.set_cons_zero, List.set_cons_succ]
      refine take_d 17 (some 2) (.string (HD ++ C1)) rfl (by kernel_rfl) (by kernel_rfl) (by kernel_rfl) (fun _ _ _ h => h) (fun oi h => by cases h; exact Or.inl ⟨by rfl, fun w' hS' => by go_simp⟩) hHeld ?_
      try simp only [Act.put, List.setIfInBounds_toArray, List.set_cons_zero, List.set_cons_succ]
      refine wpAnyH_done (by kernel_rfl) ?_ _
      try simp only [Act.put]
      have hb := hHeld.2.2
      go_wp2
      go_ret
      exact ⟨rfl, hb⟩
    · intro K hK
      go_simp
      refine (CC.out _ (by exact hHeld.2.1)).mono ?_
      rintro e v2 ⟨rfl, bb⟩
      have hHeld2 := (⟨hHeld.1.below bb hHeld.1.lt, ownN hHeld.2.1 bb, hHeld.2.2.trans (bb.mono hHeld.2.2.size)⟩ : _ ∧ _ ∧ _)
      have rb := rb.below bb rb.lt
      refine hK.out _ _ hHeld2 (fun hHeld => ?_)
      clear hK K bb hHeld2
      try simp only [Act.put, List.setIfInBounds_toArray, List.set_cons_zero, List.set_cons_succ]
      refine one_d 13 (some 16) rfl (by kernel_rfl) ?_
      intro o ho1 hd
      cases ho1
      clear hd
      intro K hK
      have hcv := HCV.out _ _ rb
      go_simp
      refine hK.out _ _ hHeld (fun hHeld => ?_)
      clear hK K hcv
      try simp only [Act.put, List.setIfInBounds_toArray, List.set_cons_zero, List.set_cons_succ]
      refine take_d 16 (some 19) (.string (HD ++ C1)) rfl (by kernel_rfl) (by kernel_rfl) (by kernel_rfl) (fun _ _ _ h => h) (fun oi h => by cases h; exact Or.inl ⟨by rfl, fun w' hS' => by go_simp⟩) hHeld ?_
      try simp only [Act.put, List.setIfInBounds_toArray, List.set_cons_zero, List.set_cons_succ]
      refine take_d 17 (some 2) (.string (HD ++ C1)) rfl (by kernel_rfl) (by kernel_rfl) (by kernel_rfl) (fun _ _ _ h => h) (fun oi h => by cases h; exact Or.inl ⟨by rfl, fun w' hS' => by go_simp⟩) hHeld ?_
      try simp only [Act.put, List.setIfInBounds_toArray, List.set_cons_zero, List.set_cons_succ]
      refine wpAnyH_done (by kernel_rfl) ?_ _
      try simp only [Act.put]
      have hb := hHeld.2.2
      go_wp2
      go_ret
      exact ⟨rfl, hb⟩
  · intro K hK
    go_simp
    refine (CC.out _ (by exact hHeld.2.1)).mono ?_
    rintro e v1 ⟨rfl, bb⟩
    have hHeld2 := (⟨hHeld.1.below bb hHeld.1.lt, ownN hHeld.2.1 bb, hHeld.2.2.trans (bb.mono hHeld.2.2.size)⟩ : _ ∧ _ ∧ _)
    refine hK.out _ _ hHeld2 (fun hHeld => ?_)
    clear hK K bb hHeld2
    try simp only [Act.put, List.setIfInBounds_toArray, List.set_cons_zero, List.set_cons_succ]
    refine one_d 12 (some 15) rfl (by kernel_rfl) ?_
    intro o ho1 hd
    cases ho1
    clear hd
    intro K hK
    go_simp
    refine hK.out _ _ ⟨hHeld.1.alloc _, World.ownsRow.alloc hHeld.2.1 _, hHeld.2.2.alloc hHeld.2.2.size _⟩ (fun hHeld => ?_)
    clear hK K
    try simp only [Act.put, List.setIfInBounds_toArray, List.set_cons_zero, List.set_cons_succ]
    have rb : Row (v1.alloc (.cells #[.int .u8 wd, .int .u8 ht, .int .u8 x, .int .u8 y] 5 (0, 0))) v1.heap.size 5 [.int .u8 wd, .int .u8 ht, .int .u8 x, .int .u8 y] := Row.new' rfl rfl
    generalize v1.heap.size = gb at *
    generalize (v1.alloc (.cells #[.int .u8 wd, .int .u8 ht, .int .u8 x, .int .u8 y] 5 (0, 0))) = v2 at *
    refine one_d 13 (some 16) rfl (by kernel_rfl) ?_
    intro o ho1 hd
    cases ho1
    clear hd
    intro K hK
    have hcv := HCV.out _ _ rb
    go_simp
    refine hK.out _ _ hHeld (fun hHeld => ?_)
    clear hK K hcv
    try simp only [Act.put, List.setIfInBounds_toArray, List.set_cons_zero, List.set_cons_succ]
    refine take_d 16 (some 19) (.string (HD ++ C1)) rfl (by kernel_rfl) (by kernel_rfl) (by kernel_rfl) (fun _ _ _ h => h) (fun oi h => by cases h; exact Or.inl ⟨by rfl, fun w' hS' => by go_simp⟩) hHeld ?_
    try simp only [Act.put, List.setIfInBounds_toArray, List.set_cons_zero, List.set_cons_succ]
    refine take_d 17 (some 2) (.string (HD ++ C1)) rfl (by kernel_rfl) (by kernel_rfl) (by kernel_rfl) (fun _ _ _ h => h) (fun oi h => by cases h; exact Or.inl ⟨by rfl, fun w' hS' => by go_simp⟩) hHeld ?_
    try simp only [Act.put, List.setIfInBounds_toArray, List.set_cons_zero, List.set_cons_succ]
    refine wpAnyH_done (by kernel_rfl) ?_ _
    try simp only [Act.put]
    have hb := hHeld.2.2
    go_wp2
    go_ret
    exact ⟨rfl, hb⟩

end Go.Proofs.Ytekpbfbipkjibaa
