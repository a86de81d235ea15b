/-
  Layer 11: Text.
-/
import Derived.Test.YtekpbfbipkjibaaNNew
import Derived.Test.YtekpbfbipkjibaaSTake
namespace Go.Proofs.Ytekpbfbipkjibaa
open Go.RowKit
set_option linter.unusedVariables false
set_option maxRecDepth 20000

/-- A screen's head, as bytes. -/
def hd4 (wd ht x y : Nat) : List UInt8 := [UInt8.ofNat wd, UInt8.ofNat ht, UInt8.ofNat x, UInt8.ofNat y]
theorem hd4_cells {wd ht x y : Nat} (h1 : wd < 256) (h2 : ht < 256) (h3 : x < 256) (h4 : y < 256) : W.cellsOf (hd4 wd ht x y) = [.int .u8 wd, .int .u8 ht, .int .u8 x, .int .u8 y] := by
  simp [hd4, W.cellsOf]
  omega
theorem u8wrap {n : Nat} (h : n < 256) : IntKind.u8.wrap (n : Int) = (n : Int) := by rw [IntKind.wrap_u8]; omega

set_option maxHeartbeats 4000000 in
theorem text_any (wd ht x y : Nat) (c : List UInt8) (w : World) (h1 : wd < 256) (h2 : ht < 256) (h3 : x < 256) (h4 : y < 256) (hc : c.length ≤ 1920) :
    Calls Try.prog 17 #[.agg #[.int .i64 wd, .int .i64 ht, .int .i64 x, .int .i64 y, .string ⟨c.toArray⟩]] w fun e w' => e = .returned (.string ⟨(hd4 wd ht x y ++ c).toArray⟩) ∧ Below w.heap.size w w' := by
  obtain ⟨C1, hC1⟩ : ∃ C1 : ByteArray, C1 = ⟨c.toArray⟩ := ⟨_, rfl⟩
  obtain ⟨HD, hHD⟩ : ∃ HD : ByteArray, HD = ⟨(hd4 wd ht x y).toArray⟩ := ⟨_, rfl⟩
  have hx : (⟨(hd4 wd ht x y ++ c).toArray⟩ : ByteArray) = HD ++ C1 := by
    rw [hHD, hC1]
    apply ByteArray.ext
    apply Array.ext'
    simp [ByteArray.data_append]
  have hs1 : C1.size ≤ 1920 := by rw [hC1]; show c.toArray.size ≤ 1920; simpa using hc
  have hs2 : HD.size = 4 := by rw [hHD]; rfl
  have p1 : HD.size + C1.size ≤ 9223372036854775807 := by omega
  have p2 : C1.size ≤ 9223372036854775807 := by omega
  have HCV : Hid (∀ wx : World, Row wx (w.heap.size + 1) 69 [.int .u8 wd, .int .u8 ht, .int .u8 x, .int .u8 y] → (convert 46 9 (.slice (some ⟨w.heap.size + 1, 0, none⟩) 4 4)).run Try.prog wx = .ok (.string HD) wx) := fun wx hr => by
    rw [hHD]
    have hr' := hr
    rw [← hd4_cells h1 h2 h3 h4] at hr'
    exact run_convert_bytes_back (P := Try.prog) wx 46 9 5 ⟨w.heap.size + 1, 0, none⟩ 4 (hd4 wd ht x y) Try.underlying46 Try.underlying5 Try.underlying9 (fun t ht => by
      have e : (⟨w.heap.size + 1, 0, none⟩ : Addr).add t = ⟨w.heap.size + 1, t, none⟩ := by unfold Addr.add; split <;> simp_all
      rw [e, hr'.cell, c8_at ht]; simp [List.getD_eq_getElem?_getD, ht])
  rw [← hC1, hx]
  have w1 := u8wrap h1
  have w2 := u8wrap h2
  have w3 := u8wrap h3
  have w4 := u8wrap h4
  have r1 : Row ((w.alloc (.cells #[.int .i64 wd, .int .i64 ht, .int .i64 x, .int .i64 y, .string C1] 25 (0, 0))).alloc (.cells #[.int .u8 wd, .int .u8 ht, .int .u8 x, .int .u8 y] 69 (0, 0))) w.heap.size 25 [.int .i64 wd, .int .i64 ht, .int .i64 x, .int .i64 y, .string C1] := (Row.new' rfl rfl).alloc _
  have r2 : Row ((w.alloc (.cells #[.int .i64 wd, .int .i64 ht, .int .i64 x, .int .i64 y, .string C1] 25 (0, 0))).alloc (.cells #[.int .u8 wd, .int .u8 ht, .int .u8 x, .int .u8 y] 69 (0, 0))) (w.heap.size + 1) 69 [.int .u8 wd, .int .u8 ht, .int .u8 x, .int .u8 y] := Row.new' rfl (by simp)
  have b2 : Below w.heap.size w ((w.alloc (.cells #[.int .i64 wd, .int .i64 ht, .int .i64 x, .int .i64 y, .string C1] 25 (0, 0))).alloc (.cells #[.int .u8 wd, .int .u8 ht, .int .u8 x, .int .u8 y] 69 (0, 0))) := ((Below.refl _ _).alloc (Nat.le_refl _) _).alloc (by simp) _
  have HB := Lib.hid b2.drew
  clear hC1 hHD hx hs2 b2 hc
  go_enter Try.func17, Try.ntmps17
  go_wp2
  refine wp_region_held_drew (S := fun w' => Row w' w.heap.size 25 [.int .i64 wd, .int .i64 ht, .int .i64 x, .int .i64 y, .string C1] ∧ Row w' (w.heap.size + 1) 69 [.int .u8 wd, .int .u8 ht, .int .u8 x, .int .u8 y]) (by kernel_rfl) (⟨r1.drew, r2.drew⟩) (fun hHeld => ?_)
  refine take_d 0 (some 17) (.slice (some ⟨w.heap.size + 1, 0, none⟩) 4 4) rfl (by kernel_rfl) (by kernel_rfl) (by kernel_rfl) (fun _ _ _ h => h) (fun oi h => by cases h; exact Or.inl ⟨by rfl, fun w' hS' => by go_simp⟩) hHeld ?_
  try simp only [Act.put, List.setIfInBounds_toArray, List.set_cons_zero, List.set_cons_succ]
  refine take_d 1 (some 18) (.string HD) rfl (by kernel_rfl) (by kernel_rfl) (by kernel_rfl) (fun _ _ _ h => h) (fun oi h => by cases h; exact Or.inl ⟨by rfl, fun w' hS' => by have hcv := HCV.out w' hS'.2; go_simp⟩) hHeld ?_
  try simp only [Act.put, List.setIfInBounds_toArray, List.set_cons_zero, List.set_cons_succ]
  refine take_d 2 (some 19) (.pointer (some ⟨w.heap.size, 4, none⟩)) rfl (by kernel_rfl) (by kernel_rfl) (by kernel_rfl) (fun _ _ _ h => h) (fun oi h => by cases h; exact Or.inl ⟨by rfl, fun w' hS' => by go_simp⟩) hHeld ?_
  try simp only [Act.put, List.setIfInBounds_toArray, List.set_cons_zero, List.set_cons_succ]
  refine take_d 3 (some 20) (.string C1) rfl (by kernel_rfl) (by kernel_rfl) (by kernel_rfl) (fun _ _ _ h => h) (fun oi h => by cases h; exact Or.inl ⟨by rfl, fun w' hS' => by have c : w'.cell? ⟨w.heap.size, 4, none⟩ = some (.string C1) := hS'.1.cell 4; go_simp⟩) hHeld ?_
  try simp only [Act.put, List.setIfInBounds_toArray, List.set_cons_zero, List.set_cons_succ]
  refine take_d 4 (some 21) (.string (HD ++ C1)) rfl (by kernel_rfl) (by kernel_rfl) (by kernel_rfl) (fun _ _ _ h => h) (fun oi h => by cases h; exact Or.inl ⟨by rfl, fun w' hS' => by go_simp⟩) hHeld ?_
  try simp only [Act.put, List.setIfInBounds_toArray, List.set_cons_zero, List.set_cons_succ]
  refine take_d 5 (some 2) (.string (HD ++ C1)) rfl (by kernel_rfl) (by kernel_rfl) (by kernel_rfl) (fun _ _ _ h => h) (fun oi h => by cases h; exact Or.inl ⟨by rfl, fun w' hS' => by go_simp⟩) hHeld ?_
  try simp only [Act.put, List.setIfInBounds_toArray, List.set_cons_zero, List.set_cons_succ]
  refine wpAnyH_done (by kernel_rfl) ?_ _
  try simp only [Act.put]
  go_wp2
  go_ret
  exact ⟨rfl, HB.out⟩

end Go.Proofs.Ytekpbfbipkjibaa
