/-
  The document's side of layer 11: Parse.
-/
import Derived.Test.YtekpbfbipkjibaaNIs
import Derived.Test.YtekpbfbipkjibaaNWhole
import Derived.Test.YtekpbfbipkjibaaSTake
namespace Go.Proofs.Ytekpbfbipkjibaa
open Go.RowKit
set_option linter.unusedVariables false
set_option maxRecDepth 20000

set_option maxHeartbeats 2000000 in
theorem refParse_short (t : ByteArray) (h : t.size < 4) (w : World) :
    Calls Try.prog 19 #[.string t] w fun e w' => e = .returned (.tuple #[.agg #[.int .i64 0, .int .i64 0, .int .i64 0, .int .i64 0, .slice none 0 0], .bool false]) ∧ Below w.heap.size w w' := by
  have h' : (t.size : Int) < 4 := by omega
  go_enter Try.func19, Try.ntmps19
  go_wp2
  exact bodyPost_ret (results_row_tmp rfl _ _ w.heap.size 33 [.int .i64 0, .int .i64 0, .int .i64 0, .int .i64 0, .slice none 0 0] _ rfl (Row.new' rfl rfl) Try.underlying33 rfl infoRS) rfl ⟨rfl, (Below.refl _ _).alloc (Nat.le_refl _) _⟩

set_option maxHeartbeats 8000000 in
theorem refParse_noA (t : ByteArray) (h : 4 ≤ t.size) (hs : t.size ≤ 100000) (wd ht x y : Nat) (e0 : (t[0]'(by omega)).toNat = wd) (e1 : (t[1]'(by omega)).toNat = ht) (e2 : (t[2]'(by omega)).toNat = x) (e3 : (t[3]'(by omega)).toNat = y) (h1 : wd < 1) (w : World) :
    Calls Try.prog 19 #[.string t] w fun e w' => e = .returned (.tuple #[.agg #[.int .i64 0, .int .i64 0, .int .i64 0, .int .i64 0, .slice none 0 0], .bool false]) ∧ Below w.heap.size w w' := by
  have l0 : wd < 256 := by rw [← e0]; exact UInt8.toNat_lt _
  have l1 : ht < 256 := by rw [← e1]; exact UInt8.toNat_lt _
  have l2 : x < 256 := by rw [← e2]; exact UInt8.toNat_lt _
  have l3 : y < 256 := by rw [← e3]; exact UInt8.toNat_lt _
  have g0 : ¬ (t.size : Int) < 4 := by omega
  have m0 : (0 : Nat) < t.size := by omega
  have m1 : 1 < t.size := by omega
  have m2 : 2 < t.size := by omega
  have m3 : 3 < t.size := by omega
  have i1 : (1 : Int) < (t.size : Int) := by omega
  have i2 : (2 : Int) < (t.size : Int) := by omega
  have i3 : (3 : Int) < (t.size : Int) := by omega
  have w0 : IntKind.i64.wrap (wd : Int) = (wd : Int) := by rw [IntKind.wrap_i64]; omega
  have w1 : IntKind.i64.wrap (ht : Int) = (ht : Int) := by rw [IntKind.wrap_i64]; omega
  have w2 : IntKind.i64.wrap (x : Int) = (x : Int) := by rw [IntKind.wrap_i64]; omega
  have w3 : IntKind.i64.wrap (y : Int) = (y : Int) := by rw [IntKind.wrap_i64]; omega
  have rz : Row (w.alloc (.cells #[.int .i64 0, .int .i64 0, .int .i64 0, .int .i64 0, .slice none 0 0] 33 (0, 0))) w.heap.size 33 [.int .i64 0, .int .i64 0, .int .i64 0, .int .i64 0, .slice none 0 0] := Row.new' rfl rfl
  have bz : Below w.heap.size w (w.alloc (.cells #[.int .i64 0, .int .i64 0, .int .i64 0, .int .i64 0, .slice none 0 0] 33 (0, 0))) := (Below.refl _ _).alloc (Nat.le_refl _) _
  have t1 : (wd : Int) < 1 := by omega
  go_enter Try.func19, Try.ntmps19
  go_wp2
  generalize w.alloc (.cells #[.int .i64 0, .int .i64 0, .int .i64 0, .int .i64 0, .slice none 0 0] 33 (0, 0)) = w4 at *
  refine wp_region_held_drew (S := fun w' => Row w' w.heap.size 33 [.int .i64 0, .int .i64 0, .int .i64 0, .int .i64 0, .slice none 0 0] ∧ Below w.heap.size w w') (by kernel_rfl) (⟨rz.drew, bz.drew⟩) (fun hHeld => ?_)
  refine take_d 0 (some 13) (.string t) rfl (by kernel_rfl) (by kernel_rfl) (by kernel_rfl) (fun _ _ _ h => h) (fun oi h => by cases h; exact Or.inl ⟨by rfl, fun w' hS' => by go_simp⟩) hHeld ?_
  try simp only [Act.put, List.setIfInBounds_toArray, List.set_cons_zero, List.set_cons_succ]
  refine take_d 1 (some 14) (.int .u8 (wd : Int)) rfl (by kernel_rfl) (by kernel_rfl) (by kernel_rfl) (fun _ _ _ h => h) (fun oi h => by cases h; exact Or.inl ⟨by rfl, fun w' hS' => by go_simp⟩) hHeld ?_
  try simp only [Act.put, List.setIfInBounds_toArray, List.set_cons_zero, List.set_cons_succ]
  refine take_d 2 (some 15) (.int .i64 (wd : Int)) rfl (by kernel_rfl) (by kernel_rfl) (by kernel_rfl) (fun _ _ _ h => h) (fun oi h => by cases h; exact Or.inl ⟨by rfl, fun w' hS' => by go_simp⟩) hHeld ?_
  try simp only [Act.put, List.setIfInBounds_toArray, List.set_cons_zero, List.set_cons_succ]
  refine take_d 3 (some 16) (.string t) rfl (by kernel_rfl) (by kernel_rfl) (by kernel_rfl) (fun _ _ _ h => h) (fun oi h => by cases h; exact Or.inl ⟨by rfl, fun w' hS' => by go_simp⟩) hHeld ?_
  try simp only [Act.put, List.setIfInBounds_toArray, List.set_cons_zero, List.set_cons_succ]
  refine take_d 4 (some 17) (.int .u8 (ht : Int)) rfl (by kernel_rfl) (by kernel_rfl) (by kernel_rfl) (fun _ _ _ h => h) (fun oi h => by cases h; exact Or.inl ⟨by rfl, fun w' hS' => by go_simp⟩) hHeld ?_
  try simp only [Act.put, List.setIfInBounds_toArray, List.set_cons_zero, List.set_cons_succ]
  refine take_d 5 (some 18) (.int .i64 (ht : Int)) rfl (by kernel_rfl) (by kernel_rfl) (by kernel_rfl) (fun _ _ _ h => h) (fun oi h => by cases h; exact Or.inl ⟨by rfl, fun w' hS' => by go_simp⟩) hHeld ?_
  try simp only [Act.put, List.setIfInBounds_toArray, List.set_cons_zero, List.set_cons_succ]
  refine take_d 6 (some 4) (.int .i64 (wd : Int)) rfl (by kernel_rfl) (by kernel_rfl) (by kernel_rfl) (fun _ _ _ h => h) (fun oi h => by cases h; exact Or.inl ⟨by rfl, fun w' hS' => by go_simp⟩) hHeld ?_
  try simp only [Act.put, List.setIfInBounds_toArray, List.set_cons_zero, List.set_cons_succ]
  refine take_d 7 (some 5) (.int .i64 (ht : Int)) rfl (by kernel_rfl) (by kernel_rfl) (by kernel_rfl) (fun _ _ _ h => h) (fun oi h => by cases h; exact Or.inl ⟨by rfl, fun w' hS' => by go_simp⟩) hHeld ?_
  try simp only [Act.put, List.setIfInBounds_toArray, List.set_cons_zero, List.set_cons_succ]
  refine wpAnyH_done (by kernel_rfl) ?_ _
  try simp only [Act.put]
  have rz := hHeld.1
  have bz := hHeld.2
  go_wp2
  generalize w4.drew = w5 at *
  refine wp_region_held_drew (S := fun w' => Row w' w.heap.size 33 [.int .i64 0, .int .i64 0, .int .i64 0, .int .i64 0, .slice none 0 0] ∧ Below w.heap.size w w') (by kernel_rfl) (⟨rz.drew, bz.drew⟩) (fun hHeld => ?_)
  refine take_d 0 (some 19) (.int .i64 wd) rfl (by kernel_rfl) (by kernel_rfl) (by kernel_rfl) (fun _ _ _ h => h) (fun oi h => by cases h; exact Or.inl ⟨by rfl, fun w' hS' => by go_simp⟩) hHeld ?_
  try simp only [Act.put, List.setIfInBounds_toArray, List.set_cons_zero, List.set_cons_succ]
  refine take_d 1 (some 20) (.int .i64 ht) rfl (by kernel_rfl) (by kernel_rfl) (by kernel_rfl) (fun _ _ _ h => h) (fun oi h => by cases h; exact Or.inl ⟨by rfl, fun w' hS' => by go_simp⟩) hHeld ?_
  try simp only [Act.put, List.setIfInBounds_toArray, List.set_cons_zero, List.set_cons_succ]
  refine take_d 2 (some 21) (.string t) rfl (by kernel_rfl) (by kernel_rfl) (by kernel_rfl) (fun _ _ _ h => h) (fun oi h => by cases h; exact Or.inl ⟨by rfl, fun w' hS' => by go_simp⟩) hHeld ?_
  try simp only [Act.put, List.setIfInBounds_toArray, List.set_cons_zero, List.set_cons_succ]
  refine take_d 3 (some 22) (.int .u8 (x : Int)) rfl (by kernel_rfl) (by kernel_rfl) (by kernel_rfl) (fun _ _ _ h => h) (fun oi h => by cases h; exact Or.inl ⟨by rfl, fun w' hS' => by go_simp⟩) hHeld ?_
  try simp only [Act.put, List.setIfInBounds_toArray, List.set_cons_zero, List.set_cons_succ]
  refine take_d 4 (some 23) (.int .i64 (x : Int)) rfl (by kernel_rfl) (by kernel_rfl) (by kernel_rfl) (fun _ _ _ h => h) (fun oi h => by cases h; exact Or.inl ⟨by rfl, fun w' hS' => by go_simp⟩) hHeld ?_
  try simp only [Act.put, List.setIfInBounds_toArray, List.set_cons_zero, List.set_cons_succ]
  refine take_d 5 (some 24) (.string t) rfl (by kernel_rfl) (by kernel_rfl) (by kernel_rfl) (fun _ _ _ h => h) (fun oi h => by cases h; exact Or.inl ⟨by rfl, fun w' hS' => by go_simp⟩) hHeld ?_
  try simp only [Act.put, List.setIfInBounds_toArray, List.set_cons_zero, List.set_cons_succ]
  refine take_d 6 (some 25) (.int .u8 (y : Int)) rfl (by kernel_rfl) (by kernel_rfl) (by kernel_rfl) (fun _ _ _ h => h) (fun oi h => by cases h; exact Or.inl ⟨by rfl, fun w' hS' => by go_simp⟩) hHeld ?_
  try simp only [Act.put, List.setIfInBounds_toArray, List.set_cons_zero, List.set_cons_succ]
  refine take_d 7 (some 26) (.int .i64 (y : Int)) rfl (by kernel_rfl) (by kernel_rfl) (by kernel_rfl) (fun _ _ _ h => h) (fun oi h => by cases h; exact Or.inl ⟨by rfl, fun w' hS' => by go_simp⟩) hHeld ?_
  try simp only [Act.put, List.setIfInBounds_toArray, List.set_cons_zero, List.set_cons_succ]
  refine take_d 8 (some 27) (.agg #[.int .i64 wd, .int .i64 ht, .int .i64 x, .int .i64 y, .slice none 0 0]) rfl (by kernel_rfl) (by kernel_rfl) (by kernel_rfl) (fun _ _ _ h => h) (fun oi h => by cases h; exact Or.inl ⟨by rfl, fun w' hS' => by go_simp⟩) hHeld ?_
  try simp only [Act.put, List.setIfInBounds_toArray, List.set_cons_zero, List.set_cons_succ]
  refine one_d 9 (some 6) rfl (by kernel_rfl) ?_
  intro o ho1 hd
  cases ho1
  clear hd
  have lz : w.heap.size < w5.heap.size := hHeld.1.lt
  intro K hK
  go_simp
  refine hK.out _ _ ⟨hHeld.1.alloc _, hHeld.2.alloc hHeld.2.size _⟩ (fun hHeld => ?_)
  clear hK K
  try simp only [Act.put, List.setIfInBounds_toArray, List.set_cons_zero, List.set_cons_succ]
  have rp : Row (w5.alloc (.cells #[.int .i64 0, .int .i64 0, .int .i64 0, .int .i64 0, .slice none 0 0] 33 (0, 0))).drew w5.heap.size 33 [.int .i64 0, .int .i64 0, .int .i64 0, .int .i64 0, .slice none 0 0] := Row.new' rfl rfl
  generalize w5.heap.size = p at *
  generalize (w5.alloc (.cells #[.int .i64 0, .int .i64 0, .int .i64 0, .int .i64 0, .slice none 0 0] 33 (0, 0))).drew = v2 at *
  refine one_d 10 none rfl (by kernel_rfl) ?_
  intro o ho1 hd K hK
  cases ho1
  refine step_store_row rfl 33 (.tmp 6) (.tmp 27) rfl p [.int .i64 wd, .int .i64 ht, .int .i64 x, .int .i64 y, .slice none 0 0] rfl rfl _ _ rp infoRS rfl (by simp [Value.oneCell']) ?_
  rw [hd]
  have hz := hHeld.1.setRow_other (k := p) (by omega) (List.toArray [.int .i64 wd, .int .i64 ht, .int .i64 x, .int .i64 y, .slice none 0 0])
  have rp2 := rp.setRow [.int .i64 wd, .int .i64 ht, .int .i64 x, .int .i64 y, .slice none 0 0]
  have bl := below_row hHeld.2 (show w.heap.size ≤ p by omega) (List.toArray [.int .i64 wd, .int .i64 ht, .int .i64 x, .int .i64 y, .slice none 0 0])
  refine hK.out _ _ ⟨hz, bl⟩ (fun hHeld => ?_)
  clear hK K hd hHeld rp
  try simp only [Act.put]
  refine wpAnyH_done (by kernel_rfl) ?_ _
  try simp only [Act.put]
  have c2 := rp2.cell 2
  have c3 := rp2.cell 3
  simp only [List.getElem?_cons_zero, List.getElem?_cons_succ] at c2 c3
  generalize v2.setRow p (List.toArray [.int .i64 wd, .int .i64 ht, .int .i64 x, .int .i64 y, .slice none 0 0]) = w7 at *
  go_wp2_with (first | refine wpList_store_row rfl 33 (.tmp 2) (.tmp 63) rfl w.heap.size _ rfl rfl _ _ hz infoRS rfl (by simp [Value.oneCell']) ?_)
  exact bodyPost_ret (results_row_tmp rfl _ _ w.heap.size 33 [.int .i64 0, .int .i64 0, .int .i64 0, .int .i64 0, .slice none 0 0] _ rfl (hz.setRow [.int .i64 0, .int .i64 0, .int .i64 0, .int .i64 0, .slice none 0 0]) Try.underlying33 rfl infoRS) rfl ⟨rfl, below_row bl (Nat.le_refl _) _⟩

set_option maxHeartbeats 8000000 in
theorem refParse_noB (t : ByteArray) (h : 4 ≤ t.size) (hs : t.size ≤ 100000) (wd ht x y : Nat) (e0 : (t[0]'(by omega)).toNat = wd) (e1 : (t[1]'(by omega)).toNat = ht) (e2 : (t[2]'(by omega)).toNat = x) (e3 : (t[3]'(by omega)).toNat = y) (h1 : ¬ wd < 1) (h2 : 80 < wd) (w : World) :
    Calls Try.prog 19 #[.string t] w fun e w' => e = .returned (.tuple #[.agg #[.int .i64 0, .int .i64 0, .int .i64 0, .int .i64 0, .slice none 0 0], .bool false]) ∧ Below w.heap.size w w' := by
  have l0 : wd < 256 := by rw [← e0]; exact UInt8.toNat_lt _
  have l1 : ht < 256 := by rw [← e1]; exact UInt8.toNat_lt _
  have l2 : x < 256 := by rw [← e2]; exact UInt8.toNat_lt _
  have l3 : y < 256 := by rw [← e3]; exact UInt8.toNat_lt _
  have g0 : ¬ (t.size : Int) < 4 := by omega
  have m0 : (0 : Nat) < t.size := by omega
  have m1 : 1 < t.size := by omega
  have m2 : 2 < t.size := by omega
  have m3 : 3 < t.size := by omega
  have i1 : (1 : Int) < (t.size : Int) := by omega
  have i2 : (2 : Int) < (t.size : Int) := by omega
  have i3 : (3 : Int) < (t.size : Int) := by omega
  have w0 : IntKind.i64.wrap (wd : Int) = (wd : Int) := by rw [IntKind.wrap_i64]; omega
  have w1 : IntKind.i64.wrap (ht : Int) = (ht : Int) := by rw [IntKind.wrap_i64]; omega
  have w2 : IntKind.i64.wrap (x : Int) = (x : Int) := by rw [IntKind.wrap_i64]; omega
  have w3 : IntKind.i64.wrap (y : Int) = (y : Int) := by rw [IntKind.wrap_i64]; omega
  have rz : Row (w.alloc (.cells #[.int .i64 0, .int .i64 0, .int .i64 0, .int .i64 0, .slice none 0 0] 33 (0, 0))) w.heap.size 33 [.int .i64 0, .int .i64 0, .int .i64 0, .int .i64 0, .slice none 0 0] := Row.new' rfl rfl
  have bz : Below w.heap.size w (w.alloc (.cells #[.int .i64 0, .int .i64 0, .int .i64 0, .int .i64 0, .slice none 0 0] 33 (0, 0))) := (Below.refl _ _).alloc (Nat.le_refl _) _
  have t1 : ¬ (wd : Int) < 1 := by omega
  have t2 : (80 : Int) < (wd : Int) := by omega
  go_enter Try.func19, Try.ntmps19
  go_wp2
  generalize w.alloc (.cells #[.int .i64 0, .int .i64 0, .int .i64 0, .int .i64 0, .slice none 0 0] 33 (0, 0)) = w4 at *
  refine wp_region_held_drew (S := fun w' => Row w' w.heap.size 33 [.int .i64 0, .int .i64 0, .int .i64 0, .int .i64 0, .slice none 0 0] ∧ Below w.heap.size w w') (by kernel_rfl) (⟨rz.drew, bz.drew⟩) (fun hHeld => ?_)
  refine take_d 0 (some 13) (.string t) rfl (by kernel_rfl) (by kernel_rfl) (by kernel_rfl) (fun _ _ _ h => h) (fun oi h => by cases h; exact Or.inl ⟨by rfl, fun w' hS' => by go_simp⟩) hHeld ?_
  try simp only [Act.put, List.setIfInBounds_toArray, List.set_cons_zero, List.set_cons_succ]
  refine take_d 1 (some 14) (.int .u8 (wd : Int)) rfl (by kernel_rfl) (by kernel_rfl) (by kernel_rfl) (fun _ _ _ h => h) (fun oi h => by cases h; exact Or.inl ⟨by rfl, fun w' hS' => by go_simp⟩) hHeld ?_
  try simp only [Act.put, List.setIfInBounds_toArray, List.set_cons_zero, List.set_cons_succ]
  refine take_d 2 (some 15) (.int .i64 (wd : Int)) rfl (by kernel_rfl) (by kernel_rfl) (by kernel_rfl) (fun _ _ _ h => h) (fun oi h => by cases h; exact Or.inl ⟨by rfl, fun w' hS' => by go_simp⟩) hHeld ?_
  try simp only [Act.put, List.setIfInBounds_toArray, List.set_cons_zero, List.set_cons_succ]
  refine take_d 3 (some 16) (.string t) rfl (by kernel_rfl) (by kernel_rfl) (by kernel_rfl) (fun _ _ _ h => h) (fun oi h => by cases h; exact Or.inl ⟨by rfl, fun w' hS' => by go_simp⟩) hHeld ?_
  try simp only [Act.put, List.setIfInBounds_toArray, List.set_cons_zero, List.set_cons_succ]
  refine take_d 4 (some 17) (.int .u8 (ht : Int)) rfl (by kernel_rfl) (by kernel_rfl) (by kernel_rfl) (fun _ _ _ h => h) (fun oi h => by cases h; exact Or.inl ⟨by rfl, fun w' hS' => by go_simp⟩) hHeld ?_
  try simp only [Act.put, List.setIfInBounds_toArray, List.set_cons_zero, List.set_cons_succ]
  refine take_d 5 (some 18) (.int .i64 (ht : Int)) rfl (by kernel_rfl) (by kernel_rfl) (by kernel_rfl) (fun _ _ _ h => h) (fun oi h => by cases h; exact Or.inl ⟨by rfl, fun w' hS' => by go_simp⟩) hHeld ?_
  try simp only [Act.put, List.setIfInBounds_toArray, List.set_cons_zero, List.set_cons_succ]
  refine take_d 6 (some 4) (.int .i64 (wd : Int)) rfl (by kernel_rfl) (by kernel_rfl) (by kernel_rfl) (fun _ _ _ h => h) (fun oi h => by cases h; exact Or.inl ⟨by rfl, fun w' hS' => by go_simp⟩) hHeld ?_
  try simp only [Act.put, List.setIfInBounds_toArray, List.set_cons_zero, List.set_cons_succ]
  refine take_d 7 (some 5) (.int .i64 (ht : Int)) rfl (by kernel_rfl) (by kernel_rfl) (by kernel_rfl) (fun _ _ _ h => h) (fun oi h => by cases h; exact Or.inl ⟨by rfl, fun w' hS' => by go_simp⟩) hHeld ?_
  try simp only [Act.put, List.setIfInBounds_toArray, List.set_cons_zero, List.set_cons_succ]
  refine wpAnyH_done (by kernel_rfl) ?_ _
  try simp only [Act.put]
  have rz := hHeld.1
  have bz := hHeld.2
  go_wp2
  generalize w4.drew = w5 at *
  refine wp_region_held_drew (S := fun w' => Row w' w.heap.size 33 [.int .i64 0, .int .i64 0, .int .i64 0, .int .i64 0, .slice none 0 0] ∧ Below w.heap.size w w') (by kernel_rfl) (⟨rz.drew, bz.drew⟩) (fun hHeld => ?_)
  refine take_d 0 (some 19) (.int .i64 wd) rfl (by kernel_rfl) (by kernel_rfl) (by kernel_rfl) (fun _ _ _ h => h) (fun oi h => by cases h; exact Or.inl ⟨by rfl, fun w' hS' => by go_simp⟩) hHeld ?_
  try simp only [Act.put, List.setIfInBounds_toArray, List.set_cons_zero, List.set_cons_succ]
  refine take_d 1 (some 20) (.int .i64 ht) rfl (by kernel_rfl) (by kernel_rfl) (by kernel_rfl) (fun _ _ _ h => h) (fun oi h => by cases h; exact Or.inl ⟨by rfl, fun w' hS' => by go_simp⟩) hHeld ?_
  try simp only [Act.put, List.setIfInBounds_toArray, List.set_cons_zero, List.set_cons_succ]
  refine take_d 2 (some 21) (.string t) rfl (by kernel_rfl) (by kernel_rfl) (by kernel_rfl) (fun _ _ _ h => h) (fun oi h => by cases h; exact Or.inl ⟨by rfl, fun w' hS' => by go_simp⟩) hHeld ?_
  try simp only [Act.put, List.setIfInBounds_toArray, List.set_cons_zero, List.set_cons_succ]
  refine take_d 3 (some 22) (.int .u8 (x : Int)) rfl (by kernel_rfl) (by kernel_rfl) (by kernel_rfl) (fun _ _ _ h => h) (fun oi h => by cases h; exact Or.inl ⟨by rfl, fun w' hS' => by go_simp⟩) hHeld ?_
  try simp only [Act.put, List.setIfInBounds_toArray, List.set_cons_zero, List.set_cons_succ]
  refine take_d 4 (some 23) (.int .i64 (x : Int)) rfl (by kernel_rfl) (by kernel_rfl) (by kernel_rfl) (fun _ _ _ h => h) (fun oi h => by cases h; exact Or.inl ⟨by rfl, fun w' hS' => by go_simp⟩) hHeld ?_
  try simp only [Act.put, List.setIfInBounds_toArray, List.set_cons_zero, List.set_cons_succ]
  refine take_d 5 (some 24) (.string t) rfl (by kernel_rfl) (by kernel_rfl) (by kernel_rfl) (fun _ _ _ h => h) (fun oi h => by cases h; exact Or.inl ⟨by rfl, fun w' hS' => by go_simp⟩) hHeld ?_
  try simp only [Act.put, List.setIfInBounds_toArray, List.set_cons_zero, List.set_cons_succ]
  refine take_d 6 (some 25) (.int .u8 (y : Int)) rfl (by kernel_rfl) (by kernel_rfl) (by kernel_rfl) (fun _ _ _ h => h) (fun oi h => by cases h; exact Or.inl ⟨by rfl, fun w' hS' => by go_simp⟩) hHeld ?_
  try simp only [Act.put, List.setIfInBounds_toArray, List.set_cons_zero, List.set_cons_succ]
  refine take_d 7 (some 26) (.int .i64 (y : Int)) rfl (by kernel_rfl) (by kernel_rfl) (by kernel_rfl) (fun _ _ _ h => h) (fun oi h => by cases h; exact Or.inl ⟨by rfl, fun w' hS' => by go_simp⟩) hHeld ?_
  try simp only [Act.put, List.setIfInBounds_toArray, List.set_cons_zero, List.set_cons_succ]
  refine take_d 8 (some 27) (.agg #[.int .i64 wd, .int .i64 ht, .int .i64 x, .int .i64 y, .slice none 0 0]) rfl (by kernel_rfl) (by kernel_rfl) (by kernel_rfl) (fun _ _ _ h => h) (fun oi h => by cases h; exact Or.inl ⟨by rfl, fun w' hS' => by go_simp⟩) hHeld ?_
  try simp only [Act.put, List.setIfInBounds_toArray, List.set_cons_zero, List.set_cons_succ]
  refine one_d 9 (some 6) rfl (by kernel_rfl) ?_
  intro o ho1 hd
  cases ho1
  clear hd
  have lz : w.heap.size < w5.heap.size := hHeld.1.lt
  intro K hK
  go_simp
  refine hK.out _ _ ⟨hHeld.1.alloc _, hHeld.2.alloc hHeld.2.size _⟩ (fun hHeld => ?_)
  clear hK K
  try simp only [Act.put, List.setIfInBounds_toArray, List.set_cons_zero, List.set_cons_succ]
  have rp : Row (w5.alloc (.cells #[.int .i64 0, .int .i64 0, .int .i64 0, .int .i64 0, .slice none 0 0] 33 (0, 0))).drew w5.heap.size 33 [.int .i64 0, .int .i64 0, .int .i64 0, .int .i64 0, .slice none 0 0] := Row.new' rfl rfl
  generalize w5.heap.size = p at *
  generalize (w5.alloc (.cells #[.int .i64 0, .int .i64 0, .int .i64 0, .int .i64 0, .slice none 0 0] 33 (0, 0))).drew = v2 at *
  refine one_d 10 none rfl (by kernel_rfl) ?_
  intro o ho1 hd K hK
  cases ho1
  refine step_store_row rfl 33 (.tmp 6) (.tmp 27) rfl p [.int .i64 wd, .int .i64 ht, .int .i64 x, .int .i64 y, .slice none 0 0] rfl rfl _ _ rp infoRS rfl (by simp [Value.oneCell']) ?_
  rw [hd]
  have hz := hHeld.1.setRow_other (k := p) (by omega) (List.toArray [.int .i64 wd, .int .i64 ht, .int .i64 x, .int .i64 y, .slice none 0 0])
  have rp2 := rp.setRow [.int .i64 wd, .int .i64 ht, .int .i64 x, .int .i64 y, .slice none 0 0]
  have bl := below_row hHeld.2 (show w.heap.size ≤ p by omega) (List.toArray [.int .i64 wd, .int .i64 ht, .int .i64 x, .int .i64 y, .slice none 0 0])
  refine hK.out _ _ ⟨hz, bl⟩ (fun hHeld => ?_)
  clear hK K hd hHeld rp
  try simp only [Act.put]
  refine wpAnyH_done (by kernel_rfl) ?_ _
  try simp only [Act.put]
  have c2 := rp2.cell 2
  have c3 := rp2.cell 3
  simp only [List.getElem?_cons_zero, List.getElem?_cons_succ] at c2 c3
  generalize v2.setRow p (List.toArray [.int .i64 wd, .int .i64 ht, .int .i64 x, .int .i64 y, .slice none 0 0]) = w7 at *
  go_wp2_with (first | refine wpList_store_row rfl 33 (.tmp 2) (.tmp 63) rfl w.heap.size _ rfl rfl _ _ hz infoRS rfl (by simp [Value.oneCell']) ?_)
  exact bodyPost_ret (results_row_tmp rfl _ _ w.heap.size 33 [.int .i64 0, .int .i64 0, .int .i64 0, .int .i64 0, .slice none 0 0] _ rfl (hz.setRow [.int .i64 0, .int .i64 0, .int .i64 0, .int .i64 0, .slice none 0 0]) Try.underlying33 rfl infoRS) rfl ⟨rfl, below_row bl (Nat.le_refl _) _⟩

set_option maxHeartbeats 8000000 in
theorem refParse_noC (t : ByteArray) (h : 4 ≤ t.size) (hs : t.size ≤ 100000) (wd ht x y : Nat) (e0 : (t[0]'(by omega)).toNat = wd) (e1 : (t[1]'(by omega)).toNat = ht) (e2 : (t[2]'(by omega)).toNat = x) (e3 : (t[3]'(by omega)).toNat = y) (h1 : ¬ wd < 1) (h2 : ¬ 80 < wd) (h3 : ht < 1) (w : World) :
    Calls Try.prog 19 #[.string t] w fun e w' => e = .returned (.tuple #[.agg #[.int .i64 0, .int .i64 0, .int .i64 0, .int .i64 0, .slice none 0 0], .bool false]) ∧ Below w.heap.size w w' := by
  have l0 : wd < 256 := by rw [← e0]; exact UInt8.toNat_lt _
  have l1 : ht < 256 := by rw [← e1]; exact UInt8.toNat_lt _
  have l2 : x < 256 := by rw [← e2]; exact UInt8.toNat_lt _
  have l3 : y < 256 := by rw [← e3]; exact UInt8.toNat_lt _
  have g0 : ¬ (t.size : Int) < 4 := by omega
  have m0 : (0 : Nat) < t.size := by omega
  have m1 : 1 < t.size := by omega
  have m2 : 2 < t.size := by omega
  have m3 : 3 < t.size := by omega
  have i1 : (1 : Int) < (t.size : Int) := by omega
  have i2 : (2 : Int) < (t.size : Int) := by omega
  have i3 : (3 : Int) < (t.size : Int) := by omega
  have w0 : IntKind.i64.wrap (wd : Int) = (wd : Int) := by rw [IntKind.wrap_i64]; omega
  have w1 : IntKind.i64.wrap (ht : Int) = (ht : Int) := by rw [IntKind.wrap_i64]; omega
  have w2 : IntKind.i64.wrap (x : Int) = (x : Int) := by rw [IntKind.wrap_i64]; omega
  have w3 : IntKind.i64.wrap (y : Int) = (y : Int) := by rw [IntKind.wrap_i64]; omega
  have rz : Row (w.alloc (.cells #[.int .i64 0, .int .i64 0, .int .i64 0, .int .i64 0, .slice none 0 0] 33 (0, 0))) w.heap.size 33 [.int .i64 0, .int .i64 0, .int .i64 0, .int .i64 0, .slice none 0 0] := Row.new' rfl rfl
  have bz : Below w.heap.size w (w.alloc (.cells #[.int .i64 0, .int .i64 0, .int .i64 0, .int .i64 0, .slice none 0 0] 33 (0, 0))) := (Below.refl _ _).alloc (Nat.le_refl _) _
  have t1 : ¬ (wd : Int) < 1 := by omega
  have t2 : ¬ (80 : Int) < (wd : Int) := by omega
  have t3 : (ht : Int) < 1 := by omega
  go_enter Try.func19, Try.ntmps19
  go_wp2
  generalize w.alloc (.cells #[.int .i64 0, .int .i64 0, .int .i64 0, .int .i64 0, .slice none 0 0] 33 (0, 0)) = w4 at *
  refine wp_region_held_drew (S := fun w' => Row w' w.heap.size 33 [.int .i64 0, .int .i64 0, .int .i64 0, .int .i64 0, .slice none 0 0] ∧ Below w.heap.size w w') (by kernel_rfl) (⟨rz.drew, bz.drew⟩) (fun hHeld => ?_)
  refine take_d 0 (some 13) (.string t) rfl (by kernel_rfl) (by kernel_rfl) (by kernel_rfl) (fun _ _ _ h => h) (fun oi h => by cases h; exact Or.inl ⟨by rfl, fun w' hS' => by go_simp⟩) hHeld ?_
  try simp only [Act.put, List.setIfInBounds_toArray, List.set_cons_zero, List.set_cons_succ]
  refine take_d 1 (some 14) (.int .u8 (wd : Int)) rfl (by kernel_rfl) (by kernel_rfl) (by kernel_rfl) (fun _ _ _ h => h) (fun oi h => by cases h; exact Or.inl ⟨by rfl, fun w' hS' => by go_simp⟩) hHeld ?_
  try simp only [Act.put, List.setIfInBounds_toArray, List.set_cons_zero, List.set_cons_succ]
  refine take_d 2 (some 15) (.int .i64 (wd : Int)) rfl (by kernel_rfl) (by kernel_rfl) (by kernel_rfl) (fun _ _ _ h => h) (fun oi h => by cases h; exact Or.inl ⟨by rfl, fun w' hS' => by go_simp⟩) hHeld ?_
  try simp only [Act.put, List.setIfInBounds_toArray, List.set_cons_zero, List.set_cons_succ]
  refine take_d 3 (some 16) (.string t) rfl (by kernel_rfl) (by kernel_rfl) (by kernel_rfl) (fun _ _ _ h => h) (fun oi h => by cases h; exact Or.inl ⟨by rfl, fun w' hS' => by go_simp⟩) hHeld ?_
  try simp only [Act.put, List.setIfInBounds_toArray, List.set_cons_zero, List.set_cons_succ]
  refine take_d 4 (some 17) (.int .u8 (ht : Int)) rfl (by kernel_rfl) (by kernel_rfl) (by kernel_rfl) (fun _ _ _ h => h) (fun oi h => by cases h; exact Or.inl ⟨by rfl, fun w' hS' => by go_simp⟩) hHeld ?_
  try simp only [Act.put, List.setIfInBounds_toArray, List.set_cons_zero, List.set_cons_succ]
  refine take_d 5 (some 18) (.int .i64 (ht : Int)) rfl (by kernel_rfl) (by kernel_rfl) (by kernel_rfl) (fun _ _ _ h => h) (fun oi h => by cases h; exact Or.inl ⟨by rfl, fun w' hS' => by go_simp⟩) hHeld ?_
  try simp only [Act.put, List.setIfInBounds_toArray, List.set_cons_zero, List.set_cons_succ]
  refine take_d 6 (some 4) (.int .i64 (wd : Int)) rfl (by kernel_rfl) (by kernel_rfl) (by kernel_rfl) (fun _ _ _ h => h) (fun oi h => by cases h; exact Or.inl ⟨by rfl, fun w' hS' => by go_simp⟩) hHeld ?_
  try simp only [Act.put, List.setIfInBounds_toArray, List.set_cons_zero, List.set_cons_succ]
  refine take_d 7 (some 5) (.int .i64 (ht : Int)) rfl (by kernel_rfl) (by kernel_rfl) (by kernel_rfl) (fun _ _ _ h => h) (fun oi h => by cases h; exact Or.inl ⟨by rfl, fun w' hS' => by go_simp⟩) hHeld ?_
  try simp only [Act.put, List.setIfInBounds_toArray, List.set_cons_zero, List.set_cons_succ]
  refine wpAnyH_done (by kernel_rfl) ?_ _
  try simp only [Act.put]
  have rz := hHeld.1
  have bz := hHeld.2
  go_wp2
  generalize w4.drew = w5 at *
  refine wp_region_held_drew (S := fun w' => Row w' w.heap.size 33 [.int .i64 0, .int .i64 0, .int .i64 0, .int .i64 0, .slice none 0 0] ∧ Below w.heap.size w w') (by kernel_rfl) (⟨rz.drew, bz.drew⟩) (fun hHeld => ?_)
  refine take_d 0 (some 19) (.int .i64 wd) rfl (by kernel_rfl) (by kernel_rfl) (by kernel_rfl) (fun _ _ _ h => h) (fun oi h => by cases h; exact Or.inl ⟨by rfl, fun w' hS' => by go_simp⟩) hHeld ?_
  try simp only [Act.put, List.setIfInBounds_toArray, List.set_cons_zero, List.set_cons_succ]
  refine take_d 1 (some 20) (.int .i64 ht) rfl (by kernel_rfl) (by kernel_rfl) (by kernel_rfl) (fun _ _ _ h => h) (fun oi h => by cases h; exact Or.inl ⟨by rfl, fun w' hS' => by go_simp⟩) hHeld ?_
  try simp only [Act.put, List.setIfInBounds_toArray, List.set_cons_zero, List.set_cons_succ]
  refine take_d 2 (some 21) (.string t) rfl (by kernel_rfl) (by kernel_rfl) (by kernel_rfl) (fun _ _ _ h => h) (fun oi h => by cases h; exact Or.inl ⟨by rfl, fun w' hS' => by go_simp⟩) hHeld ?_
  try simp only [Act.put, List.setIfInBounds_toArray, List.set_cons_zero, List.set_cons_succ]
  refine take_d 3 (some 22) (.int .u8 (x : Int)) rfl (by kernel_rfl) (by kernel_rfl) (by kernel_rfl) (fun _ _ _ h => h) (fun oi h => by cases h; exact Or.inl ⟨by rfl, fun w' hS' => by go_simp⟩) hHeld ?_
  try simp only [Act.put, List.setIfInBounds_toArray, List.set_cons_zero, List.set_cons_succ]
  refine take_d 4 (some 23) (.int .i64 (x : Int)) rfl (by kernel_rfl) (by kernel_rfl) (by kernel_rfl) (fun _ _ _ h => h) (fun oi h => by cases h; exact Or.inl ⟨by rfl, fun w' hS' => by go_simp⟩) hHeld ?_
  try simp only [Act.put, List.setIfInBounds_toArray, List.set_cons_zero, List.set_cons_succ]
  refine take_d 5 (some 24) (.string t) rfl (by kernel_rfl) (by kernel_rfl) (by kernel_rfl) (fun _ _ _ h => h) (fun oi h => by cases h; exact Or.inl ⟨by rfl, fun w' hS' => by go_simp⟩) hHeld ?_
  try simp only [Act.put, List.setIfInBounds_toArray, List.set_cons_zero, List.set_cons_succ]
  refine take_d 6 (some 25) (.int .u8 (y : Int)) rfl (by kernel_rfl) (by kernel_rfl) (by kernel_rfl) (fun _ _ _ h => h) (fun oi h => by cases h; exact Or.inl ⟨by rfl, fun w' hS' => by go_simp⟩) hHeld ?_
  try simp only [Act.put, List.setIfInBounds_toArray, List.set_cons_zero, List.set_cons_succ]
  refine take_d 7 (some 26) (.int .i64 (y : Int)) rfl (by kernel_rfl) (by kernel_rfl) (by kernel_rfl) (fun _ _ _ h => h) (fun oi h => by cases h; exact Or.inl ⟨by rfl, fun w' hS' => by go_simp⟩) hHeld ?_
  try simp only [Act.put, List.setIfInBounds_toArray, List.set_cons_zero, List.set_cons_succ]
  refine take_d 8 (some 27) (.agg #[.int .i64 wd, .int .i64 ht, .int .i64 x, .int .i64 y, .slice none 0 0]) rfl (by kernel_rfl) (by kernel_rfl) (by kernel_rfl) (fun _ _ _ h => h) (fun oi h => by cases h; exact Or.inl ⟨by rfl, fun w' hS' => by go_simp⟩) hHeld ?_
  try simp only [Act.put, List.setIfInBounds_toArray, List.set_cons_zero, List.set_cons_succ]
  refine one_d 9 (some 6) rfl (by kernel_rfl) ?_
  intro o ho1 hd
  cases ho1
  clear hd
  have lz : w.heap.size < w5.heap.size := hHeld.1.lt
  intro K hK
  go_simp
  refine hK.out _ _ ⟨hHeld.1.alloc _, hHeld.2.alloc hHeld.2.size _⟩ (fun hHeld => ?_)
  clear hK K
  try simp only [Act.put, List.setIfInBounds_toArray, List.set_cons_zero, List.set_cons_succ]
  have rp : Row (w5.alloc (.cells #[.int .i64 0, .int .i64 0, .int .i64 0, .int .i64 0, .slice none 0 0] 33 (0, 0))).drew w5.heap.size 33 [.int .i64 0, .int .i64 0, .int .i64 0, .int .i64 0, .slice none 0 0] := Row.new' rfl rfl
  generalize w5.heap.size = p at *
  generalize (w5.alloc (.cells #[.int .i64 0, .int .i64 0, .int .i64 0, .int .i64 0, .slice none 0 0] 33 (0, 0))).drew = v2 at *
  refine one_d 10 none rfl (by kernel_rfl) ?_
  intro o ho1 hd K hK
  cases ho1
  refine step_store_row rfl 33 (.tmp 6) (.tmp 27) rfl p [.int .i64 wd, .int .i64 ht, .int .i64 x, .int .i64 y, .slice none 0 0] rfl rfl _ _ rp infoRS rfl (by simp [Value.oneCell']) ?_
  rw [hd]
  have hz := hHeld.1.setRow_other (k := p) (by omega) (List.toArray [.int .i64 wd, .int .i64 ht, .int .i64 x, .int .i64 y, .slice none 0 0])
  have rp2 := rp.setRow [.int .i64 wd, .int .i64 ht, .int .i64 x, .int .i64 y, .slice none 0 0]
  have bl := below_row hHeld.2 (show w.heap.size ≤ p by omega) (List.toArray [.int .i64 wd, .int .i64 ht, .int .i64 x, .int .i64 y, .slice none 0 0])
  refine hK.out _ _ ⟨hz, bl⟩ (fun hHeld => ?_)
  clear hK K hd hHeld rp
  try simp only [Act.put]
  refine wpAnyH_done (by kernel_rfl) ?_ _
  try simp only [Act.put]
  have c2 := rp2.cell 2
  have c3 := rp2.cell 3
  simp only [List.getElem?_cons_zero, List.getElem?_cons_succ] at c2 c3
  generalize v2.setRow p (List.toArray [.int .i64 wd, .int .i64 ht, .int .i64 x, .int .i64 y, .slice none 0 0]) = w7 at *
  go_wp2_with (first | refine wpList_store_row rfl 33 (.tmp 2) (.tmp 63) rfl w.heap.size _ rfl rfl _ _ hz infoRS rfl (by simp [Value.oneCell']) ?_)
  exact bodyPost_ret (results_row_tmp rfl _ _ w.heap.size 33 [.int .i64 0, .int .i64 0, .int .i64 0, .int .i64 0, .slice none 0 0] _ rfl (hz.setRow [.int .i64 0, .int .i64 0, .int .i64 0, .int .i64 0, .slice none 0 0]) Try.underlying33 rfl infoRS) rfl ⟨rfl, below_row bl (Nat.le_refl _) _⟩

set_option maxHeartbeats 8000000 in
theorem refParse_noD (t : ByteArray) (h : 4 ≤ t.size) (hs : t.size ≤ 100000) (wd ht x y : Nat) (e0 : (t[0]'(by omega)).toNat = wd) (e1 : (t[1]'(by omega)).toNat = ht) (e2 : (t[2]'(by omega)).toNat = x) (e3 : (t[3]'(by omega)).toNat = y) (h1 : ¬ wd < 1) (h2 : ¬ 80 < wd) (h3 : ¬ ht < 1) (h4 : 24 < ht) (w : World) :
    Calls Try.prog 19 #[.string t] w fun e w' => e = .returned (.tuple #[.agg #[.int .i64 0, .int .i64 0, .int .i64 0, .int .i64 0, .slice none 0 0], .bool false]) ∧ Below w.heap.size w w' := by
  have l0 : wd < 256 := by rw [← e0]; exact UInt8.toNat_lt _
  have l1 : ht < 256 := by rw [← e1]; exact UInt8.toNat_lt _
  have l2 : x < 256 := by rw [← e2]; exact UInt8.toNat_lt _
  have l3 : y < 256 := by rw [← e3]; exact UInt8.toNat_lt _
  have g0 : ¬ (t.size : Int) < 4 := by omega
  have m0 : (0 : Nat) < t.size := by omega
  have m1 : 1 < t.size := by omega
  have m2 : 2 < t.size := by omega
  have m3 : 3 < t.size := by omega
  have i1 : (1 : Int) < (t.size : Int) := by omega
  have i2 : (2 : Int) < (t.size : Int) := by omega
  have i3 : (3 : Int) < (t.size : Int) := by omega
  have w0 : IntKind.i64.wrap (wd : Int) = (wd : Int) := by rw [IntKind.wrap_i64]; omega
  have w1 : IntKind.i64.wrap (ht : Int) = (ht : Int) := by rw [IntKind.wrap_i64]; omega
  have w2 : IntKind.i64.wrap (x : Int) = (x : Int) := by rw [IntKind.wrap_i64]; omega
  have w3 : IntKind.i64.wrap (y : Int) = (y : Int) := by rw [IntKind.wrap_i64]; omega
  have rz : Row (w.alloc (.cells #[.int .i64 0, .int .i64 0, .int .i64 0, .int .i64 0, .slice none 0 0] 33 (0, 0))) w.heap.size 33 [.int .i64 0, .int .i64 0, .int .i64 0, .int .i64 0, .slice none 0 0] := Row.new' rfl rfl
  have bz : Below w.heap.size w (w.alloc (.cells #[.int .i64 0, .int .i64 0, .int .i64 0, .int .i64 0, .slice none 0 0] 33 (0, 0))) := (Below.refl _ _).alloc (Nat.le_refl _) _
  have t1 : ¬ (wd : Int) < 1 := by omega
  have t2 : ¬ (80 : Int) < (wd : Int) := by omega
  have t3 : ¬ (ht : Int) < 1 := by omega
  have t4 : (24 : Int) < (ht : Int) := by omega
  go_enter Try.func19, Try.ntmps19
  go_wp2
  generalize w.alloc (.cells #[.int .i64 0, .int .i64 0, .int .i64 0, .int .i64 0, .slice none 0 0] 33 (0, 0)) = w4 at *
  refine wp_region_held_drew (S := fun w' => Row w' w.heap.size 33 [.int .i64 0, .int .i64 0, .int .i64 0, .int .i64 0, .slice none 0 0] ∧ Below w.heap.size w w') (by kernel_rfl) (⟨rz.drew, bz.drew⟩) (fun hHeld => ?_)
  refine take_d 0 (some 13) (.string t) rfl (by kernel_rfl) (by kernel_rfl) (by kernel_rfl) (fun _ _ _ h => h) (fun oi h => by cases h; exact Or.inl ⟨by rfl, fun w' hS' => by go_simp⟩) hHeld ?_
  try simp only [Act.put, List.setIfInBounds_toArray, List.set_cons_zero, List.set_cons_succ]
  refine take_d 1 (some 14) (.int .u8 (wd : Int)) rfl (by kernel_rfl) (by kernel_rfl) (by kernel_rfl) (fun _ _ _ h => h) (fun oi h => by cases h; exact Or.inl ⟨by rfl, fun w' hS' => by go_simp⟩) hHeld ?_
  try simp only [Act.put, List.setIfInBounds_toArray, List.set_cons_zero, List.set_cons_succ]
  refine take_d 2 (some 15) (.int .i64 (wd : Int)) rfl (by kernel_rfl) (by kernel_rfl) (by kernel_rfl) (fun _ _ _ h => h) (fun oi h => by cases h; exact Or.inl ⟨by rfl, fun w' hS' => by go_simp⟩) hHeld ?_
  try simp only [Act.put, List.setIfInBounds_toArray, List.set_cons_zero, List.set_cons_succ]
  refine take_d 3 (some 16) (.string t) rfl (by kernel_rfl) (by kernel_rfl) (by kernel_rfl) (fun _ _ _ h => h) (fun oi h => by cases h; exact Or.inl ⟨by rfl, fun w' hS' => by go_simp⟩) hHeld ?_
  try simp only [Act.put, List.setIfInBounds_toArray, List.set_cons_zero, List.set_cons_succ]
  refine take_d 4 (some 17) (.int .u8 (ht : Int)) rfl (by kernel_rfl) (by kernel_rfl) (by kernel_rfl) (fun _ _ _ h => h) (fun oi h => by cases h; exact Or.inl ⟨by rfl, fun w' hS' => by go_simp⟩) hHeld ?_
  try simp only [Act.put, List.setIfInBounds_toArray, List.set_cons_zero, List.set_cons_succ]
  refine take_d 5 (some 18) (.int .i64 (ht : Int)) rfl (by kernel_rfl) (by kernel_rfl) (by kernel_rfl) (fun _ _ _ h => h) (fun oi h => by cases h; exact Or.inl ⟨by rfl, fun w' hS' => by go_simp⟩) hHeld ?_
  try simp only [Act.put, List.setIfInBounds_toArray, List.set_cons_zero, List.set_cons_succ]
  refine take_d 6 (some 4) (.int .i64 (wd : Int)) rfl (by kernel_rfl) (by kernel_rfl) (by kernel_rfl) (fun _ _ _ h => h) (fun oi h => by cases h; exact Or.inl ⟨by rfl, fun w' hS' => by go_simp⟩) hHeld ?_
  try simp only [Act.put, List.setIfInBounds_toArray, List.set_cons_zero, List.set_cons_succ]
  refine take_d 7 (some 5) (.int .i64 (ht : Int)) rfl (by kernel_rfl) (by kernel_rfl) (by kernel_rfl) (fun _ _ _ h => h) (fun oi h => by cases h; exact Or.inl ⟨by rfl, fun w' hS' => by go_simp⟩) hHeld ?_
  try simp only [Act.put, List.setIfInBounds_toArray, List.set_cons_zero, List.set_cons_succ]
  refine wpAnyH_done (by kernel_rfl) ?_ _
  try simp only [Act.put]
  have rz := hHeld.1
  have bz := hHeld.2
  go_wp2
  generalize w4.drew = w5 at *
  refine wp_region_held_drew (S := fun w' => Row w' w.heap.size 33 [.int .i64 0, .int .i64 0, .int .i64 0, .int .i64 0, .slice none 0 0] ∧ Below w.heap.size w w') (by kernel_rfl) (⟨rz.drew, bz.drew⟩) (fun hHeld => ?_)
  refine take_d 0 (some 19) (.int .i64 wd) rfl (by kernel_rfl) (by kernel_rfl) (by kernel_rfl) (fun _ _ _ h => h) (fun oi h => by cases h; exact Or.inl ⟨by rfl, fun w' hS' => by go_simp⟩) hHeld ?_
  try simp only [Act.put, List.setIfInBounds_toArray, List.set_cons_zero, List.set_cons_succ]
  refine take_d 1 (some 20) (.int .i64 ht) rfl (by kernel_rfl) (by kernel_rfl) (by kernel_rfl) (fun _ _ _ h => h) (fun oi h => by cases h; exact Or.inl ⟨by rfl, fun w' hS' => by go_simp⟩) hHeld ?_
  try simp only [Act.put, List.setIfInBounds_toArray, List.set_cons_zero, List.set_cons_succ]
  refine take_d 2 (some 21) (.string t) rfl (by kernel_rfl) (by kernel_rfl) (by kernel_rfl) (fun _ _ _ h => h) (fun oi h => by cases h; exact Or.inl ⟨by rfl, fun w' hS' => by go_simp⟩) hHeld ?_
  try simp only [Act.put, List.setIfInBounds_toArray, List.set_cons_zero, List.set_cons_succ]
  refine take_d 3 (some 22) (.int .u8 (x : Int)) rfl (by kernel_rfl) (by kernel_rfl) (by kernel_rfl) (fun _ _ _ h => h) (fun oi h => by cases h; exact Or.inl ⟨by rfl, fun w' hS' => by go_simp⟩) hHeld ?_
  try simp only [Act.put, List.setIfInBounds_toArray, List.set_cons_zero, List.set_cons_succ]
  refine take_d 4 (some 23) (.int .i64 (x : Int)) rfl (by kernel_rfl) (by kernel_rfl) (by kernel_rfl) (fun _ _ _ h => h) (fun oi h => by cases h; exact Or.inl ⟨by rfl, fun w' hS' => by go_simp⟩) hHeld ?_
  try simp only [Act.put, List.setIfInBounds_toArray, List.set_cons_zero, List.set_cons_succ]
  refine take_d 5 (some 24) (.string t) rfl (by kernel_rfl) (by kernel_rfl) (by kernel_rfl) (fun _ _ _ h => h) (fun oi h => by cases h; exact Or.inl ⟨by rfl, fun w' hS' => by go_simp⟩) hHeld ?_
  try simp only [Act.put, List.setIfInBounds_toArray, List.set_cons_zero, List.set_cons_succ]
  refine take_d 6 (some 25) (.int .u8 (y : Int)) rfl (by kernel_rfl) (by kernel_rfl) (by kernel_rfl) (fun _ _ _ h => h) (fun oi h => by cases h; exact Or.inl ⟨by rfl, fun w' hS' => by go_simp⟩) hHeld ?_
  try simp only [Act.put, List.setIfInBounds_toArray, List.set_cons_zero, List.set_cons_succ]
  refine take_d 7 (some 26) (.int .i64 (y : Int)) rfl (by kernel_rfl) (by kernel_rfl) (by kernel_rfl) (fun _ _ _ h => h) (fun oi h => by cases h; exact Or.inl ⟨by rfl, fun w' hS' => by go_simp⟩) hHeld ?_
  try simp only [Act.put, List.setIfInBounds_toArray, List.set_cons_zero, List.set_cons_succ]
  refine take_d 8 (some 27) (.agg #[.int .i64 wd, .int .i64 ht, .int .i64 x, .int .i64 y, .slice none 0 0]) rfl (by kernel_rfl) (by kernel_rfl) (by kernel_rfl) (fun _ _ _ h => h) (fun oi h => by cases h; exact Or.inl ⟨by rfl, fun w' hS' => by go_simp⟩) hHeld ?_
  try simp only [Act.put, List.setIfInBounds_toArray, List.set_cons_zero, List.set_cons_succ]
  refine one_d 9 (some 6) rfl (by kernel_rfl) ?_
  intro o ho1 hd
  cases ho1
  clear hd
  have lz : w.heap.size < w5.heap.size := hHeld.1.lt
  intro K hK
  go_simp
  refine hK.out _ _ ⟨hHeld.1.alloc _, hHeld.2.alloc hHeld.2.size _⟩ (fun hHeld => ?_)
  clear hK K
  try simp only [Act.put, List.setIfInBounds_toArray, List.set_cons_zero, List.set_cons_succ]
  have rp : Row (w5.alloc (.cells #[.int .i64 0, .int .i64 0, .int .i64 0, .int .i64 0, .slice none 0 0] 33 (0, 0))).drew w5.heap.size 33 [.int .i64 0, .int .i64 0, .int .i64 0, .int .i64 0, .slice none 0 0] := Row.new' rfl rfl
  generalize w5.heap.size = p at *
  generalize (w5.alloc (.cells #[.int .i64 0, .int .i64 0, .int .i64 0, .int .i64 0, .slice none 0 0] 33 (0, 0))).drew = v2 at *
  refine one_d 10 none rfl (by kernel_rfl) ?_
  intro o ho1 hd K hK
  cases ho1
  refine step_store_row rfl 33 (.tmp 6) (.tmp 27) rfl p [.int .i64 wd, .int .i64 ht, .int .i64 x, .int .i64 y, .slice none 0 0] rfl rfl _ _ rp infoRS rfl (by simp [Value.oneCell']) ?_
  rw [hd]
  have hz := hHeld.1.setRow_other (k := p) (by omega) (List.toArray [.int .i64 wd, .int .i64 ht, .int .i64 x, .int .i64 y, .slice none 0 0])
  have rp2 := rp.setRow [.int .i64 wd, .int .i64 ht, .int .i64 x, .int .i64 y, .slice none 0 0]
  have bl := below_row hHeld.2 (show w.heap.size ≤ p by omega) (List.toArray [.int .i64 wd, .int .i64 ht, .int .i64 x, .int .i64 y, .slice none 0 0])
  refine hK.out _ _ ⟨hz, bl⟩ (fun hHeld => ?_)
  clear hK K hd hHeld rp
  try simp only [Act.put]
  refine wpAnyH_done (by kernel_rfl) ?_ _
  try simp only [Act.put]
  have c2 := rp2.cell 2
  have c3 := rp2.cell 3
  simp only [List.getElem?_cons_zero, List.getElem?_cons_succ] at c2 c3
  generalize v2.setRow p (List.toArray [.int .i64 wd, .int .i64 ht, .int .i64 x, .int .i64 y, .slice none 0 0]) = w7 at *
  go_wp2_with (first | refine wpList_store_row rfl 33 (.tmp 2) (.tmp 63) rfl w.heap.size _ rfl rfl _ _ hz infoRS rfl (by simp [Value.oneCell']) ?_)
  exact bodyPost_ret (results_row_tmp rfl _ _ w.heap.size 33 [.int .i64 0, .int .i64 0, .int .i64 0, .int .i64 0, .slice none 0 0] _ rfl (hz.setRow [.int .i64 0, .int .i64 0, .int .i64 0, .int .i64 0, .slice none 0 0]) Try.underlying33 rfl infoRS) rfl ⟨rfl, below_row bl (Nat.le_refl _) _⟩

set_option maxHeartbeats 8000000 in
theorem refParse_noE (t : ByteArray) (h : 4 ≤ t.size) (hs : t.size ≤ 100000) (wd ht x y : Nat) (e0 : (t[0]'(by omega)).toNat = wd) (e1 : (t[1]'(by omega)).toNat = ht) (e2 : (t[2]'(by omega)).toNat = x) (e3 : (t[3]'(by omega)).toNat = y) (h1 : ¬ wd < 1) (h2 : ¬ 80 < wd) (h3 : ¬ ht < 1) (h4 : ¬ 24 < ht) (h5 : t.size ≠ 4 + wd * ht) (w : World) :
    Calls Try.prog 19 #[.string t] w fun e w' => e = .returned (.tuple #[.agg #[.int .i64 0, .int .i64 0, .int .i64 0, .int .i64 0, .slice none 0 0], .bool false]) ∧ Below w.heap.size w w' := by
  have l0 : wd < 256 := by rw [← e0]; exact UInt8.toNat_lt _
  have l1 : ht < 256 := by rw [← e1]; exact UInt8.toNat_lt _
  have l2 : x < 256 := by rw [← e2]; exact UInt8.toNat_lt _
  have l3 : y < 256 := by rw [← e3]; exact UInt8.toNat_lt _
  have g0 : ¬ (t.size : Int) < 4 := by omega
  have m0 : (0 : Nat) < t.size := by omega
  have m1 : 1 < t.size := by omega
  have m2 : 2 < t.size := by omega
  have m3 : 3 < t.size := by omega
  have i1 : (1 : Int) < (t.size : Int) := by omega
  have i2 : (2 : Int) < (t.size : Int) := by omega
  have i3 : (3 : Int) < (t.size : Int) := by omega
  have w0 : IntKind.i64.wrap (wd : Int) = (wd : Int) := by rw [IntKind.wrap_i64]; omega
  have w1 : IntKind.i64.wrap (ht : Int) = (ht : Int) := by rw [IntKind.wrap_i64]; omega
  have w2 : IntKind.i64.wrap (x : Int) = (x : Int) := by rw [IntKind.wrap_i64]; omega
  have w3 : IntKind.i64.wrap (y : Int) = (y : Int) := by rw [IntKind.wrap_i64]; omega
  have rz : Row (w.alloc (.cells #[.int .i64 0, .int .i64 0, .int .i64 0, .int .i64 0, .slice none 0 0] 33 (0, 0))) w.heap.size 33 [.int .i64 0, .int .i64 0, .int .i64 0, .int .i64 0, .slice none 0 0] := Row.new' rfl rfl
  have bz : Below w.heap.size w (w.alloc (.cells #[.int .i64 0, .int .i64 0, .int .i64 0, .int .i64 0, .slice none 0 0] 33 (0, 0))) := (Below.refl _ _).alloc (Nat.le_refl _) _
  have t1 : ¬ (wd : Int) < 1 := by omega
  have t2 : ¬ (80 : Int) < (wd : Int) := by omega
  have t3 : ¬ (ht : Int) < 1 := by omega
  have t4 : ¬ (24 : Int) < (ht : Int) := by omega
  obtain ⟨n, hn⟩ : ∃ n, n = wd * ht := ⟨_, rfl⟩
  have hn19 : n ≤ 80 * 24 := by rw [hn]; exact Nat.mul_le_mul (by omega) (by omega)
  obtain ⟨n4, hn4⟩ : ∃ n4, n4 = 4 + n := ⟨_, rfl⟩
  have em : (wd : Int) * (ht : Int) = (n : Int) := by rw [hn]; simp
  have wm : IntKind.i64.wrap (n : Int) = (n : Int) := by rw [IntKind.wrap_i64]; omega
  have em4 : (4 : Int) + (n : Int) = (n4 : Int) := by omega
  have wm4 : IntKind.i64.wrap (n4 : Int) = (n4 : Int) := by rw [IntKind.wrap_i64]; omega
  rw [← hn] at h5
  have t5 : ((t.size : Int) != (n4 : Int)) = true := by rw [bne_iff_ne]; omega
  clear hn hn4
  go_enter Try.func19, Try.ntmps19
  go_wp2
  generalize w.alloc (.cells #[.int .i64 0, .int .i64 0, .int .i64 0, .int .i64 0, .slice none 0 0] 33 (0, 0)) = w4 at *
  refine wp_region_held_drew (S := fun w' => Row w' w.heap.size 33 [.int .i64 0, .int .i64 0, .int .i64 0, .int .i64 0, .slice none 0 0] ∧ Below w.heap.size w w') (by kernel_rfl) (⟨rz.drew, bz.drew⟩) (fun hHeld => ?_)
  refine take_d 0 (some 13) (.string t) rfl (by kernel_rfl) (by kernel_rfl) (by kernel_rfl) (fun _ _ _ h => h) (fun oi h => by cases h; exact Or.inl ⟨by rfl, fun w' hS' => by go_simp⟩) hHeld ?_
  try simp only [Act.put, List.setIfInBounds_toArray, List.set_cons_zero, List.set_cons_succ]
  refine take_d 1 (some 14) (.int .u8 (wd : Int)) rfl (by kernel_rfl) (by kernel_rfl) (by kernel_rfl) (fun _ _ _ h => h) (fun oi h => by cases h; exact Or.inl ⟨by rfl, fun w' hS' => by go_simp⟩) hHeld ?_
  try simp only [Act.put, List.setIfInBounds_toArray, List.set_cons_zero, List.set_cons_succ]
  refine take_d 2 (some 15) (.int .i64 (wd : Int)) rfl (by kernel_rfl) (by kernel_rfl) (by kernel_rfl) (fun _ _ _ h => h) (fun oi h => by cases h; exact Or.inl ⟨by rfl, fun w' hS' => by go_simp⟩) hHeld ?_
  try simp only [Act.put, List.setIfInBounds_toArray, List.set_cons_zero, List.set_cons_succ]
  refine take_d 3 (some 16) (.string t) rfl (by kernel_rfl) (by kernel_rfl) (by kernel_rfl) (fun _ _ _ h => h) (fun oi h => by cases h; exact Or.inl ⟨by rfl, fun w' hS' => by go_simp⟩) hHeld ?_
  try simp only [Act.put, List.setIfInBounds_toArray, List.set_cons_zero, List.set_cons_succ]
  refine take_d 4 (some 17) (.int .u8 (ht : Int)) rfl (by kernel_rfl) (by kernel_rfl) (by kernel_rfl) (fun _ _ _ h => h) (fun oi h => by cases h; exact Or.inl ⟨by rfl, fun w' hS' => by go_simp⟩) hHeld ?_
  try simp only [Act.put, List.setIfInBounds_toArray, List.set_cons_zero, List.set_cons_succ]
  refine take_d 5 (some 18) (.int .i64 (ht : Int)) rfl (by kernel_rfl) (by kernel_rfl) (by kernel_rfl) (fun _ _ _ h => h) (fun oi h => by cases h; exact Or.inl ⟨by rfl, fun w' hS' => by go_simp⟩) hHeld ?_
  try simp only [Act.put, List.setIfInBounds_toArray, List.set_cons_zero, List.set_cons_succ]
  refine take_d 6 (some 4) (.int .i64 (wd : Int)) rfl (by kernel_rfl) (by kernel_rfl) (by kernel_rfl) (fun _ _ _ h => h) (fun oi h => by cases h; exact Or.inl ⟨by rfl, fun w' hS' => by go_simp⟩) hHeld ?_
  try simp only [Act.put, List.setIfInBounds_toArray, List.set_cons_zero, List.set_cons_succ]
  refine take_d 7 (some 5) (.int .i64 (ht : Int)) rfl (by kernel_rfl) (by kernel_rfl) (by kernel_rfl) (fun _ _ _ h => h) (fun oi h => by cases h; exact Or.inl ⟨by rfl, fun w' hS' => by go_simp⟩) hHeld ?_
  try simp only [Act.put, List.setIfInBounds_toArray, List.set_cons_zero, List.set_cons_succ]
  refine wpAnyH_done (by kernel_rfl) ?_ _
  try simp only [Act.put]
  have rz := hHeld.1
  have bz := hHeld.2
  go_wp2
  generalize w4.drew = w5 at *
  refine wp_region_held_drew (S := fun w' => Row w' w.heap.size 33 [.int .i64 0, .int .i64 0, .int .i64 0, .int .i64 0, .slice none 0 0] ∧ Below w.heap.size w w') (by kernel_rfl) (⟨rz.drew, bz.drew⟩) (fun hHeld => ?_)
  refine take_d 0 (some 19) (.int .i64 wd) rfl (by kernel_rfl) (by kernel_rfl) (by kernel_rfl) (fun _ _ _ h => h) (fun oi h => by cases h; exact Or.inl ⟨by rfl, fun w' hS' => by go_simp⟩) hHeld ?_
  try simp only [Act.put, List.setIfInBounds_toArray, List.set_cons_zero, List.set_cons_succ]
  refine take_d 1 (some 20) (.int .i64 ht) rfl (by kernel_rfl) (by kernel_rfl) (by kernel_rfl) (fun _ _ _ h => h) (fun oi h => by cases h; exact Or.inl ⟨by rfl, fun w' hS' => by go_simp⟩) hHeld ?_
  try simp only [Act.put, List.setIfInBounds_toArray, List.set_cons_zero, List.set_cons_succ]
  refine take_d 2 (some 21) (.string t) rfl (by kernel_rfl) (by kernel_rfl) (by kernel_rfl) (fun _ _ _ h => h) (fun oi h => by cases h; exact Or.inl ⟨by rfl, fun w' hS' => by go_simp⟩) hHeld ?_
  try simp only [Act.put, List.setIfInBounds_toArray, List.set_cons_zero, List.set_cons_succ]
  refine take_d 3 (some 22) (.int .u8 (x : Int)) rfl (by kernel_rfl) (by kernel_rfl) (by kernel_rfl) (fun _ _ _ h => h) (fun oi h => by cases h; exact Or.inl ⟨by rfl, fun w' hS' => by go_simp⟩) hHeld ?_
  try simp only [Act.put, List.setIfInBounds_toArray, List.set_cons_zero, List.set_cons_succ]
  refine take_d 4 (some 23) (.int .i64 (x : Int)) rfl (by kernel_rfl) (by kernel_rfl) (by kernel_rfl) (fun _ _ _ h => h) (fun oi h => by cases h; exact Or.inl ⟨by rfl, fun w' hS' => by go_simp⟩) hHeld ?_
  try simp only [Act.put, List.setIfInBounds_toArray, List.set_cons_zero, List.set_cons_succ]
  refine take_d 5 (some 24) (.string t) rfl (by kernel_rfl) (by kernel_rfl) (by kernel_rfl) (fun _ _ _ h => h) (fun oi h => by cases h; exact Or.inl ⟨by rfl, fun w' hS' => by go_simp⟩) hHeld ?_
  try simp only [Act.put, List.setIfInBounds_toArray, List.set_cons_zero, List.set_cons_succ]
  refine take_d 6 (some 25) (.int .u8 (y : Int)) rfl (by kernel_rfl) (by kernel_rfl) (by kernel_rfl) (fun _ _ _ h => h) (fun oi h => by cases h; exact Or.inl ⟨by rfl, fun w' hS' => by go_simp⟩) hHeld ?_
  try simp only [Act.put, List.setIfInBounds_toArray, List.set_cons_zero, List.set_cons_succ]
  refine take_d 7 (some 26) (.int .i64 (y : Int)) rfl (by kernel_rfl) (by kernel_rfl) (by kernel_rfl) (fun _ _ _ h => h) (fun oi h => by cases h; exact Or.inl ⟨by rfl, fun w' hS' => by go_simp⟩) hHeld ?_
  try simp only [Act.put, List.setIfInBounds_toArray, List.set_cons_zero, List.set_cons_succ]
  refine take_d 8 (some 27) (.agg #[.int .i64 wd, .int .i64 ht, .int .i64 x, .int .i64 y, .slice none 0 0]) rfl (by kernel_rfl) (by kernel_rfl) (by kernel_rfl) (fun _ _ _ h => h) (fun oi h => by cases h; exact Or.inl ⟨by rfl, fun w' hS' => by go_simp⟩) hHeld ?_
  try simp only [Act.put, List.setIfInBounds_toArray, List.set_cons_zero, List.set_cons_succ]
  refine one_d 9 (some 6) rfl (by kernel_rfl) ?_
  intro o ho1 hd
  cases ho1
  clear hd
  have lz : w.heap.size < w5.heap.size := hHeld.1.lt
  intro K hK
  go_simp
  refine hK.out _ _ ⟨hHeld.1.alloc _, hHeld.2.alloc hHeld.2.size _⟩ (fun hHeld => ?_)
  clear hK K
  try simp only [Act.put, List.setIfInBounds_toArray, List.set_cons_zero, List.set_cons_succ]
  have rp : Row (w5.alloc (.cells #[.int .i64 0, .int .i64 0, .int .i64 0, .int .i64 0, .slice none 0 0] 33 (0, 0))).drew w5.heap.size 33 [.int .i64 0, .int .i64 0, .int .i64 0, .int .i64 0, .slice none 0 0] := Row.new' rfl rfl
  generalize w5.heap.size = p at *
  generalize (w5.alloc (.cells #[.int .i64 0, .int .i64 0, .int .i64 0, .int .i64 0, .slice none 0 0] 33 (0, 0))).drew = v2 at *
  refine one_d 10 none rfl (by kernel_rfl) ?_
  intro o ho1 hd K hK
  cases ho1
  refine step_store_row rfl 33 (.tmp 6) (.tmp 27) rfl p [.int .i64 wd, .int .i64 ht, .int .i64 x, .int .i64 y, .slice none 0 0] rfl rfl _ _ rp infoRS rfl (by simp [Value.oneCell']) ?_
  rw [hd]
  have hz := hHeld.1.setRow_other (k := p) (by omega) (List.toArray [.int .i64 wd, .int .i64 ht, .int .i64 x, .int .i64 y, .slice none 0 0])
  have rp2 := rp.setRow [.int .i64 wd, .int .i64 ht, .int .i64 x, .int .i64 y, .slice none 0 0]
  have bl := below_row hHeld.2 (show w.heap.size ≤ p by omega) (List.toArray [.int .i64 wd, .int .i64 ht, .int .i64 x, .int .i64 y, .slice none 0 0])
  refine hK.out _ _ ⟨hz, bl⟩ (fun hHeld => ?_)
  clear hK K hd hHeld rp
  try simp only [Act.put]
  refine wpAnyH_done (by kernel_rfl) ?_ _
  try simp only [Act.put]
  have c2 := rp2.cell 2
  have c3 := rp2.cell 3
  simp only [List.getElem?_cons_zero, List.getElem?_cons_succ] at c2 c3
  generalize v2.setRow p (List.toArray [.int .i64 wd, .int .i64 ht, .int .i64 x, .int .i64 y, .slice none 0 0]) = w7 at *
  go_wp2_with (first | refine wpList_store_row rfl 33 (.tmp 2) (.tmp 63) rfl w.heap.size _ rfl rfl _ _ hz infoRS rfl (by simp [Value.oneCell']) ?_)
  exact bodyPost_ret (results_row_tmp rfl _ _ w.heap.size 33 [.int .i64 0, .int .i64 0, .int .i64 0, .int .i64 0, .slice none 0 0] _ rfl (hz.setRow [.int .i64 0, .int .i64 0, .int .i64 0, .int .i64 0, .slice none 0 0]) Try.underlying33 rfl infoRS) rfl ⟨rfl, below_row bl (Nat.le_refl _) _⟩

set_option maxHeartbeats 8000000 in
theorem refParse_noF (t : ByteArray) (h : 4 ≤ t.size) (hs : t.size ≤ 100000) (wd ht x y : Nat) (e0 : (t[0]'(by omega)).toNat = wd) (e1 : (t[1]'(by omega)).toNat = ht) (e2 : (t[2]'(by omega)).toNat = x) (e3 : (t[3]'(by omega)).toNat = y) (h1 : ¬ wd < 1) (h2 : ¬ 80 < wd) (h3 : ¬ ht < 1) (h4 : ¬ 24 < ht) (h5 : t.size = 4 + wd * ht) (h6 : wd ≤ x) (w : World) :
    Calls Try.prog 19 #[.string t] w fun e w' => e = .returned (.tuple #[.agg #[.int .i64 0, .int .i64 0, .int .i64 0, .int .i64 0, .slice none 0 0], .bool false]) ∧ Below w.heap.size w w' := by
  have l0 : wd < 256 := by rw [← e0]; exact UInt8.toNat_lt _
  have l1 : ht < 256 := by rw [← e1]; exact UInt8.toNat_lt _
  have l2 : x < 256 := by rw [← e2]; exact UInt8.toNat_lt _
  have l3 : y < 256 := by rw [← e3]; exact UInt8.toNat_lt _
  have g0 : ¬ (t.size : Int) < 4 := by omega
  have m0 : (0 : Nat) < t.size := by omega
  have m1 : 1 < t.size := by omega
  have m2 : 2 < t.size := by omega
  have m3 : 3 < t.size := by omega
  have i1 : (1 : Int) < (t.size : Int) := by omega
  have i2 : (2 : Int) < (t.size : Int) := by omega
  have i3 : (3 : Int) < (t.size : Int) := by omega
  have w0 : IntKind.i64.wrap (wd : Int) = (wd : Int) := by rw [IntKind.wrap_i64]; omega
  have w1 : IntKind.i64.wrap (ht : Int) = (ht : Int) := by rw [IntKind.wrap_i64]; omega
  have w2 : IntKind.i64.wrap (x : Int) = (x : Int) := by rw [IntKind.wrap_i64]; omega
  have w3 : IntKind.i64.wrap (y : Int) = (y : Int) := by rw [IntKind.wrap_i64]; omega
  have rz : Row (w.alloc (.cells #[.int .i64 0, .int .i64 0, .int .i64 0, .int .i64 0, .slice none 0 0] 33 (0, 0))) w.heap.size 33 [.int .i64 0, .int .i64 0, .int .i64 0, .int .i64 0, .slice none 0 0] := Row.new' rfl rfl
  have bz : Below w.heap.size w (w.alloc (.cells #[.int .i64 0, .int .i64 0, .int .i64 0, .int .i64 0, .slice none 0 0] 33 (0, 0))) := (Below.refl _ _).alloc (Nat.le_refl _) _
  have t1 : ¬ (wd : Int) < 1 := by omega
  have t2 : ¬ (80 : Int) < (wd : Int) := by omega
  have t3 : ¬ (ht : Int) < 1 := by omega
  have t4 : ¬ (24 : Int) < (ht : Int) := by omega
  obtain ⟨n, hn⟩ : ∃ n, n = wd * ht := ⟨_, rfl⟩
  have hn19 : n ≤ 80 * 24 := by rw [hn]; exact Nat.mul_le_mul (by omega) (by omega)
  obtain ⟨n4, hn4⟩ : ∃ n4, n4 = 4 + n := ⟨_, rfl⟩
  have em : (wd : Int) * (ht : Int) = (n : Int) := by rw [hn]; simp
  have wm : IntKind.i64.wrap (n : Int) = (n : Int) := by rw [IntKind.wrap_i64]; omega
  have em4 : (4 : Int) + (n : Int) = (n4 : Int) := by omega
  have wm4 : IntKind.i64.wrap (n4 : Int) = (n4 : Int) := by rw [IntKind.wrap_i64]; omega
  rw [← hn] at h5
  have t5 : ((t.size : Int) != (n4 : Int)) = false := by rw [bne_eq_false_iff_eq]; omega
  have t6 : (wd : Int) ≤ (x : Int) := by omega
  clear hn hn4 h5
  go_enter Try.func19, Try.ntmps19
  go_wp2
  generalize w.alloc (.cells #[.int .i64 0, .int .i64 0, .int .i64 0, .int .i64 0, .slice none 0 0] 33 (0, 0)) = w4 at *
  refine wp_region_held_drew (S := fun w' => Row w' w.heap.size 33 [.int .i64 0, .int .i64 0, .int .i64 0, .int .i64 0, .slice none 0 0] ∧ Below w.heap.size w w') (by kernel_rfl) (⟨rz.drew, bz.drew⟩) (fun hHeld => ?_)
  refine take_d 0 (some 13) (.string t) rfl (by kernel_rfl) (by kernel_rfl) (by kernel_rfl) (fun _ _ _ h => h) (fun oi h => by cases h; exact Or.inl ⟨by rfl, fun w' hS' => by go_simp⟩) hHeld ?_
  try simp only [Act.put, List.setIfInBounds_toArray, List.set_cons_zero, List.set_cons_succ]
  refine take_d 1 (some 14) (.int .u8 (wd : Int)) rfl (by kernel_rfl) (by kernel_rfl) (by kernel_rfl) (fun _ _ _ h => h) (fun oi h => by cases h; exact Or.inl ⟨by rfl, fun w' hS' => by go_simp⟩) hHeld ?_
  try simp only [Act.put, List.setIfInBounds_toArray, List.set_cons_zero, List.set_cons_succ]
  refine take_d 2 (some 15) (.int .i64 (wd : Int)) rfl (by kernel_rfl) (by kernel_rfl) (by kernel_rfl) (fun _ _ _ h => h) (fun oi h => by cases h; exact Or.inl ⟨by rfl, fun w' hS' => by go_simp⟩) hHeld ?_
  try simp only [Act.put, List.setIfInBounds_toArray, List.set_cons_zero, List.set_cons_succ]
  refine take_d 3 (some 16) (.string t) rfl (by kernel_rfl) (by kernel_rfl) (by kernel_rfl) (fun _ _ _ h => h) (fun oi h => by cases h; exact Or.inl ⟨by rfl, fun w' hS' => by go_simp⟩) hHeld ?_
  try simp only [Act.put, List.setIfInBounds_toArray, List.set_cons_zero, List.set_cons_succ]
  refine take_d 4 (some 17) (.int .u8 (ht : Int)) rfl (by kernel_rfl) (by kernel_rfl) (by kernel_rfl) (fun _ _ _ h => h) (fun oi h => by cases h; exact Or.inl ⟨by rfl, fun w' hS' => by go_simp⟩) hHeld ?_
  try simp only [Act.put, List.setIfInBounds_toArray, List.set_cons_zero, List.set_cons_succ]
  refine take_d 5 (some 18) (.int .i64 (ht : Int)) rfl (by kernel_rfl) (by kernel_rfl) (by kernel_rfl) (fun _ _ _ h => h) (fun oi h => by cases h; exact Or.inl ⟨by rfl, fun w' hS' => by go_simp⟩) hHeld ?_
  try simp only [Act.put, List.setIfInBounds_toArray, List.set_cons_zero, List.set_cons_succ]
  refine take_d 6 (some 4) (.int .i64 (wd : Int)) rfl (by kernel_rfl) (by kernel_rfl) (by kernel_rfl) (fun _ _ _ h => h) (fun oi h => by cases h; exact Or.inl ⟨by rfl, fun w' hS' => by go_simp⟩) hHeld ?_
  try simp only [Act.put, List.setIfInBounds_toArray, List.set_cons_zero, List.set_cons_succ]
  refine take_d 7 (some 5) (.int .i64 (ht : Int)) rfl (by kernel_rfl) (by kernel_rfl) (by kernel_rfl) (fun _ _ _ h => h) (fun oi h => by cases h; exact Or.inl ⟨by rfl, fun w' hS' => by go_simp⟩) hHeld ?_
  try simp only [Act.put, List.setIfInBounds_toArray, List.set_cons_zero, List.set_cons_succ]
  refine wpAnyH_done (by kernel_rfl) ?_ _
  try simp only [Act.put]
  have rz := hHeld.1
  have bz := hHeld.2
  go_wp2
  generalize w4.drew = w5 at *
  refine wp_region_held_drew (S := fun w' => Row w' w.heap.size 33 [.int .i64 0, .int .i64 0, .int .i64 0, .int .i64 0, .slice none 0 0] ∧ Below w.heap.size w w') (by kernel_rfl) (⟨rz.drew, bz.drew⟩) (fun hHeld => ?_)
  refine take_d 0 (some 19) (.int .i64 wd) rfl (by kernel_rfl) (by kernel_rfl) (by kernel_rfl) (fun _ _ _ h => h) (fun oi h => by cases h; exact Or.inl ⟨by rfl, fun w' hS' => by go_simp⟩) hHeld ?_
  try simp only [Act.put, List.setIfInBounds_toArray, List.set_cons_zero, List.set_cons_succ]
  refine take_d 1 (some 20) (.int .i64 ht) rfl (by kernel_rfl) (by kernel_rfl) (by kernel_rfl) (fun _ _ _ h => h) (fun oi h => by cases h; exact Or.inl ⟨by rfl, fun w' hS' => by go_simp⟩) hHeld ?_
  try simp only [Act.put, List.setIfInBounds_toArray, List.set_cons_zero, List.set_cons_succ]
  refine take_d 2 (some 21) (.string t) rfl (by kernel_rfl) (by kernel_rfl) (by kernel_rfl) (fun _ _ _ h => h) (fun oi h => by cases h; exact Or.inl ⟨by rfl, fun w' hS' => by go_simp⟩) hHeld ?_
  try simp only [Act.put, List.setIfInBounds_toArray, List.set_cons_zero, List.set_cons_succ]
  refine take_d 3 (some 22) (.int .u8 (x : Int)) rfl (by kernel_rfl) (by kernel_rfl) (by kernel_rfl) (fun _ _ _ h => h) (fun oi h => by cases h; exact Or.inl ⟨by rfl, fun w' hS' => by go_simp⟩) hHeld ?_
  try simp only [Act.put, List.setIfInBounds_toArray, List.set_cons_zero, List.set_cons_succ]
  refine take_d 4 (some 23) (.int .i64 (x : Int)) rfl (by kernel_rfl) (by kernel_rfl) (by kernel_rfl) (fun _ _ _ h => h) (fun oi h => by cases h; exact Or.inl ⟨by rfl, fun w' hS' => by go_simp⟩) hHeld ?_
  try simp only [Act.put, List.setIfInBounds_toArray, List.set_cons_zero, List.set_cons_succ]
  refine take_d 5 (some 24) (.string t) rfl (by kernel_rfl) (by kernel_rfl) (by kernel_rfl) (fun _ _ _ h => h) (fun oi h => by cases h; exact Or.inl ⟨by rfl, fun w' hS' => by go_simp⟩) hHeld ?_
  try simp only [Act.put, List.setIfInBounds_toArray, List.set_cons_zero, List.set_cons_succ]
  refine take_d 6 (some 25) (.int .u8 (y : Int)) rfl (by kernel_rfl) (by kernel_rfl) (by kernel_rfl) (fun _ _ _ h => h) (fun oi h => by cases h; exact Or.inl ⟨by rfl, fun w' hS' => by go_simp⟩) hHeld ?_
  try simp only [Act.put, List.setIfInBounds_toArray, List.set_cons_zero, List.set_cons_succ]
  refine take_d 7 (some 26) (.int .i64 (y : Int)) rfl (by kernel_rfl) (by kernel_rfl) (by kernel_rfl) (fun _ _ _ h => h) (fun oi h => by cases h; exact Or.inl ⟨by rfl, fun w' hS' => by go_simp⟩) hHeld ?_
  try simp only [Act.put, List.setIfInBounds_toArray, List.set_cons_zero, List.set_cons_succ]
  refine take_d 8 (some 27) (.agg #[.int .i64 wd, .int .i64 ht, .int .i64 x, .int .i64 y, .slice none 0 0]) rfl (by kernel_rfl) (by kernel_rfl) (by kernel_rfl) (fun _ _ _ h => h) (fun oi h => by cases h; exact Or.inl ⟨by rfl, fun w' hS' => by go_simp⟩) hHeld ?_
  try simp only [Act.put, List.setIfInBounds_toArray, List.set_cons_zero, List.set_cons_succ]
  refine one_d 9 (some 6) rfl (by kernel_rfl) ?_
  intro o ho1 hd
  cases ho1
  clear hd
  have lz : w.heap.size < w5.heap.size := hHeld.1.lt
  intro K hK
  go_simp
  refine hK.out _ _ ⟨hHeld.1.alloc _, hHeld.2.alloc hHeld.2.size _⟩ (fun hHeld => ?_)
  clear hK K
  try simp only [Act.put, List.setIfInBounds_toArray, List.set_cons_zero, List.set_cons_succ]
  have rp : Row (w5.alloc (.cells #[.int .i64 0, .int .i64 0, .int .i64 0, .int .i64 0, .slice none 0 0] 33 (0, 0))).drew w5.heap.size 33 [.int .i64 0, .int .i64 0, .int .i64 0, .int .i64 0, .slice none 0 0] := Row.new' rfl rfl
  generalize w5.heap.size = p at *
  generalize (w5.alloc (.cells #[.int .i64 0, .int .i64 0, .int .i64 0, .int .i64 0, .slice none 0 0] 33 (0, 0))).drew = v2 at *
  refine one_d 10 none rfl (by kernel_rfl) ?_
  intro o ho1 hd K hK
  cases ho1
  refine step_store_row rfl 33 (.tmp 6) (.tmp 27) rfl p [.int .i64 wd, .int .i64 ht, .int .i64 x, .int .i64 y, .slice none 0 0] rfl rfl _ _ rp infoRS rfl (by simp [Value.oneCell']) ?_
  rw [hd]
  have hz := hHeld.1.setRow_other (k := p) (by omega) (List.toArray [.int .i64 wd, .int .i64 ht, .int .i64 x, .int .i64 y, .slice none 0 0])
  have rp2 := rp.setRow [.int .i64 wd, .int .i64 ht, .int .i64 x, .int .i64 y, .slice none 0 0]
  have bl := below_row hHeld.2 (show w.heap.size ≤ p by omega) (List.toArray [.int .i64 wd, .int .i64 ht, .int .i64 x, .int .i64 y, .slice none 0 0])
  refine hK.out _ _ ⟨hz, bl⟩ (fun hHeld => ?_)
  clear hK K hd hHeld rp
  try simp only [Act.put]
  refine wpAnyH_done (by kernel_rfl) ?_ _
  try simp only [Act.put]
  have c2 := rp2.cell 2
  have c3 := rp2.cell 3
  simp only [List.getElem?_cons_zero, List.getElem?_cons_succ] at c2 c3
  generalize v2.setRow p (List.toArray [.int .i64 wd, .int .i64 ht, .int .i64 x, .int .i64 y, .slice none 0 0]) = w7 at *
  go_wp2_with (first | refine wpList_store_row rfl 33 (.tmp 2) (.tmp 63) rfl w.heap.size _ rfl rfl _ _ hz infoRS rfl (by simp [Value.oneCell']) ?_)
  exact bodyPost_ret (results_row_tmp rfl _ _ w.heap.size 33 [.int .i64 0, .int .i64 0, .int .i64 0, .int .i64 0, .slice none 0 0] _ rfl (hz.setRow [.int .i64 0, .int .i64 0, .int .i64 0, .int .i64 0, .slice none 0 0]) Try.underlying33 rfl infoRS) rfl ⟨rfl, below_row bl (Nat.le_refl _) _⟩

set_option maxHeartbeats 8000000 in
theorem refParse_noG (t : ByteArray) (h : 4 ≤ t.size) (hs : t.size ≤ 100000) (wd ht x y : Nat) (e0 : (t[0]'(by omega)).toNat = wd) (e1 : (t[1]'(by omega)).toNat = ht) (e2 : (t[2]'(by omega)).toNat = x) (e3 : (t[3]'(by omega)).toNat = y) (h1 : ¬ wd < 1) (h2 : ¬ 80 < wd) (h3 : ¬ ht < 1) (h4 : ¬ 24 < ht) (h5 : t.size = 4 + wd * ht) (h6 : ¬ wd ≤ x) (h7 : ht ≤ y) (w : World) :
    Calls Try.prog 19 #[.string t] w fun e w' => e = .returned (.tuple #[.agg #[.int .i64 0, .int .i64 0, .int .i64 0, .int .i64 0, .slice none 0 0], .bool false]) ∧ Below w.heap.size w w' := by
  have l0 : wd < 256 := by rw [← e0]; exact UInt8.toNat_lt _
  have l1 : ht < 256 := by rw [← e1]; exact UInt8.toNat_lt _
  have l2 : x < 256 := by rw [← e2]; exact UInt8.toNat_lt _
  have l3 : y < 256 := by rw [← e3]; exact UInt8.toNat_lt _
  have g0 : ¬ (t.size : Int) < 4 := by omega
  have m0 : (0 : Nat) < t.size := by omega
  have m1 : 1 < t.size := by omega
  have m2 : 2 < t.size := by omega
  have m3 : 3 < t.size := by omega
  have i1 : (1 : Int) < (t.size : Int) := by omega
  have i2 : (2 : Int) < (t.size : Int) := by omega
  have i3 : (3 : Int) < (t.size : Int) := by omega
  have w0 : IntKind.i64.wrap (wd : Int) = (wd : Int) := by rw [IntKind.wrap_i64]; omega
  have w1 : IntKind.i64.wrap (ht : Int) = (ht : Int) := by rw [IntKind.wrap_i64]; omega
  have w2 : IntKind.i64.wrap (x : Int) = (x : Int) := by rw [IntKind.wrap_i64]; omega
  have w3 : IntKind.i64.wrap (y : Int) = (y : Int) := by rw [IntKind.wrap_i64]; omega
  have rz : Row (w.alloc (.cells #[.int .i64 0, .int .i64 0, .int .i64 0, .int .i64 0, .slice none 0 0] 33 (0, 0))) w.heap.size 33 [.int .i64 0, .int .i64 0, .int .i64 0, .int .i64 0, .slice none 0 0] := Row.new' rfl rfl
  have bz : Below w.heap.size w (w.alloc (.cells #[.int .i64 0, .int .i64 0, .int .i64 0, .int .i64 0, .slice none 0 0] 33 (0, 0))) := (Below.refl _ _).alloc (Nat.le_refl _) _
  have t1 : ¬ (wd : Int) < 1 := by omega
  have t2 : ¬ (80 : Int) < (wd : Int) := by omega
  have t3 : ¬ (ht : Int) < 1 := by omega
  have t4 : ¬ (24 : Int) < (ht : Int) := by omega
  obtain ⟨n, hn⟩ : ∃ n, n = wd * ht := ⟨_, rfl⟩
  have hn19 : n ≤ 80 * 24 := by rw [hn]; exact Nat.mul_le_mul (by omega) (by omega)
  obtain ⟨n4, hn4⟩ : ∃ n4, n4 = 4 + n := ⟨_, rfl⟩
  have em : (wd : Int) * (ht : Int) = (n : Int) := by rw [hn]; simp
  have wm : IntKind.i64.wrap (n : Int) = (n : Int) := by rw [IntKind.wrap_i64]; omega
  have em4 : (4 : Int) + (n : Int) = (n4 : Int) := by omega
  have wm4 : IntKind.i64.wrap (n4 : Int) = (n4 : Int) := by rw [IntKind.wrap_i64]; omega
  rw [← hn] at h5
  have t5 : ((t.size : Int) != (n4 : Int)) = false := by rw [bne_eq_false_iff_eq]; omega
  have t6 : ¬ (wd : Int) ≤ (x : Int) := by omega
  have t7 : (ht : Int) ≤ (y : Int) := by omega
  clear hn hn4 h5
  go_enter Try.func19, Try.ntmps19
  go_wp2
  generalize w.alloc (.cells #[.int .i64 0, .int .i64 0, .int .i64 0, .int .i64 0, .slice none 0 0] 33 (0, 0)) = w4 at *
  refine wp_region_held_drew (S := fun w' => Row w' w.heap.size 33 [.int .i64 0, .int .i64 0, .int .i64 0, .int .i64 0, .slice none 0 0] ∧ Below w.heap.size w w') (by kernel_rfl) (⟨rz.drew, bz.drew⟩) (fun hHeld => ?_)
  refine take_d 0 (some 13) (.string t) rfl (by kernel_rfl) (by kernel_rfl) (by kernel_rfl) (fun _ _ _ h => h) (fun oi h => by cases h; exact Or.inl ⟨by rfl, fun w' hS' => by go_simp⟩) hHeld ?_
  try simp only [Act.put, List.setIfInBounds_toArray, List.set_cons_zero, List.set_cons_succ]
  refine take_d 1 (some 14) (.int .u8 (wd : Int)) rfl (by kernel_rfl) (by kernel_rfl) (by kernel_rfl) (fun _ _ _ h => h) (fun oi h => by cases h; exact Or.inl ⟨by rfl, fun w' hS' => by go_simp⟩) hHeld ?_
  try simp only [Act.put, List.setIfInBounds_toArray, List.set_cons_zero, List.set_cons_succ]
  refine take_d 2 (some 15) (.int .i64 (wd : Int)) rfl (by kernel_rfl) (by kernel_rfl) (by kernel_rfl) (fun _ _ _ h => h) (fun oi h => by cases h; exact Or.inl ⟨by rfl, fun w' hS' => by go_simp⟩) hHeld ?_
  try simp only [Act.put, List.setIfInBounds_toArray, List.set_cons_zero, List.set_cons_succ]
  refine take_d 3 (some 16) (.string t) rfl (by kernel_rfl) (by kernel_rfl) (by kernel_rfl) (fun _ _ _ h => h) (fun oi h => by cases h; exact Or.inl ⟨by rfl, fun w' hS' => by go_simp⟩) hHeld ?_
  try simp only [Act.put, List.setIfInBounds_toArray, List.set_cons_zero, List.set_cons_succ]
  refine take_d 4 (some 17) (.int .u8 (ht : Int)) rfl (by kernel_rfl) (by kernel_rfl) (by kernel_rfl) (fun _ _ _ h => h) (fun oi h => by cases h; exact Or.inl ⟨by rfl, fun w' hS' => by go_simp⟩) hHeld ?_
  try simp only [Act.put, List.setIfInBounds_toArray, List.set_cons_zero, List.set_cons_succ]
  refine take_d 5 (some 18) (.int .i64 (ht : Int)) rfl (by kernel_rfl) (by kernel_rfl) (by kernel_rfl) (fun _ _ _ h => h) (fun oi h => by cases h; exact Or.inl ⟨by rfl, fun w' hS' => by go_simp⟩) hHeld ?_
  try simp only [Act.put, List.setIfInBounds_toArray, List.set_cons_zero, List.set_cons_succ]
  refine take_d 6 (some 4) (.int .i64 (wd : Int)) rfl (by kernel_rfl) (by kernel_rfl) (by kernel_rfl) (fun _ _ _ h => h) (fun oi h => by cases h; exact Or.inl ⟨by rfl, fun w' hS' => by go_simp⟩) hHeld ?_
  try simp only [Act.put, List.setIfInBounds_toArray, List.set_cons_zero, List.set_cons_succ]
  refine take_d 7 (some 5) (.int .i64 (ht : Int)) rfl (by kernel_rfl) (by kernel_rfl) (by kernel_rfl) (fun _ _ _ h => h) (fun oi h => by cases h; exact Or.inl ⟨by rfl, fun w' hS' => by go_simp⟩) hHeld ?_
  try simp only [Act.put, List.setIfInBounds_toArray, List.set_cons_zero, List.set_cons_succ]
  refine wpAnyH_done (by kernel_rfl) ?_ _
  try simp only [Act.put]
  have rz := hHeld.1
  have bz := hHeld.2
  go_wp2
  generalize w4.drew = w5 at *
  refine wp_region_held_drew (S := fun w' => Row w' w.heap.size 33 [.int .i64 0, .int .i64 0, .int .i64 0, .int .i64 0, .slice none 0 0] ∧ Below w.heap.size w w') (by kernel_rfl) (⟨rz.drew, bz.drew⟩) (fun hHeld => ?_)
  refine take_d 0 (some 19) (.int .i64 wd) rfl (by kernel_rfl) (by kernel_rfl) (by kernel_rfl) (fun _ _ _ h => h) (fun oi h => by cases h; exact Or.inl ⟨by rfl, fun w' hS' => by go_simp⟩) hHeld ?_
  try simp only [Act.put, List.setIfInBounds_toArray, List.set_cons_zero, List.set_cons_succ]
  refine take_d 1 (some 20) (.int .i64 ht) rfl (by kernel_rfl) (by kernel_rfl) (by kernel_rfl) (fun _ _ _ h => h) (fun oi h => by cases h; exact Or.inl ⟨by rfl, fun w' hS' => by go_simp⟩) hHeld ?_
  try simp only [Act.put, List.setIfInBounds_toArray, List.set_cons_zero, List.set_cons_succ]
  refine take_d 2 (some 21) (.string t) rfl (by kernel_rfl) (by kernel_rfl) (by kernel_rfl) (fun _ _ _ h => h) (fun oi h => by cases h; exact Or.inl ⟨by rfl, fun w' hS' => by go_simp⟩) hHeld ?_
  try simp only [Act.put, List.setIfInBounds_toArray, List.set_cons_zero, List.set_cons_succ]
  refine take_d 3 (some 22) (.int .u8 (x : Int)) rfl (by kernel_rfl) (by kernel_rfl) (by kernel_rfl) (fun _ _ _ h => h) (fun oi h => by cases h; exact Or.inl ⟨by rfl, fun w' hS' => by go_simp⟩) hHeld ?_
  try simp only [Act.put, List.setIfInBounds_toArray, List.set_cons_zero, List.set_cons_succ]
  refine take_d 4 (some 23) (.int .i64 (x : Int)) rfl (by kernel_rfl) (by kernel_rfl) (by kernel_rfl) (fun _ _ _ h => h) (fun oi h => by cases h; exact Or.inl ⟨by rfl, fun w' hS' => by go_simp⟩) hHeld ?_
  try simp only [Act.put, List.setIfInBounds_toArray, List.set_cons_zero, List.set_cons_succ]
  refine take_d 5 (some 24) (.string t) rfl (by kernel_rfl) (by kernel_rfl) (by kernel_rfl) (fun _ _ _ h => h) (fun oi h => by cases h; exact Or.inl ⟨by rfl, fun w' hS' => by go_simp⟩) hHeld ?_
  try simp only [Act.put, List.setIfInBounds_toArray, List.set_cons_zero, List.set_cons_succ]
  refine take_d 6 (some 25) (.int .u8 (y : Int)) rfl (by kernel_rfl) (by kernel_rfl) (by kernel_rfl) (fun _ _ _ h => h) (fun oi h => by cases h; exact Or.inl ⟨by rfl, fun w' hS' => by go_simp⟩) hHeld ?_
  try simp only [Act.put, List.setIfInBounds_toArray, List.set_cons_zero, List.set_cons_succ]
  refine take_d 7 (some 26) (.int .i64 (y : Int)) rfl (by kernel_rfl) (by kernel_rfl) (by kernel_rfl) (fun _ _ _ h => h) (fun oi h => by cases h; exact Or.inl ⟨by rfl, fun w' hS' => by go_simp⟩) hHeld ?_
  try simp only [Act.put, List.setIfInBounds_toArray, List.set_cons_zero, List.set_cons_succ]
  refine take_d 8 (some 27) (.agg #[.int .i64 wd, .int .i64 ht, .int .i64 x, .int .i64 y, .slice none 0 0]) rfl (by kernel_rfl) (by kernel_rfl) (by kernel_rfl) (fun _ _ _ h => h) (fun oi h => by cases h; exact Or.inl ⟨by rfl, fun w' hS' => by go_simp⟩) hHeld ?_
  try simp only [Act.put, List.setIfInBounds_toArray, List.set_cons_zero, List.set_cons_succ]
  refine one_d 9 (some 6) rfl (by kernel_rfl) ?_
  intro o ho1 hd
  cases ho1
  clear hd
  have lz : w.heap.size < w5.heap.size := hHeld.1.lt
  intro K hK
  go_simp
  refine hK.out _ _ ⟨hHeld.1.alloc _, hHeld.2.alloc hHeld.2.size _⟩ (fun hHeld => ?_)
  clear hK K
  try simp only [Act.put, List.setIfInBounds_toArray, List.set_cons_zero, List.set_cons_succ]
  have rp : Row (w5.alloc (.cells #[.int .i64 0, .int .i64 0, .int .i64 0, .int .i64 0, .slice none 0 0] 33 (0, 0))).drew w5.heap.size 33 [.int .i64 0, .int .i64 0, .int .i64 0, .int .i64 0, .slice none 0 0] := Row.new' rfl rfl
  generalize w5.heap.size = p at *
  generalize (w5.alloc (.cells #[.int .i64 0, .int .i64 0, .int .i64 0, .int .i64 0, .slice none 0 0] 33 (0, 0))).drew = v2 at *
  refine one_d 10 none rfl (by kernel_rfl) ?_
  intro o ho1 hd K hK
  cases ho1
  refine step_store_row rfl 33 (.tmp 6) (.tmp 27) rfl p [.int .i64 wd, .int .i64 ht, .int .i64 x, .int .i64 y, .slice none 0 0] rfl rfl _ _ rp infoRS rfl (by simp [Value.oneCell']) ?_
  rw [hd]
  have hz := hHeld.1.setRow_other (k := p) (by omega) (List.toArray [.int .i64 wd, .int .i64 ht, .int .i64 x, .int .i64 y, .slice none 0 0])
  have rp2 := rp.setRow [.int .i64 wd, .int .i64 ht, .int .i64 x, .int .i64 y, .slice none 0 0]
  have bl := below_row hHeld.2 (show w.heap.size ≤ p by omega) (List.toArray [.int .i64 wd, .int .i64 ht, .int .i64 x, .int .i64 y, .slice none 0 0])
  refine hK.out _ _ ⟨hz, bl⟩ (fun hHeld => ?_)
  clear hK K hd hHeld rp
  try simp only [Act.put]
  refine wpAnyH_done (by kernel_rfl) ?_ _
  try simp only [Act.put]
  have c2 := rp2.cell 2
  have c3 := rp2.cell 3
  simp only [List.getElem?_cons_zero, List.getElem?_cons_succ] at c2 c3
  generalize v2.setRow p (List.toArray [.int .i64 wd, .int .i64 ht, .int .i64 x, .int .i64 y, .slice none 0 0]) = w7 at *
  go_wp2_with (first | refine wpList_store_row rfl 33 (.tmp 2) (.tmp 63) rfl w.heap.size _ rfl rfl _ _ hz infoRS rfl (by simp [Value.oneCell']) ?_)
  exact bodyPost_ret (results_row_tmp rfl _ _ w.heap.size 33 [.int .i64 0, .int .i64 0, .int .i64 0, .int .i64 0, .slice none 0 0] _ rfl (hz.setRow [.int .i64 0, .int .i64 0, .int .i64 0, .int .i64 0, .slice none 0 0]) Try.underlying33 rfl infoRS) rfl ⟨rfl, below_row bl (Nat.le_refl _) _⟩

set_option maxHeartbeats 8000000 in
theorem refParse_noH (t : ByteArray) (h : 4 ≤ t.size) (hs : t.size ≤ 100000) (wd ht x y : Nat) (e0 : (t[0]'(by omega)).toNat = wd) (e1 : (t[1]'(by omega)).toNat = ht) (e2 : (t[2]'(by omega)).toNat = x) (e3 : (t[3]'(by omega)).toNat = y) (h1 : ¬ wd < 1) (h2 : ¬ 80 < wd) (h3 : ¬ ht < 1) (h4 : ¬ 24 < ht) (h5 : t.size = 4 + wd * ht) (h6 : ¬ wd ≤ x) (h7 : ¬ ht ≤ y) (h8 : (t.data.toList.drop 4).all N11.shown = false) (w : World) :
    Calls Try.prog 19 #[.string t] w fun e w' => e = .returned (.tuple #[.agg #[.int .i64 0, .int .i64 0, .int .i64 0, .int .i64 0, .slice none 0 0], .bool false]) ∧ Below w.heap.size w w' := by
  have l0 : wd < 256 := by rw [← e0]; exact UInt8.toNat_lt _
  have l1 : ht < 256 := by rw [← e1]; exact UInt8.toNat_lt _
  have l2 : x < 256 := by rw [← e2]; exact UInt8.toNat_lt _
  have l3 : y < 256 := by rw [← e3]; exact UInt8.toNat_lt _
  have g0 : ¬ (t.size : Int) < 4 := by omega
  have m0 : (0 : Nat) < t.size := by omega
  have m1 : 1 < t.size := by omega
  have m2 : 2 < t.size := by omega
  have m3 : 3 < t.size := by omega
  have i1 : (1 : Int) < (t.size : Int) := by omega
  have i2 : (2 : Int) < (t.size : Int) := by omega
  have i3 : (3 : Int) < (t.size : Int) := by omega
  have w0 : IntKind.i64.wrap (wd : Int) = (wd : Int) := by rw [IntKind.wrap_i64]; omega
  have w1 : IntKind.i64.wrap (ht : Int) = (ht : Int) := by rw [IntKind.wrap_i64]; omega
  have w2 : IntKind.i64.wrap (x : Int) = (x : Int) := by rw [IntKind.wrap_i64]; omega
  have w3 : IntKind.i64.wrap (y : Int) = (y : Int) := by rw [IntKind.wrap_i64]; omega
  have rz : Row (w.alloc (.cells #[.int .i64 0, .int .i64 0, .int .i64 0, .int .i64 0, .slice none 0 0] 33 (0, 0))) w.heap.size 33 [.int .i64 0, .int .i64 0, .int .i64 0, .int .i64 0, .slice none 0 0] := Row.new' rfl rfl
  have bz : Below w.heap.size w (w.alloc (.cells #[.int .i64 0, .int .i64 0, .int .i64 0, .int .i64 0, .slice none 0 0] 33 (0, 0))) := (Below.refl _ _).alloc (Nat.le_refl _) _
  have t1 : ¬ (wd : Int) < 1 := by omega
  have t2 : ¬ (80 : Int) < (wd : Int) := by omega
  have t3 : ¬ (ht : Int) < 1 := by omega
  have t4 : ¬ (24 : Int) < (ht : Int) := by omega
  obtain ⟨n, hn⟩ : ∃ n, n = wd * ht := ⟨_, rfl⟩
  have hn19 : n ≤ 80 * 24 := by rw [hn]; exact Nat.mul_le_mul (by omega) (by omega)
  obtain ⟨n4, hn4⟩ : ∃ n4, n4 = 4 + n := ⟨_, rfl⟩
  have em : (wd : Int) * (ht : Int) = (n : Int) := by rw [hn]; simp
  have wm : IntKind.i64.wrap (n : Int) = (n : Int) := by rw [IntKind.wrap_i64]; omega
  have em4 : (4 : Int) + (n : Int) = (n4 : Int) := by omega
  have wm4 : IntKind.i64.wrap (n4 : Int) = (n4 : Int) := by rw [IntKind.wrap_i64]; omega
  rw [← hn] at h5
  have t5 : ((t.size : Int) != (n4 : Int)) = false := by rw [bne_eq_false_iff_eq]; omega
  have t6 : ¬ (wd : Int) ≤ (x : Int) := by omega
  have t7 : ¬ (ht : Int) ≤ (y : Int) := by omega
  clear hn hn4 h5
  go_enter Try.func19, Try.ntmps19
  go_wp2
  generalize w.alloc (.cells #[.int .i64 0, .int .i64 0, .int .i64 0, .int .i64 0, .slice none 0 0] 33 (0, 0)) = w4 at *
  refine wp_region_held_drew (S := fun w' => Row w' w.heap.size 33 [.int .i64 0, .int .i64 0, .int .i64 0, .int .i64 0, .slice none 0 0] ∧ Below w.heap.size w w') (by kernel_rfl) (⟨rz.drew, bz.drew⟩) (fun hHeld => ?_)
  refine take_d 0 (some 13) (.string t) rfl (by kernel_rfl) (by kernel_rfl) (by kernel_rfl) (fun _ _ _ h => h) (fun oi h => by cases h; exact Or.inl ⟨by rfl, fun w' hS' => by go_simp⟩) hHeld ?_
  try simp only [Act.put, List.setIfInBounds_toArray, List.set_cons_zero, List.set_cons_succ]
  refine take_d 1 (some 14) (.int .u8 (wd : Int)) rfl (by kernel_rfl) (by kernel_rfl) (by kernel_rfl) (fun _ _ _ h => h) (fun oi h => by cases h; exact Or.inl ⟨by rfl, fun w' hS' => by go_simp⟩) hHeld ?_
  try simp only [Act.put, List.setIfInBounds_toArray, List.set_cons_zero, List.set_cons_succ]
  refine take_d 2 (some 15) (.int .i64 (wd : Int)) rfl (by kernel_rfl) (by kernel_rfl) (by kernel_rfl) (fun _ _ _ h => h) (fun oi h => by cases h; exact Or.inl ⟨by rfl, fun w' hS' => by go_simp⟩) hHeld ?_
  try simp only [Act.put, List.setIfInBounds_toArray, List.set_cons_zero, List.set_cons_succ]
  refine take_d 3 (some 16) (.string t) rfl (by kernel_rfl) (by kernel_rfl) (by kernel_rfl) (fun _ _ _ h => h) (fun oi h => by cases h; exact Or.inl ⟨by rfl, fun w' hS' => by go_simp⟩) hHeld ?_
  try simp only [Act.put, List.setIfInBounds_toArray, List.set_cons_zero, List.set_cons_succ]
  refine take_d 4 (some 17) (.int .u8 (ht : Int)) rfl (by kernel_rfl) (by kernel_rfl) (by kernel_rfl) (fun _ _ _ h => h) (fun oi h => by cases h; exact Or.inl ⟨by rfl, fun w' hS' => by go_simp⟩) hHeld ?_
  try simp only [Act.put, List.setIfInBounds_toArray, List.set_cons_zero, List.set_cons_succ]
  refine take_d 5 (some 18) (.int .i64 (ht : Int)) rfl (by kernel_rfl) (by kernel_rfl) (by kernel_rfl) (fun _ _ _ h => h) (fun oi h => by cases h; exact Or.inl ⟨by rfl, fun w' hS' => by go_simp⟩) hHeld ?_
  try simp only [Act.put, List.setIfInBounds_toArray, List.set_cons_zero, List.set_cons_succ]
  refine take_d 6 (some 4) (.int .i64 (wd : Int)) rfl (by kernel_rfl) (by kernel_rfl) (by kernel_rfl) (fun _ _ _ h => h) (fun oi h => by cases h; exact Or.inl ⟨by rfl, fun w' hS' => by go_simp⟩) hHeld ?_
  try simp only [Act.put, List.setIfInBounds_toArray, List.set_cons_zero, List.set_cons_succ]
  refine take_d 7 (some 5) (.int .i64 (ht : Int)) rfl (by kernel_rfl) (by kernel_rfl) (by kernel_rfl) (fun _ _ _ h => h) (fun oi h => by cases h; exact Or.inl ⟨by rfl, fun w' hS' => by go_simp⟩) hHeld ?_
  try simp only [Act.put, List.setIfInBounds_toArray, List.set_cons_zero, List.set_cons_succ]
  refine wpAnyH_done (by kernel_rfl) ?_ _
  try simp only [Act.put]
  have rz := hHeld.1
  have bz := hHeld.2
  go_wp2
  generalize w4.drew = w5 at *
  refine wp_region_held_drew (S := fun w' => Row w' w.heap.size 33 [.int .i64 0, .int .i64 0, .int .i64 0, .int .i64 0, .slice none 0 0] ∧ Below w.heap.size w w') (by kernel_rfl) (⟨rz.drew, bz.drew⟩) (fun hHeld => ?_)
  refine take_d 0 (some 19) (.int .i64 wd) rfl (by kernel_rfl) (by kernel_rfl) (by kernel_rfl) (fun _ _ _ h => h) (fun oi h => by cases h; exact Or.inl ⟨by rfl, fun w' hS' => by go_simp⟩) hHeld ?_
  try simp only [Act.put, List.setIfInBounds_toArray, List.set_cons_zero, List.set_cons_succ]
  refine take_d 1 (some 20) (.int .i64 ht) rfl (by kernel_rfl) (by kernel_rfl) (by kernel_rfl) (fun _ _ _ h => h) (fun oi h => by cases h; exact Or.inl ⟨by rfl, fun w' hS' => by go_simp⟩) hHeld ?_
  try simp only [Act.put, List.setIfInBounds_toArray, List.set_cons_zero, List.set_cons_succ]
  refine take_d 2 (some 21) (.string t) rfl (by kernel_rfl) (by kernel_rfl) (by kernel_rfl) (fun _ _ _ h => h) (fun oi h => by cases h; exact Or.inl ⟨by rfl, fun w' hS' => by go_simp⟩) hHeld ?_
  try simp only [Act.put, List.setIfInBounds_toArray, List.set_cons_zero, List.set_cons_succ]
  refine take_d 3 (some 22) (.int .u8 (x : Int)) rfl (by kernel_rfl) (by kernel_rfl) (by kernel_rfl) (fun _ _ _ h => h) (fun oi h => by cases h; exact Or.inl ⟨by rfl, fun w' hS' => by go_simp⟩) hHeld ?_
  try simp only [Act.put, List.setIfInBounds_toArray, List.set_cons_zero, List.set_cons_succ]
  refine take_d 4 (some 23) (.int .i64 (x : Int)) rfl (by kernel_rfl) (by kernel_rfl) (by kernel_rfl) (fun _ _ _ h => h) (fun oi h => by cases h; exact Or.inl ⟨by rfl, fun w' hS' => by go_simp⟩) hHeld ?_
  try simp only [Act.put, List.setIfInBounds_toArray, List.set_cons_zero, List.set_cons_succ]
  refine take_d 5 (some 24) (.string t) rfl (by kernel_rfl) (by kernel_rfl) (by kernel_rfl) (fun _ _ _ h => h) (fun oi h => by cases h; exact Or.inl ⟨by rfl, fun w' hS' => by go_simp⟩) hHeld ?_
  try simp only [Act.put, List.setIfInBounds_toArray, List.set_cons_zero, List.set_cons_succ]
  refine take_d 6 (some 25) (.int .u8 (y : Int)) rfl (by kernel_rfl) (by kernel_rfl) (by kernel_rfl) (fun _ _ _ h => h) (fun oi h => by cases h; exact Or.inl ⟨by rfl, fun w' hS' => by go_simp⟩) hHeld ?_
  try simp only [Act.put, List.setIfInBounds_toArray, List.set_cons_zero, List.set_cons_succ]
  refine take_d 7 (some 26) (.int .i64 (y : Int)) rfl (by kernel_rfl) (by kernel_rfl) (by kernel_rfl) (fun _ _ _ h => h) (fun oi h => by cases h; exact Or.inl ⟨by rfl, fun w' hS' => by go_simp⟩) hHeld ?_
  try simp only [Act.put, List.setIfInBounds_toArray, List.set_cons_zero, List.set_cons_succ]
  refine take_d 8 (some 27) (.agg #[.int .i64 wd, .int .i64 ht, .int .i64 x, .int .i64 y, .slice none 0 0]) rfl (by kernel_rfl) (by kernel_rfl) (by kernel_rfl) (fun _ _ _ h => h) (fun oi h => by cases h; exact Or.inl ⟨by rfl, fun w' hS' => by go_simp⟩) hHeld ?_
  try simp only [Act.put, List.setIfInBounds_toArray, List.set_cons_zero, List.set_cons_succ]
  refine one_d 9 (some 6) rfl (by kernel_rfl) ?_
  intro o ho1 hd
  cases ho1
  clear hd
  have lz : w.heap.size < w5.heap.size := hHeld.1.lt
  intro K hK
  go_simp
  refine hK.out _ _ ⟨hHeld.1.alloc _, hHeld.2.alloc hHeld.2.size _⟩ (fun hHeld => ?_)
  clear hK K
  try simp only [Act.put, List.setIfInBounds_toArray, List.set_cons_zero, List.set_cons_succ]
  have rp : Row (w5.alloc (.cells #[.int .i64 0, .int .i64 0, .int .i64 0, .int .i64 0, .slice none 0 0] 33 (0, 0))).drew w5.heap.size 33 [.int .i64 0, .int .i64 0, .int .i64 0, .int .i64 0, .slice none 0 0] := Row.new' rfl rfl
  generalize w5.heap.size = p at *
  generalize (w5.alloc (.cells #[.int .i64 0, .int .i64 0, .int .i64 0, .int .i64 0, .slice none 0 0] 33 (0, 0))).drew = v2 at *
  refine one_d 10 none rfl (by kernel_rfl) ?_
  intro o ho1 hd K hK
  cases ho1
  refine step_store_row rfl 33 (.tmp 6) (.tmp 27) rfl p [.int .i64 wd, .int .i64 ht, .int .i64 x, .int .i64 y, .slice none 0 0] rfl rfl _ _ rp infoRS rfl (by simp [Value.oneCell']) ?_
  rw [hd]
  have hz := hHeld.1.setRow_other (k := p) (by omega) (List.toArray [.int .i64 wd, .int .i64 ht, .int .i64 x, .int .i64 y, .slice none 0 0])
  have rp2 := rp.setRow [.int .i64 wd, .int .i64 ht, .int .i64 x, .int .i64 y, .slice none 0 0]
  have bl := below_row hHeld.2 (show w.heap.size ≤ p by omega) (List.toArray [.int .i64 wd, .int .i64 ht, .int .i64 x, .int .i64 y, .slice none 0 0])
  refine hK.out _ _ ⟨hz, bl⟩ (fun hHeld => ?_)
  clear hK K hd hHeld rp
  try simp only [Act.put]
  refine wpAnyH_done (by kernel_rfl) ?_ _
  try simp only [Act.put]
  have c2 := rp2.cell 2
  have c3 := rp2.cell 3
  simp only [List.getElem?_cons_zero, List.getElem?_cons_succ] at c2 c3
  generalize v2.setRow p (List.toArray [.int .i64 wd, .int .i64 ht, .int .i64 x, .int .i64 y, .slice none 0 0]) = w7 at *
  go_wp2
  go_loopw [7] (fun iv wr => ∃ i : Nat, 4 ≤ i ∧ i ≤ t.size ∧ iv = .int .i64 i ∧ Hid (∀ j, 4 ≤ j → j < i → N11.shown (t.data.toList.getD j 0) = true) ∧ wr = w7) (fun iv _ => t.size - (intOf iv).toNat)
  case atStart => exact ⟨4, Nat.le_refl _, h, rfl, fun j h1 h2 => by omega, rfl⟩
  case round =>
    obtain ⟨i, hi4, hi, rfl, HSH, rfl⟩ := hrel
    by_cases hlt : i < t.size
    · have hsi : (i : Int) < t.size := by omega
      have hat : t.data.toList.getD i 0 = t[i] := by
        have h' : i < t.data.toList.length := by simpa using hlt
        rw [List.getD_eq_getElem?_getD, List.getElem?_eq_getElem h']; rfl
      by_cases u1 : t[i].toNat < 32
      · have v1 : (t[i].toNat : Int) < 32 := by omega
        clear hat HSH
        go_wp2_with (first | refine wpList_store_row rfl 33 (.tmp 2) (.tmp 80) rfl w.heap.size _ rfl rfl _ _ hz infoRS rfl (by simp [Value.oneCell']) ?_)
        exact bodyPost_ret (results_row_tmp rfl _ _ w.heap.size 33 [.int .i64 0, .int .i64 0, .int .i64 0, .int .i64 0, .slice none 0 0] _ rfl (hz.setRow [.int .i64 0, .int .i64 0, .int .i64 0, .int .i64 0, .slice none 0 0]) Try.underlying33 rfl infoRS) rfl ⟨rfl, below_row bl (Nat.le_refl _) _⟩
      · have v1 : ¬ (t[i].toNat : Int) < 32 := by omega
        by_cases u2 : 126 < t[i].toNat
        · have v2 : (126 : Int) < (t[i].toNat : Int) := by omega
          clear hat HSH
          go_wp2_with (first | refine wpList_store_row rfl 33 (.tmp 2) (.tmp 80) rfl w.heap.size _ rfl rfl _ _ hz infoRS rfl (by simp [Value.oneCell']) ?_)
          exact bodyPost_ret (results_row_tmp rfl _ _ w.heap.size 33 [.int .i64 0, .int .i64 0, .int .i64 0, .int .i64 0, .slice none 0 0] _ rfl (hz.setRow [.int .i64 0, .int .i64 0, .int .i64 0, .int .i64 0, .slice none 0 0]) Try.underlying33 rfl infoRS) rfl ⟨rfl, below_row bl (Nat.le_refl _) _⟩
        · have v2 : ¬ (126 : Int) < (t[i].toNat : Int) := by omega
          have HSH' : Hid (∀ j, 4 ≤ j → j < i + 1 → N11.shown (t.data.toList.getD j 0) = true) := fun j hj4 hj => by
            by_cases hji : j < i
            · exact HSH.out j hj4 hji
            · obtain rfl : j = i := by omega
              rw [hat]; unfold N11.shown; simp; omega
          clear hat HSH
          go_wp2
          go_roundw
          case rel => exact ⟨i + 1, by omega, by omega, by go_num, HSH', by first | rfl | trivial⟩
          case measure => simp [intOf]; omega
    · obtain rfl : i = t.size := by omega
      exfalso
      obtain ⟨b, hb, hbs⟩ := List.all_eq_false.1 h8
      obtain ⟨j, hj, rfl⟩ := List.getElem_of_mem hb
      have hl : t.data.toList.length = t.size := by simp
      have hj2 : j < t.size - 4 := by
        have := hj
        rw [List.length_drop, hl] at this
        exact this
      have hj' : 4 + j < t.data.toList.length := by omega
      rw [List.getElem_drop] at hbs
      have := HSH.out (4 + j) (by omega) (by omega)
      rw [List.getD_eq_getElem?_getD, List.getElem?_eq_getElem hj'] at this
      exact hbs this

end Go.Proofs.Ytekpbfbipkjibaa
