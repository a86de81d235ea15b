/-
  ScreenPuts: the walk.
-/
import Derived.Test.YtekpbfbipkjibaaNAwake
import Derived.Test.YtekpbfbipkjibaaNIs
import Derived.Test.YtekpbfbipkjibaaSTake
import Derived.Test.YtekpbfbipkjibaaScreenPuts1
import Derived.OpenShut
namespace Go.Proofs.Ytekpbfbipkjibaa
open Go.RowKit
set_option linter.unusedVariables false
set_option maxRecDepth 20000
namespace ScreenPutsW

set_option maxHeartbeats 4000000 in
theorem shortA (a0 a1 : Int) (a2 : ByteArray) (a3 : Int) (w : World) (h : (decide (1 ≤ a0) && decide (a0 ≤ 80) && decide (1 ≤ a1) && decide (a1 ≤ 24)) = false) (t1 : a0 < 1) :
    Calls Try.prog 3 #[.int .i64 a0, .int .i64 a1, .string a2, .int .u16 a3] w fun e w' => e = .returned (.bool true) ∧ Below w.heap.size w w' := by
  have CN0 := Lib.hid (scrNew_no a0 a1 h)
  clear h
  go_enter Try.func3, Try.ntmps3
  go_wp2_with fail
  refine (awake11_any _).mono ?_
  rintro e wa ⟨rfl, ba⟩
  go_wp2_with fail
  refine (CN0.out _).mono ?_
  rintro e w2 ⟨rfl, b2⟩
  have bb2 := ba.trans (b2.mono ba.size)
  have rg : Row (w2.alloc (.cells #[.int .i64 0, .int .i64 0, .int .i64 0, .int .i64 0, .string ⟨#[]⟩] 25 (0, 0))) w2.heap.size 25 [.int .i64 0, .int .i64 0, .int .i64 0, .int .i64 0, .string ⟨#[]⟩] := Row.new' rfl rfl
  have bl := bb2.alloc bb2.size (.cells #[.int .i64 0, .int .i64 0, .int .i64 0, .int .i64 0, .string ⟨#[]⟩] 25 (0, 0))
  clear ba b2 bb2
  go_wp2
  generalize w2.heap.size = g at *
  generalize w2.alloc (.cells #[.int .i64 0, .int .i64 0, .int .i64 0, .int .i64 0, .string ⟨#[]⟩] 25 (0, 0)) = w3 at *
  refine wp_region_held_drew (S := fun w' => Row w' g 25 [.int .i64 0, .int .i64 0, .int .i64 0, .int .i64 0, .string ⟨#[]⟩] ∧ Below w.heap.size w w') (by kernel_rfl) (⟨rg.drew, bl.drew⟩) (fun hHeld => ?_)
  refine take_d 0 (some 37) (.int .i64 7) rfl (by kernel_rfl) (by kernel_rfl) (by kernel_rfl) (fun _ _ _ h => h) (fun oi h => by cases h; exact Or.inl ⟨by rfl, fun w' hS' => by go_simp⟩) hHeld ?_
  try simp only [Act.put, List.setIfInBounds_toArray, List.set_cons_zero, List.set_cons_succ]
  refine take_d 1 (some 38) (.bool true) rfl (by kernel_rfl) (by kernel_rfl) (by kernel_rfl) (fun _ _ _ h => h) (fun oi h => by cases h; exact Or.inl ⟨by rfl, fun w' hS' => by go_simp⟩) hHeld ?_
  try simp only [Act.put, List.setIfInBounds_toArray, List.set_cons_zero, List.set_cons_succ]
  refine take_d 2 (some 39) (.bool true) rfl (by kernel_rfl) (by kernel_rfl) (by kernel_rfl) (fun _ _ _ h => h) (fun oi h => by cases h; exact Or.inl ⟨by rfl, fun w' hS' => by go_simp⟩) hHeld ?_
  try simp only [Act.put, List.setIfInBounds_toArray, List.set_cons_zero, List.set_cons_succ]
  refine take_d 3 (some 40) (.agg #[.int .i64 0, .int .i64 0, .int .i64 0, .int .i64 0, .string ⟨#[]⟩]) rfl (by kernel_rfl) (by kernel_rfl) (by kernel_rfl) (fun _ _ _ h => h) (fun oi h => by cases h; exact yieldsIf_load_mid (by rfl) 25 (.tmp 9) rfl g 0 rfl [.int .i64 0, .int .i64 0, .int .i64 0, .int .i64 0, .string ⟨#[]⟩] _ (fun w' hS' => hS'.1.range) Try.underlying25 rfl infoScr) hHeld ?_
  try simp only [Act.put, List.setIfInBounds_toArray, List.set_cons_zero, List.set_cons_succ]
  refine take_d 4 (some 41) (.agg #[.int .i64 0, .int .i64 0, .int .i64 0, .int .i64 0, .string ⟨#[]⟩]) rfl (by kernel_rfl) (by kernel_rfl) (by kernel_rfl) (fun _ _ _ h => h) (fun oi h => by cases h; exact Or.inl ⟨by rfl, fun w' hS' => by go_simp⟩) hHeld ?_
  try simp only [Act.put, List.setIfInBounds_toArray, List.set_cons_zero, List.set_cons_succ]
  refine one_d 5 (some 42) rfl (by kernel_rfl) ?_
  intro o ho hd K hK
  cases ho
  go_simp
  refine (same_yes _ _ _ _ _ _).mono ?_
  rintro e v1 ⟨rfl, bb⟩
  have hHeld' := hHeld
  clear hHeld
  have hHeld := hHeld'
  clear hHeld'
  refine hK.out _ _ (⟨hHeld.1.below bb hHeld.1.lt, hHeld.2.trans (bb.mono hHeld.2.size)⟩) (fun hHeld => ?_)
  clear hK K hd bb
  try simp only [Act.put, List.setIfInBounds_toArray, List.set_cons_zero, List.set_cons_succ]
  refine take_d 6 (some 43) (.bool true) rfl (by kernel_rfl) (by kernel_rfl) (by kernel_rfl) (fun _ _ _ h => h) (fun oi h => by cases h; exact Or.inl ⟨by rfl, fun w' hS' => by go_simp⟩) hHeld ?_
  try simp only [Act.put, List.setIfInBounds_toArray, List.set_cons_zero, List.set_cons_succ]
  refine take_d 7 (some 44) (.bool true) rfl (by kernel_rfl) (by kernel_rfl) (by kernel_rfl) (fun _ _ _ h => h) (fun oi h => by cases h; exact Or.inl ⟨by rfl, fun w' hS' => by go_simp⟩) hHeld ?_
  try simp only [Act.put, List.setIfInBounds_toArray, List.set_cons_zero, List.set_cons_succ]
  refine take_d 8 (some 45) (.agg #[.int .i64 0, .int .i64 0, .int .i64 0, .int .i64 0, .string ⟨#[]⟩]) rfl (by kernel_rfl) (by kernel_rfl) (by kernel_rfl) (fun _ _ _ h => h) (fun oi h => by cases h; exact yieldsIf_load_mid (by rfl) 25 (.tmp 9) rfl g 0 rfl [.int .i64 0, .int .i64 0, .int .i64 0, .int .i64 0, .string ⟨#[]⟩] _ (fun w' hS' => hS'.1.range) Try.underlying25 rfl infoScr) hHeld ?_
  try simp only [Act.put, List.setIfInBounds_toArray, List.set_cons_zero, List.set_cons_succ]
  refine take_d 10 (some 47) (.agg #[.int .i64 0, .int .i64 0, .int .i64 0, .int .i64 0, .string ⟨#[]⟩]) rfl (by kernel_rfl) (by kernel_rfl) (by kernel_rfl) (fun _ _ _ h => h) (fun oi h => by cases h; exact yieldsIf_load_mid (by rfl) 25 (.tmp 9) rfl g 0 rfl [.int .i64 0, .int .i64 0, .int .i64 0, .int .i64 0, .string ⟨#[]⟩] _ (fun w' hS' => hS'.1.range) Try.underlying25 rfl infoScr) hHeld ?_
  try simp only [Act.put, List.setIfInBounds_toArray, List.set_cons_zero, List.set_cons_succ]
  refine one_d 9 (some 46) rfl (by kernel_rfl) ?_
  intro o ho hd K hK
  cases ho
  go_simp
  refine (put_zero _ _).mono ?_
  rintro e v2 ⟨rfl, bb⟩
  have hHeld' := hHeld
  clear hHeld
  have hHeld := hHeld'
  clear hHeld'
  refine hK.out _ _ (⟨hHeld.1.below bb hHeld.1.lt, hHeld.2.trans (bb.mono hHeld.2.size)⟩) (fun hHeld => ?_)
  clear hK K hd bb
  try simp only [Act.put, List.setIfInBounds_toArray, List.set_cons_zero, List.set_cons_succ]
  refine one_d 11 (some 48) rfl (by kernel_rfl) ?_
  intro o ho hd K hK
  cases ho
  go_simp
  refine (same_yes _ _ _ _ _ _).mono ?_
  rintro e v3 ⟨rfl, bb⟩
  have hHeld' := hHeld
  clear hHeld
  have hHeld := hHeld'
  clear hHeld'
  refine hK.out _ _ (⟨hHeld.1.below bb hHeld.1.lt, hHeld.2.trans (bb.mono hHeld.2.size)⟩) (fun hHeld => ?_)
  clear hK K hd bb
  try simp only [Act.put, List.setIfInBounds_toArray, List.set_cons_zero, List.set_cons_succ]
  refine take_d 12 (some 49) (.bool true) rfl (by kernel_rfl) (by kernel_rfl) (by kernel_rfl) (fun _ _ _ h => h) (fun oi h => by cases h; exact Or.inl ⟨by rfl, fun w' hS' => by go_simp⟩) hHeld ?_
  try simp only [Act.put, List.setIfInBounds_toArray, List.set_cons_zero, List.set_cons_succ]
  refine take_d 13 (some 8) (.bool true) rfl (by kernel_rfl) (by kernel_rfl) (by kernel_rfl) (fun _ _ _ h => h) (fun oi h => by cases h; exact Or.inl ⟨by rfl, fun w' hS' => by go_simp⟩) hHeld ?_
  try simp only [Act.put, List.setIfInBounds_toArray, List.set_cons_zero, List.set_cons_succ]
  refine wpAnyH_done (by kernel_rfl) ?_ _
  try simp only [Act.put]
  have hb := hHeld.2
  go_wp2
  go_ret
  exact ⟨rfl, hb⟩

set_option maxHeartbeats 4000000 in
theorem shortB (a0 a1 : Int) (a2 : ByteArray) (a3 : Int) (w : World) (h : (decide (1 ≤ a0) && decide (a0 ≤ 80) && decide (1 ≤ a1) && decide (a1 ≤ 24)) = false) (t1 : ¬ a0 < 1) (t2 : 80 < a0) :
    Calls Try.prog 3 #[.int .i64 a0, .int .i64 a1, .string a2, .int .u16 a3] w fun e w' => e = .returned (.bool true) ∧ Below w.heap.size w w' := by
  have CN0 := Lib.hid (scrNew_no a0 a1 h)
  clear h
  go_enter Try.func3, Try.ntmps3
  go_wp2_with fail
  refine (awake11_any _).mono ?_
  rintro e wa ⟨rfl, ba⟩
  go_wp2_with fail
  refine (CN0.out _).mono ?_
  rintro e w2 ⟨rfl, b2⟩
  have bb2 := ba.trans (b2.mono ba.size)
  have rg : Row (w2.alloc (.cells #[.int .i64 0, .int .i64 0, .int .i64 0, .int .i64 0, .string ⟨#[]⟩] 25 (0, 0))) w2.heap.size 25 [.int .i64 0, .int .i64 0, .int .i64 0, .int .i64 0, .string ⟨#[]⟩] := Row.new' rfl rfl
  have bl := bb2.alloc bb2.size (.cells #[.int .i64 0, .int .i64 0, .int .i64 0, .int .i64 0, .string ⟨#[]⟩] 25 (0, 0))
  clear ba b2 bb2
  go_wp2
  generalize w2.heap.size = g at *
  generalize w2.alloc (.cells #[.int .i64 0, .int .i64 0, .int .i64 0, .int .i64 0, .string ⟨#[]⟩] 25 (0, 0)) = w3 at *
  refine wp_region_held_drew (S := fun w' => Row w' g 25 [.int .i64 0, .int .i64 0, .int .i64 0, .int .i64 0, .string ⟨#[]⟩] ∧ Below w.heap.size w w') (by kernel_rfl) (⟨rg.drew, bl.drew⟩) (fun hHeld => ?_)
  refine take_d 0 (some 37) (.int .i64 7) rfl (by kernel_rfl) (by kernel_rfl) (by kernel_rfl) (fun _ _ _ h => h) (fun oi h => by cases h; exact Or.inl ⟨by rfl, fun w' hS' => by go_simp⟩) hHeld ?_
  try simp only [Act.put, List.setIfInBounds_toArray, List.set_cons_zero, List.set_cons_succ]
  refine take_d 1 (some 38) (.bool true) rfl (by kernel_rfl) (by kernel_rfl) (by kernel_rfl) (fun _ _ _ h => h) (fun oi h => by cases h; exact Or.inl ⟨by rfl, fun w' hS' => by go_simp⟩) hHeld ?_
  try simp only [Act.put, List.setIfInBounds_toArray, List.set_cons_zero, List.set_cons_succ]
  refine take_d 2 (some 39) (.bool true) rfl (by kernel_rfl) (by kernel_rfl) (by kernel_rfl) (fun _ _ _ h => h) (fun oi h => by cases h; exact Or.inl ⟨by rfl, fun w' hS' => by go_simp⟩) hHeld ?_
  try simp only [Act.put, List.setIfInBounds_toArray, List.set_cons_zero, List.set_cons_succ]
  refine take_d 3 (some 40) (.agg #[.int .i64 0, .int .i64 0, .int .i64 0, .int .i64 0, .string ⟨#[]⟩]) rfl (by kernel_rfl) (by kernel_rfl) (by kernel_rfl) (fun _ _ _ h => h) (fun oi h => by cases h; exact yieldsIf_load_mid (by rfl) 25 (.tmp 9) rfl g 0 rfl [.int .i64 0, .int .i64 0, .int .i64 0, .int .i64 0, .string ⟨#[]⟩] _ (fun w' hS' => hS'.1.range) Try.underlying25 rfl infoScr) hHeld ?_
  try simp only [Act.put, List.setIfInBounds_toArray, List.set_cons_zero, List.set_cons_succ]
  refine take_d 4 (some 41) (.agg #[.int .i64 0, .int .i64 0, .int .i64 0, .int .i64 0, .string ⟨#[]⟩]) rfl (by kernel_rfl) (by kernel_rfl) (by kernel_rfl) (fun _ _ _ h => h) (fun oi h => by cases h; exact Or.inl ⟨by rfl, fun w' hS' => by go_simp⟩) hHeld ?_
  try simp only [Act.put, List.setIfInBounds_toArray, List.set_cons_zero, List.set_cons_succ]
  refine one_d 5 (some 42) rfl (by kernel_rfl) ?_
  intro o ho hd K hK
  cases ho
  go_simp
  refine (same_yes _ _ _ _ _ _).mono ?_
  rintro e v1 ⟨rfl, bb⟩
  have hHeld' := hHeld
  clear hHeld
  have hHeld := hHeld'
  clear hHeld'
  refine hK.out _ _ (⟨hHeld.1.below bb hHeld.1.lt, hHeld.2.trans (bb.mono hHeld.2.size)⟩) (fun hHeld => ?_)
  clear hK K hd bb
  try simp only [Act.put, List.setIfInBounds_toArray, List.set_cons_zero, List.set_cons_succ]
  refine take_d 6 (some 43) (.bool true) rfl (by kernel_rfl) (by kernel_rfl) (by kernel_rfl) (fun _ _ _ h => h) (fun oi h => by cases h; exact Or.inl ⟨by rfl, fun w' hS' => by go_simp⟩) hHeld ?_
  try simp only [Act.put, List.setIfInBounds_toArray, List.set_cons_zero, List.set_cons_succ]
  refine take_d 7 (some 44) (.bool true) rfl (by kernel_rfl) (by kernel_rfl) (by kernel_rfl) (fun _ _ _ h => h) (fun oi h => by cases h; exact Or.inl ⟨by rfl, fun w' hS' => by go_simp⟩) hHeld ?_
  try simp only [Act.put, List.setIfInBounds_toArray, List.set_cons_zero, List.set_cons_succ]
  refine take_d 8 (some 45) (.agg #[.int .i64 0, .int .i64 0, .int .i64 0, .int .i64 0, .string ⟨#[]⟩]) rfl (by kernel_rfl) (by kernel_rfl) (by kernel_rfl) (fun _ _ _ h => h) (fun oi h => by cases h; exact yieldsIf_load_mid (by rfl) 25 (.tmp 9) rfl g 0 rfl [.int .i64 0, .int .i64 0, .int .i64 0, .int .i64 0, .string ⟨#[]⟩] _ (fun w' hS' => hS'.1.range) Try.underlying25 rfl infoScr) hHeld ?_
  try simp only [Act.put, List.setIfInBounds_toArray, List.set_cons_zero, List.set_cons_succ]
  refine take_d 10 (some 47) (.agg #[.int .i64 0, .int .i64 0, .int .i64 0, .int .i64 0, .string ⟨#[]⟩]) rfl (by kernel_rfl) (by kernel_rfl) (by kernel_rfl) (fun _ _ _ h => h) (fun oi h => by cases h; exact yieldsIf_load_mid (by rfl) 25 (.tmp 9) rfl g 0 rfl [.int .i64 0, .int .i64 0, .int .i64 0, .int .i64 0, .string ⟨#[]⟩] _ (fun w' hS' => hS'.1.range) Try.underlying25 rfl infoScr) hHeld ?_
  try simp only [Act.put, List.setIfInBounds_toArray, List.set_cons_zero, List.set_cons_succ]
  refine one_d 9 (some 46) rfl (by kernel_rfl) ?_
  intro o ho hd K hK
  cases ho
  go_simp
  refine (put_zero _ _).mono ?_
  rintro e v2 ⟨rfl, bb⟩
  have hHeld' := hHeld
  clear hHeld
  have hHeld := hHeld'
  clear hHeld'
  refine hK.out _ _ (⟨hHeld.1.below bb hHeld.1.lt, hHeld.2.trans (bb.mono hHeld.2.size)⟩) (fun hHeld => ?_)
  clear hK K hd bb
  try simp only [Act.put, List.setIfInBounds_toArray, List.set_cons_zero, List.set_cons_succ]
  refine one_d 11 (some 48) rfl (by kernel_rfl) ?_
  intro o ho hd K hK
  cases ho
  go_simp
  refine (same_yes _ _ _ _ _ _).mono ?_
  rintro e v3 ⟨rfl, bb⟩
  have hHeld' := hHeld
  clear hHeld
  have hHeld := hHeld'
  clear hHeld'
  refine hK.out _ _ (⟨hHeld.1.below bb hHeld.1.lt, hHeld.2.trans (bb.mono hHeld.2.size)⟩) (fun hHeld => ?_)
  clear hK K hd bb
  try simp only [Act.put, List.setIfInBounds_toArray, List.set_cons_zero, List.set_cons_succ]
  refine take_d 12 (some 49) (.bool true) rfl (by kernel_rfl) (by kernel_rfl) (by kernel_rfl) (fun _ _ _ h => h) (fun oi h => by cases h; exact Or.inl ⟨by rfl, fun w' hS' => by go_simp⟩) hHeld ?_
  try simp only [Act.put, List.setIfInBounds_toArray, List.set_cons_zero, List.set_cons_succ]
  refine take_d 13 (some 8) (.bool true) rfl (by kernel_rfl) (by kernel_rfl) (by kernel_rfl) (fun _ _ _ h => h) (fun oi h => by cases h; exact Or.inl ⟨by rfl, fun w' hS' => by go_simp⟩) hHeld ?_
  try simp only [Act.put, List.setIfInBounds_toArray, List.set_cons_zero, List.set_cons_succ]
  refine wpAnyH_done (by kernel_rfl) ?_ _
  try simp only [Act.put]
  have hb := hHeld.2
  go_wp2
  go_ret
  exact ⟨rfl, hb⟩

set_option maxHeartbeats 4000000 in
theorem shortC (a0 a1 : Int) (a2 : ByteArray) (a3 : Int) (w : World) (h : (decide (1 ≤ a0) && decide (a0 ≤ 80) && decide (1 ≤ a1) && decide (a1 ≤ 24)) = false) (t1 : ¬ a0 < 1) (t2 : ¬ 80 < a0) (t3 : a1 < 1) :
    Calls Try.prog 3 #[.int .i64 a0, .int .i64 a1, .string a2, .int .u16 a3] w fun e w' => e = .returned (.bool true) ∧ Below w.heap.size w w' := by
  have CN0 := Lib.hid (scrNew_no a0 a1 h)
  clear h
  go_enter Try.func3, Try.ntmps3
  go_wp2_with fail
  refine (awake11_any _).mono ?_
  rintro e wa ⟨rfl, ba⟩
  go_wp2_with fail
  refine (CN0.out _).mono ?_
  rintro e w2 ⟨rfl, b2⟩
  have bb2 := ba.trans (b2.mono ba.size)
  have rg : Row (w2.alloc (.cells #[.int .i64 0, .int .i64 0, .int .i64 0, .int .i64 0, .string ⟨#[]⟩] 25 (0, 0))) w2.heap.size 25 [.int .i64 0, .int .i64 0, .int .i64 0, .int .i64 0, .string ⟨#[]⟩] := Row.new' rfl rfl
  have bl := bb2.alloc bb2.size (.cells #[.int .i64 0, .int .i64 0, .int .i64 0, .int .i64 0, .string ⟨#[]⟩] 25 (0, 0))
  clear ba b2 bb2
  go_wp2
  generalize w2.heap.size = g at *
  generalize w2.alloc (.cells #[.int .i64 0, .int .i64 0, .int .i64 0, .int .i64 0, .string ⟨#[]⟩] 25 (0, 0)) = w3 at *
  refine wp_region_held_drew (S := fun w' => Row w' g 25 [.int .i64 0, .int .i64 0, .int .i64 0, .int .i64 0, .string ⟨#[]⟩] ∧ Below w.heap.size w w') (by kernel_rfl) (⟨rg.drew, bl.drew⟩) (fun hHeld => ?_)
  refine take_d 0 (some 37) (.int .i64 7) rfl (by kernel_rfl) (by kernel_rfl) (by kernel_rfl) (fun _ _ _ h => h) (fun oi h => by cases h; exact Or.inl ⟨by rfl, fun w' hS' => by go_simp⟩) hHeld ?_
  try simp only [Act.put, List.setIfInBounds_toArray, List.set_cons_zero, List.set_cons_succ]
  refine take_d 1 (some 38) (.bool true) rfl (by kernel_rfl) (by kernel_rfl) (by kernel_rfl) (fun _ _ _ h => h) (fun oi h => by cases h; exact Or.inl ⟨by rfl, fun w' hS' => by go_simp⟩) hHeld ?_
  try simp only [Act.put, List.setIfInBounds_toArray, List.set_cons_zero, List.set_cons_succ]
  refine take_d 2 (some 39) (.bool true) rfl (by kernel_rfl) (by kernel_rfl) (by kernel_rfl) (fun _ _ _ h => h) (fun oi h => by cases h; exact Or.inl ⟨by rfl, fun w' hS' => by go_simp⟩) hHeld ?_
  try simp only [Act.put, List.setIfInBounds_toArray, List.set_cons_zero, List.set_cons_succ]
  refine take_d 3 (some 40) (.agg #[.int .i64 0, .int .i64 0, .int .i64 0, .int .i64 0, .string ⟨#[]⟩]) rfl (by kernel_rfl) (by kernel_rfl) (by kernel_rfl) (fun _ _ _ h => h) (fun oi h => by cases h; exact yieldsIf_load_mid (by rfl) 25 (.tmp 9) rfl g 0 rfl [.int .i64 0, .int .i64 0, .int .i64 0, .int .i64 0, .string ⟨#[]⟩] _ (fun w' hS' => hS'.1.range) Try.underlying25 rfl infoScr) hHeld ?_
  try simp only [Act.put, List.setIfInBounds_toArray, List.set_cons_zero, List.set_cons_succ]
  refine take_d 4 (some 41) (.agg #[.int .i64 0, .int .i64 0, .int .i64 0, .int .i64 0, .string ⟨#[]⟩]) rfl (by kernel_rfl) (by kernel_rfl) (by kernel_rfl) (fun _ _ _ h => h) (fun oi h => by cases h; exact Or.inl ⟨by rfl, fun w' hS' => by go_simp⟩) hHeld ?_
  try simp only [Act.put, List.setIfInBounds_toArray, List.set_cons_zero, List.set_cons_succ]
  refine one_d 5 (some 42) rfl (by kernel_rfl) ?_
  intro o ho hd K hK
  cases ho
  go_simp
  refine (same_yes _ _ _ _ _ _).mono ?_
  rintro e v1 ⟨rfl, bb⟩
  have hHeld' := hHeld
  clear hHeld
  have hHeld := hHeld'
  clear hHeld'
  refine hK.out _ _ (⟨hHeld.1.below bb hHeld.1.lt, hHeld.2.trans (bb.mono hHeld.2.size)⟩) (fun hHeld => ?_)
  clear hK K hd bb
  try simp only [Act.put, List.setIfInBounds_toArray, List.set_cons_zero, List.set_cons_succ]
  refine take_d 6 (some 43) (.bool true) rfl (by kernel_rfl) (by kernel_rfl) (by kernel_rfl) (fun _ _ _ h => h) (fun oi h => by cases h; exact Or.inl ⟨by rfl, fun w' hS' => by go_simp⟩) hHeld ?_
  try simp only [Act.put, List.setIfInBounds_toArray, List.set_cons_zero, List.set_cons_succ]
  refine take_d 7 (some 44) (.bool true) rfl (by kernel_rfl) (by kernel_rfl) (by kernel_rfl) (fun _ _ _ h => h) (fun oi h => by cases h; exact Or.inl ⟨by rfl, fun w' hS' => by go_simp⟩) hHeld ?_
  try simp only [Act.put, List.setIfInBounds_toArray, List.set_cons_zero, List.set_cons_succ]
  refine take_d 8 (some 45) (.agg #[.int .i64 0, .int .i64 0, .int .i64 0, .int .i64 0, .string ⟨#[]⟩]) rfl (by kernel_rfl) (by kernel_rfl) (by kernel_rfl) (fun _ _ _ h => h) (fun oi h => by cases h; exact yieldsIf_load_mid (by rfl) 25 (.tmp 9) rfl g 0 rfl [.int .i64 0, .int .i64 0, .int .i64 0, .int .i64 0, .string ⟨#[]⟩] _ (fun w' hS' => hS'.1.range) Try.underlying25 rfl infoScr) hHeld ?_
  try simp only [Act.put, List.setIfInBounds_toArray, List.set_cons_zero, List.set_cons_succ]
  refine take_d 10 (some 47) (.agg #[.int .i64 0, .int .i64 0, .int .i64 0, .int .i64 0, .string ⟨#[]⟩]) rfl (by kernel_rfl) (by kernel_rfl) (by kernel_rfl) (fun _ _ _ h => h) (fun oi h => by cases h; exact yieldsIf_load_mid (by rfl) 25 (.tmp 9) rfl g 0 rfl [.int .i64 0, .int .i64 0, .int .i64 0, .int .i64 0, .string ⟨#[]⟩] _ (fun w' hS' => hS'.1.range) Try.underlying25 rfl infoScr) hHeld ?_
  try simp only [Act.put, List.setIfInBounds_toArray, List.set_cons_zero, List.set_cons_succ]
  refine one_d 9 (some 46) rfl (by kernel_rfl) ?_
  intro o ho hd K hK
  cases ho
  go_simp
  refine (put_zero _ _).mono ?_
  rintro e v2 ⟨rfl, bb⟩
  have hHeld' := hHeld
  clear hHeld
  have hHeld := hHeld'
  clear hHeld'
  refine hK.out _ _ (⟨hHeld.1.below bb hHeld.1.lt, hHeld.2.trans (bb.mono hHeld.2.size)⟩) (fun hHeld => ?_)
  clear hK K hd bb
  try simp only [Act.put, List.setIfInBounds_toArray, List.set_cons_zero, List.set_cons_succ]
  refine one_d 11 (some 48) rfl (by kernel_rfl) ?_
  intro o ho hd K hK
  cases ho
  go_simp
  refine (same_yes _ _ _ _ _ _).mono ?_
  rintro e v3 ⟨rfl, bb⟩
  have hHeld' := hHeld
  clear hHeld
  have hHeld := hHeld'
  clear hHeld'
  refine hK.out _ _ (⟨hHeld.1.below bb hHeld.1.lt, hHeld.2.trans (bb.mono hHeld.2.size)⟩) (fun hHeld => ?_)
  clear hK K hd bb
  try simp only [Act.put, List.setIfInBounds_toArray, List.set_cons_zero, List.set_cons_succ]
  refine take_d 12 (some 49) (.bool true) rfl (by kernel_rfl) (by kernel_rfl) (by kernel_rfl) (fun _ _ _ h => h) (fun oi h => by cases h; exact Or.inl ⟨by rfl, fun w' hS' => by go_simp⟩) hHeld ?_
  try simp only [Act.put, List.setIfInBounds_toArray, List.set_cons_zero, List.set_cons_succ]
  refine take_d 13 (some 8) (.bool true) rfl (by kernel_rfl) (by kernel_rfl) (by kernel_rfl) (fun _ _ _ h => h) (fun oi h => by cases h; exact Or.inl ⟨by rfl, fun w' hS' => by go_simp⟩) hHeld ?_
  try simp only [Act.put, List.setIfInBounds_toArray, List.set_cons_zero, List.set_cons_succ]
  refine wpAnyH_done (by kernel_rfl) ?_ _
  try simp only [Act.put]
  have hb := hHeld.2
  go_wp2
  go_ret
  exact ⟨rfl, hb⟩

set_option maxHeartbeats 4000000 in
theorem shortD (a0 a1 : Int) (a2 : ByteArray) (a3 : Int) (w : World) (h : (decide (1 ≤ a0) && decide (a0 ≤ 80) && decide (1 ≤ a1) && decide (a1 ≤ 24)) = false) (t1 : ¬ a0 < 1) (t2 : ¬ 80 < a0) (t3 : ¬ a1 < 1) (t4 : 24 < a1) :
    Calls Try.prog 3 #[.int .i64 a0, .int .i64 a1, .string a2, .int .u16 a3] w fun e w' => e = .returned (.bool true) ∧ Below w.heap.size w w' := by
  have CN0 := Lib.hid (scrNew_no a0 a1 h)
  clear h
  go_enter Try.func3, Try.ntmps3
  go_wp2_with fail
  refine (awake11_any _).mono ?_
  rintro e wa ⟨rfl, ba⟩
  go_wp2_with fail
  refine (CN0.out _).mono ?_
  rintro e w2 ⟨rfl, b2⟩
  have bb2 := ba.trans (b2.mono ba.size)
  have rg : Row (w2.alloc (.cells #[.int .i64 0, .int .i64 0, .int .i64 0, .int .i64 0, .string ⟨#[]⟩] 25 (0, 0))) w2.heap.size 25 [.int .i64 0, .int .i64 0, .int .i64 0, .int .i64 0, .string ⟨#[]⟩] := Row.new' rfl rfl
  have bl := bb2.alloc bb2.size (.cells #[.int .i64 0, .int .i64 0, .int .i64 0, .int .i64 0, .string ⟨#[]⟩] 25 (0, 0))
  clear ba b2 bb2
  go_wp2
  generalize w2.heap.size = g at *
  generalize w2.alloc (.cells #[.int .i64 0, .int .i64 0, .int .i64 0, .int .i64 0, .string ⟨#[]⟩] 25 (0, 0)) = w3 at *
  refine wp_region_held_drew (S := fun w' => Row w' g 25 [.int .i64 0, .int .i64 0, .int .i64 0, .int .i64 0, .string ⟨#[]⟩] ∧ Below w.heap.size w w') (by kernel_rfl) (⟨rg.drew, bl.drew⟩) (fun hHeld => ?_)
  refine take_d 0 (some 37) (.int .i64 7) rfl (by kernel_rfl) (by kernel_rfl) (by kernel_rfl) (fun _ _ _ h => h) (fun oi h => by cases h; exact Or.inl ⟨by rfl, fun w' hS' => by go_simp⟩) hHeld ?_
  try simp only [Act.put, List.setIfInBounds_toArray, List.set_cons_zero, List.set_cons_succ]
  refine take_d 1 (some 38) (.bool true) rfl (by kernel_rfl) (by kernel_rfl) (by kernel_rfl) (fun _ _ _ h => h) (fun oi h => by cases h; exact Or.inl ⟨by rfl, fun w' hS' => by go_simp⟩) hHeld ?_
  try simp only [Act.put, List.setIfInBounds_toArray, List.set_cons_zero, List.set_cons_succ]
  refine take_d 2 (some 39) (.bool true) rfl (by kernel_rfl) (by kernel_rfl) (by kernel_rfl) (fun _ _ _ h => h) (fun oi h => by cases h; exact Or.inl ⟨by rfl, fun w' hS' => by go_simp⟩) hHeld ?_
  try simp only [Act.put, List.setIfInBounds_toArray, List.set_cons_zero, List.set_cons_succ]
  refine take_d 3 (some 40) (.agg #[.int .i64 0, .int .i64 0, .int .i64 0, .int .i64 0, .string ⟨#[]⟩]) rfl (by kernel_rfl) (by kernel_rfl) (by kernel_rfl) (fun _ _ _ h => h) (fun oi h => by cases h; exact yieldsIf_load_mid (by rfl) 25 (.tmp 9) rfl g 0 rfl [.int .i64 0, .int .i64 0, .int .i64 0, .int .i64 0, .string ⟨#[]⟩] _ (fun w' hS' => hS'.1.range) Try.underlying25 rfl infoScr) hHeld ?_
  try simp only [Act.put, List.setIfInBounds_toArray, List.set_cons_zero, List.set_cons_succ]
  refine take_d 4 (some 41) (.agg #[.int .i64 0, .int .i64 0, .int .i64 0, .int .i64 0, .string ⟨#[]⟩]) rfl (by kernel_rfl) (by kernel_rfl) (by kernel_rfl) (fun _ _ _ h => h) (fun oi h => by cases h; exact Or.inl ⟨by rfl, fun w' hS' => by go_simp⟩) hHeld ?_
  try simp only [Act.put, List.setIfInBounds_toArray, List.set_cons_zero, List.set_cons_succ]
  refine one_d 5 (some 42) rfl (by kernel_rfl) ?_
  intro o ho hd K hK
  cases ho
  go_simp
  refine (same_yes _ _ _ _ _ _).mono ?_
  rintro e v1 ⟨rfl, bb⟩
  have hHeld' := hHeld
  clear hHeld
  have hHeld := hHeld'
  clear hHeld'
  refine hK.out _ _ (⟨hHeld.1.below bb hHeld.1.lt, hHeld.2.trans (bb.mono hHeld.2.size)⟩) (fun hHeld => ?_)
  clear hK K hd bb
  try simp only [Act.put, List.setIfInBounds_toArray, List.set_cons_zero, List.set_cons_succ]
  refine take_d 6 (some 43) (.bool true) rfl (by kernel_rfl) (by kernel_rfl) (by kernel_rfl) (fun _ _ _ h => h) (fun oi h => by cases h; exact Or.inl ⟨by rfl, fun w' hS' => by go_simp⟩) hHeld ?_
  try simp only [Act.put, List.setIfInBounds_toArray, List.set_cons_zero, List.set_cons_succ]
  refine take_d 7 (some 44) (.bool true) rfl (by kernel_rfl) (by kernel_rfl) (by kernel_rfl) (fun _ _ _ h => h) (fun oi h => by cases h; exact Or.inl ⟨by rfl, fun w' hS' => by go_simp⟩) hHeld ?_
  try simp only [Act.put, List.setIfInBounds_toArray, List.set_cons_zero, List.set_cons_succ]
  refine take_d 8 (some 45) (.agg #[.int .i64 0, .int .i64 0, .int .i64 0, .int .i64 0, .string ⟨#[]⟩]) rfl (by kernel_rfl) (by kernel_rfl) (by kernel_rfl) (fun _ _ _ h => h) (fun oi h => by cases h; exact yieldsIf_load_mid (by rfl) 25 (.tmp 9) rfl g 0 rfl [.int .i64 0, .int .i64 0, .int .i64 0, .int .i64 0, .string ⟨#[]⟩] _ (fun w' hS' => hS'.1.range) Try.underlying25 rfl infoScr) hHeld ?_
  try simp only [Act.put, List.setIfInBounds_toArray, List.set_cons_zero, List.set_cons_succ]
  refine take_d 10 (some 47) (.agg #[.int .i64 0, .int .i64 0, .int .i64 0, .int .i64 0, .string ⟨#[]⟩]) rfl (by kernel_rfl) (by kernel_rfl) (by kernel_rfl) (fun _ _ _ h => h) (fun oi h => by cases h; exact yieldsIf_load_mid (by rfl) 25 (.tmp 9) rfl g 0 rfl [.int .i64 0, .int .i64 0, .int .i64 0, .int .i64 0, .string ⟨#[]⟩] _ (fun w' hS' => hS'.1.range) Try.underlying25 rfl infoScr) hHeld ?_
  try simp only [Act.put, List.setIfInBounds_toArray, List.set_cons_zero, List.set_cons_succ]
  refine one_d 9 (some 46) rfl (by kernel_rfl) ?_
  intro o ho hd K hK
  cases ho
  go_simp
  refine (put_zero _ _).mono ?_
  rintro e v2 ⟨rfl, bb⟩
  have hHeld' := hHeld
  clear hHeld
  have hHeld := hHeld'
  clear hHeld'
  refine hK.out _ _ (⟨hHeld.1.below bb hHeld.1.lt, hHeld.2.trans (bb.mono hHeld.2.size)⟩) (fun hHeld => ?_)
  clear hK K hd bb
  try simp only [Act.put, List.setIfInBounds_toArray, List.set_cons_zero, List.set_cons_succ]
  refine one_d 11 (some 48) rfl (by kernel_rfl) ?_
  intro o ho hd K hK
  cases ho
  go_simp
  refine (same_yes _ _ _ _ _ _).mono ?_
  rintro e v3 ⟨rfl, bb⟩
  have hHeld' := hHeld
  clear hHeld
  have hHeld := hHeld'
  clear hHeld'
  refine hK.out _ _ (⟨hHeld.1.below bb hHeld.1.lt, hHeld.2.trans (bb.mono hHeld.2.size)⟩) (fun hHeld => ?_)
  clear hK K hd bb
  try simp only [Act.put, List.setIfInBounds_toArray, List.set_cons_zero, List.set_cons_succ]
  refine take_d 12 (some 49) (.bool true) rfl (by kernel_rfl) (by kernel_rfl) (by kernel_rfl) (fun _ _ _ h => h) (fun oi h => by cases h; exact Or.inl ⟨by rfl, fun w' hS' => by go_simp⟩) hHeld ?_
  try simp only [Act.put, List.setIfInBounds_toArray, List.set_cons_zero, List.set_cons_succ]
  refine take_d 13 (some 8) (.bool true) rfl (by kernel_rfl) (by kernel_rfl) (by kernel_rfl) (fun _ _ _ h => h) (fun oi h => by cases h; exact Or.inl ⟨by rfl, fun w' hS' => by go_simp⟩) hHeld ?_
  try simp only [Act.put, List.setIfInBounds_toArray, List.set_cons_zero, List.set_cons_succ]
  refine wpAnyH_done (by kernel_rfl) ?_ _
  try simp only [Act.put]
  have hb := hHeld.2
  go_wp2
  go_ret
  exact ⟨rfl, hb⟩

set_option maxHeartbeats 2000000 in
theorem shortL (wd ht : Nat) (a2 : ByteArray) (a3 : Int) (w : World) (h1 : 1 ≤ wd) (h2 : wd ≤ 80) (h3 : 1 ≤ ht) (h4 : ht ≤ 24) (hs : 2000 < a2.size) :
    Calls Try.prog 3 #[.int .i64 wd, .int .i64 ht, .string a2, .int .u16 a3] w fun e w' => e = .returned (.bool true) ∧ Below w.heap.size w w' := by
  have CN0 := Lib.hid (scrNew_yes wd ht h1 h2 h3 h4)
  have t0 : (2000 : Int) < (a2.size : Int) := by omega
  have t1 : ¬ (wd : Int) < 1 := by omega
  have t2 : ¬ (80 : Int) < (wd : Int) := by omega
  have t3 : ¬ (ht : Int) < 1 := by omega
  have t4 : ¬ (24 : Int) < (ht : Int) := by omega
  generalize (⟨(List.replicate (wd * ht) 32).toArray⟩ : ByteArray) = B0 at *
  go_enter Try.func3, Try.ntmps3
  go_wp2_with fail
  refine (awake11_any _).mono ?_
  rintro e wa ⟨rfl, ba⟩
  go_wp2_with fail
  refine (CN0.out _).mono ?_
  rintro e w2 ⟨rfl, b2⟩
  have bb2 := ba.trans (b2.mono ba.size)
  have bb3 := bb2.alloc bb2.size (.cells #[.int .i64 wd, .int .i64 ht, .int .i64 0, .int .i64 0, .string B0] 25 (0, 0))
  clear ba b2 bb2
  go_wp2
  go_ret
  exact ⟨rfl, bb3⟩

theorem walk (a0 : Int) (a1 : Int) (a2 : ByteArray) (a3 : Int) (w : World) (w0 : (Lit.int .i64 a0).wf = true) (w1 : (Lit.int .i64 a1).wf = true) (w2 : a2.size ≤ maxLen) (w3 : (Lit.int .u16 a3).wf = true) :
    Calls Try.prog 3 #[.int .i64 a0, .int .i64 a1, .string a2, .int .u16 a3] w fun e w' => e = .returned (.bool true) ∧ Below w.heap.size w w' := by
  obtain ⟨h0, h65⟩ := bounds_u16 w3
  obtain ⟨at_, rfl⟩ := Int.eq_ofNat_of_zero_le h0
  by_cases t1 : a0 < 1
  · exact shortA a0 a1 a2 _ w (by simp; omega) t1
  by_cases t2 : 80 < a0
  · exact shortB a0 a1 a2 _ w (by simp; omega) t1 t2
  by_cases t3 : a1 < 1
  · exact shortC a0 a1 a2 _ w (by simp; omega) t1 t2 t3
  by_cases t4 : 24 < a1
  · exact shortD a0 a1 a2 _ w (by simp; omega) t1 t2 t3 t4
  obtain ⟨wd, rfl⟩ := Int.eq_ofNat_of_zero_le (show 0 ≤ a0 by omega)
  obtain ⟨ht, rfl⟩ := Int.eq_ofNat_of_zero_le (show 0 ≤ a1 by omega)
  by_cases hs : a2.size ≤ 2000
  · exact core wd ht a2 at_ w (by omega) (by omega) (by omega) (by omega) hs (by omega)
  · exact shortL wd ht a2 _ w (by omega) (by omega) (by omega) (by omega) (by omega)
end ScreenPutsW
end Go.Proofs.Ytekpbfbipkjibaa
