/-
  WireRooms: the walk.
-/
import Derived.Test.YtbkeodgiflfakaaMod22
import Derived.Test.YtbkeodgiflfakaaMod12
import Derived.OpenShut
namespace Go.Proofs.Ytbkeodgiflfakaa
open Go.RowKit
set_option linter.unusedVariables false
set_option maxRecDepth 20000
namespace WireRoomsW
theorem three_d {P : Program} {ops : Array Oper} {Q : Exit → Act → World → Prop} {md : Region.Mode} {S : World → Prop} (i j k : Nat) {fuel : Nat} {listed : Array Bool} {a : Act} {w : World} {oi oj ok : Oper} (hi : ops[i]? = some oi) (hj : ops[j]? = some oj) (hk : ops[k]? = some ok)
    (hr : Region.ready md ops listed = [i, j, k])
    (h1 : ∀ K' : Act → World → Prop, Shut (∀ a w, S w → (S w → wpAnyH P md ops Q S fuel (listed.setIfInBounds i true) a w) → K' a w) → if Region.wanted oi (yielded ops a.tmps) = true then Oper.wp P oi a w K' Q else K' (a.put oi.dst undef) w)
    (h2 : ∀ K' : Act → World → Prop, Shut (∀ a w, S w → (S w → wpAnyH P md ops Q S fuel (listed.setIfInBounds j true) a w) → K' a w) → if Region.wanted oj (yielded ops a.tmps) = true then Oper.wp P oj a w K' Q else K' (a.put oj.dst undef) w)
    (h3 : ∀ K' : Act → World → Prop, Shut (∀ a w, S w → (S w → wpAnyH P md ops Q S fuel (listed.setIfInBounds k true) a w) → K' a w) → if Region.wanted ok (yielded ops a.tmps) = true then Oper.wp P ok a w K' Q else K' (a.put ok.dst undef) w) :
    wpAnyH P md ops Q S (fuel + 1) listed a w :=
  wpAnyH_ready hr (by simp) (AllReadyH.cons hi h1 (AllReadyH.cons hj h2 (AllReadyH.cons hk h3 AllReadyH.nil)))
theorem repLen (c : UInt8) (m : Nat) : (Lib.repeatL [c] m).length = m := by rw [Lib.repeatL_length]; simp

set_option maxHeartbeats 8000000 in
theorem outA (st re nm : Nat) (ix : Int) (la : Bool) (tx : ByteArray) (id n : Nat) (w : World) (g1 : 466 < tx.size) (h1 : st < 65536) (h2 : re < 65536) (h3 : nm < 18446744073709551616) (h4 : tx.size ≤ 9223372036854775807) (h5 : id ≤ 18446744073709551615) (h6 : n ≤ 18446744073709551615) :
    Calls Try.prog 5 #[.agg #[.int .u16 (st : Int), .int .u16 (re : Int), .int .u64 (nm : Int), .int .i64 ix, .bool la, .string tx], .int .u64 (id : Int), .int .u64 (n : Int)] w fun e w' => e = .returned (.bool true) ∧ Below w.heap.size w w' := by
  have r0 : Row (w.alloc (.cells #[.int .u16 (st : Int), .int .u16 (re : Int), .int .u64 (nm : Int), .int .i64 ix, .bool la, .string tx] 38 (0, 0))) w.heap.size 38 [.int .u16 (st : Int), .int .u16 (re : Int), .int .u64 (nm : Int), .int .i64 ix, .bool la, .string tx] := Row.new' rfl rfl
  have b0 : Below w.heap.size w (w.alloc (.cells #[.int .u16 (st : Int), .int .u16 (re : Int), .int .u64 (nm : Int), .int .i64 ix, .bool la, .string tx] 38 (0, 0))) := (Below.refl _ _).alloc (Nat.le_refl _) _
  go_enter Try.func5, Try.ntmps5
  go_wp2_with fail
  refine (awake9_any _).mono ?_
  rintro e w1 ⟨rfl, b1⟩
  have r1 := r0.below b1 r0.lt
  have hb1 := b0.trans (b1.mono b0.size)
  clear b1 r0 b0
  go_wp2_with fail
  have g1' : (466 : Int) < (tx.size : Int) := by omega
  refine wp_region_held_drew (S := fun w' => Row w' w.heap.size 38 [.int .u16 (st : Int), .int .u16 (re : Int), .int .u64 (nm : Int), .int .i64 ix, .bool la, .string tx] ∧ Below w.heap.size w w') (by kernel_rfl) (⟨r1.drew, hb1.drew⟩) (fun hHeld => ?_)
  refine take_d 0 (some 17) (.pointer (some ⟨w.heap.size, 5, none⟩)) rfl (by kernel_rfl) (by kernel_rfl) (by kernel_rfl) (fun _ _ _ h => h) (fun oi h => by cases h; exact Or.inl ⟨by rfl, fun w' hS' => by go_simp⟩) hHeld ?_
  try simp only [Act.put, List.setIfInBounds_toArray, List.set_cons_zero, List.set_cons_succ]
  refine take_d 1 (some 18) (.string tx) rfl (by kernel_rfl) (by kernel_rfl) (by kernel_rfl) (fun _ _ _ h => h) (fun oi h => by cases h; exact Or.inl ⟨by rfl, fun w' hS' => by have c : w'.cell? ⟨w.heap.size, 5, none⟩ = some (.string tx) := hS'.1.cell 5; go_simp⟩) hHeld ?_
  try simp only [Act.put, List.setIfInBounds_toArray, List.set_cons_zero, List.set_cons_succ]
  refine take_d 2 (some 19) (.int .i64 (tx.size : Int)) rfl (by kernel_rfl) (by kernel_rfl) (by kernel_rfl) (fun _ _ _ h => h) (fun oi h => by cases h; exact Or.inl ⟨by rfl, fun w' hS' => by go_simp⟩) hHeld ?_
  try simp only [Act.put, List.setIfInBounds_toArray, List.set_cons_zero, List.set_cons_succ]
  refine one_d 3 (some 20) rfl (by kernel_rfl) ?_
  intro o ho hd K hK
  cases ho
  go_simp
  refine (room_any _).mono ?_
  rintro e wq ⟨rfl, rfl⟩
  refine hK.out _ _ hHeld (fun hHeld => ?_)
  clear hK K hd
  try simp only [Act.put, List.setIfInBounds_toArray, List.set_cons_zero, List.set_cons_succ]
  refine take_d 4 (some 21) (.bool true) rfl (by kernel_rfl) (by kernel_rfl) (by kernel_rfl) (fun _ _ _ h => h) (fun oi h => by cases h; exact Or.inl ⟨by rfl, fun w' hS' => by go_simp⟩) hHeld ?_
  try simp only [Act.put, List.setIfInBounds_toArray, List.set_cons_zero, List.set_cons_succ]
  refine take_d 5 (some 22) (.bool true) rfl (by kernel_rfl) (by kernel_rfl) (by kernel_rfl) (fun _ _ _ h => h) (fun oi h => by cases h; exact Or.inl ⟨by rfl, fun w' hS' => by go_simp⟩) hHeld ?_
  try simp only [Act.put, List.setIfInBounds_toArray, List.set_cons_zero, List.set_cons_succ]
  refine take_d 6 (some 23) (undef) rfl (by kernel_rfl) (by kernel_rfl) (by kernel_rfl) (fun _ _ _ h => h) (fun oi h => by cases h; exact Or.inr ⟨by rfl, rfl⟩) hHeld ?_
  try simp only [Act.put, List.setIfInBounds_toArray, List.set_cons_zero, List.set_cons_succ]
  refine take_d 7 (some 24) (undef) rfl (by kernel_rfl) (by kernel_rfl) (by kernel_rfl) (fun _ _ _ h => h) (fun oi h => by cases h; exact Or.inr ⟨by rfl, rfl⟩) hHeld ?_
  try simp only [Act.put, List.setIfInBounds_toArray, List.set_cons_zero, List.set_cons_succ]
  refine take_d 8 (some 25) (undef) rfl (by kernel_rfl) (by kernel_rfl) (by kernel_rfl) (fun _ _ _ h => h) (fun oi h => by cases h; exact Or.inr ⟨by rfl, rfl⟩) hHeld ?_
  try simp only [Act.put, List.setIfInBounds_toArray, List.set_cons_zero, List.set_cons_succ]
  refine take_d 9 (some 26) (.bool true) rfl (by kernel_rfl) (by kernel_rfl) (by kernel_rfl) (fun _ _ _ h => h) (fun oi h => by cases h; exact Or.inl ⟨by rfl, fun w' hS' => by go_simp⟩) hHeld ?_
  try simp only [Act.put, List.setIfInBounds_toArray, List.set_cons_zero, List.set_cons_succ]
  refine take_d 10 (some 27) (.bool true) rfl (by kernel_rfl) (by kernel_rfl) (by kernel_rfl) (fun _ _ _ h => h) (fun oi h => by cases h; exact Or.inl ⟨by rfl, fun w' hS' => by go_simp⟩) hHeld ?_
  try simp only [Act.put, List.setIfInBounds_toArray, List.set_cons_zero, List.set_cons_succ]
  refine take_d 11 (some 28) (undef) rfl (by kernel_rfl) (by kernel_rfl) (by kernel_rfl) (fun _ _ _ h => h) (fun oi h => by cases h; exact Or.inr ⟨by rfl, rfl⟩) hHeld ?_
  try simp only [Act.put, List.setIfInBounds_toArray, List.set_cons_zero, List.set_cons_succ]
  refine take_d 12 (some 29) (undef) rfl (by kernel_rfl) (by kernel_rfl) (by kernel_rfl) (fun _ _ _ h => h) (fun oi h => by cases h; exact Or.inr ⟨by rfl, rfl⟩) hHeld ?_
  try simp only [Act.put, List.setIfInBounds_toArray, List.set_cons_zero, List.set_cons_succ]
  refine take_d 13 (some 30) (undef) rfl (by kernel_rfl) (by kernel_rfl) (by kernel_rfl) (fun _ _ _ h => h) (fun oi h => by cases h; exact Or.inr ⟨by rfl, rfl⟩) hHeld ?_
  try simp only [Act.put, List.setIfInBounds_toArray, List.set_cons_zero, List.set_cons_succ]
  refine take_d 14 (some 31) (.bool true) rfl (by kernel_rfl) (by kernel_rfl) (by kernel_rfl) (fun _ _ _ h => h) (fun oi h => by cases h; exact Or.inl ⟨by rfl, fun w' hS' => by go_simp⟩) hHeld ?_
  try simp only [Act.put, List.setIfInBounds_toArray, List.set_cons_zero, List.set_cons_succ]
  refine wpAnyH_done (by kernel_rfl) ?_ _
  try simp only [Act.put]
  have hb := hHeld.2
  go_wp2
  go_ret
  exact ⟨rfl, hb⟩

set_option maxHeartbeats 8000000 in
theorem outB (st re nm : Nat) (ix : Int) (la : Bool) (tx : ByteArray) (id n : Nat) (w : World) (g1 : ¬ 466 < tx.size) (g2 : ix < 0) (h1 : st < 65536) (h2 : re < 65536) (h3 : nm < 18446744073709551616) (h4 : tx.size ≤ 9223372036854775807) (h5 : id ≤ 18446744073709551615) (h6 : n ≤ 18446744073709551615) :
    Calls Try.prog 5 #[.agg #[.int .u16 (st : Int), .int .u16 (re : Int), .int .u64 (nm : Int), .int .i64 ix, .bool la, .string tx], .int .u64 (id : Int), .int .u64 (n : Int)] w fun e w' => e = .returned (.bool true) ∧ Below w.heap.size w w' := by
  have r0 : Row (w.alloc (.cells #[.int .u16 (st : Int), .int .u16 (re : Int), .int .u64 (nm : Int), .int .i64 ix, .bool la, .string tx] 38 (0, 0))) w.heap.size 38 [.int .u16 (st : Int), .int .u16 (re : Int), .int .u64 (nm : Int), .int .i64 ix, .bool la, .string tx] := Row.new' rfl rfl
  have b0 : Below w.heap.size w (w.alloc (.cells #[.int .u16 (st : Int), .int .u16 (re : Int), .int .u64 (nm : Int), .int .i64 ix, .bool la, .string tx] 38 (0, 0))) := (Below.refl _ _).alloc (Nat.le_refl _) _
  go_enter Try.func5, Try.ntmps5
  go_wp2_with fail
  refine (awake9_any _).mono ?_
  rintro e w1 ⟨rfl, b1⟩
  have r1 := r0.below b1 r0.lt
  have hb1 := b0.trans (b1.mono b0.size)
  clear b1 r0 b0
  go_wp2_with fail
  have g1' : ¬ (466 : Int) < (tx.size : Int) := by omega
  refine wp_region_held_drew (S := fun w' => Row w' w.heap.size 38 [.int .u16 (st : Int), .int .u16 (re : Int), .int .u64 (nm : Int), .int .i64 ix, .bool la, .string tx] ∧ Below w.heap.size w w') (by kernel_rfl) (⟨r1.drew, hb1.drew⟩) (fun hHeld => ?_)
  refine take_d 0 (some 17) (.pointer (some ⟨w.heap.size, 5, none⟩)) rfl (by kernel_rfl) (by kernel_rfl) (by kernel_rfl) (fun _ _ _ h => h) (fun oi h => by cases h; exact Or.inl ⟨by rfl, fun w' hS' => by go_simp⟩) hHeld ?_
  try simp only [Act.put, List.setIfInBounds_toArray, List.set_cons_zero, List.set_cons_succ]
  refine take_d 1 (some 18) (.string tx) rfl (by kernel_rfl) (by kernel_rfl) (by kernel_rfl) (fun _ _ _ h => h) (fun oi h => by cases h; exact Or.inl ⟨by rfl, fun w' hS' => by have c : w'.cell? ⟨w.heap.size, 5, none⟩ = some (.string tx) := hS'.1.cell 5; go_simp⟩) hHeld ?_
  try simp only [Act.put, List.setIfInBounds_toArray, List.set_cons_zero, List.set_cons_succ]
  refine take_d 2 (some 19) (.int .i64 (tx.size : Int)) rfl (by kernel_rfl) (by kernel_rfl) (by kernel_rfl) (fun _ _ _ h => h) (fun oi h => by cases h; exact Or.inl ⟨by rfl, fun w' hS' => by go_simp⟩) hHeld ?_
  try simp only [Act.put, List.setIfInBounds_toArray, List.set_cons_zero, List.set_cons_succ]
  refine one_d 3 (some 20) rfl (by kernel_rfl) ?_
  intro o ho hd K hK
  cases ho
  go_simp
  refine (room_any _).mono ?_
  rintro e wq ⟨rfl, rfl⟩
  refine hK.out _ _ hHeld (fun hHeld => ?_)
  clear hK K hd
  try simp only [Act.put, List.setIfInBounds_toArray, List.set_cons_zero, List.set_cons_succ]
  refine take_d 4 (some 21) (.bool false) rfl (by kernel_rfl) (by kernel_rfl) (by kernel_rfl) (fun _ _ _ h => h) (fun oi h => by cases h; exact Or.inl ⟨by rfl, fun w' hS' => by go_simp⟩) hHeld ?_
  try simp only [Act.put, List.setIfInBounds_toArray, List.set_cons_zero, List.set_cons_succ]
  refine take_d 5 (some 22) (.bool false) rfl (by kernel_rfl) (by kernel_rfl) (by kernel_rfl) (fun _ _ _ h => h) (fun oi h => by cases h; exact Or.inl ⟨by rfl, fun w' hS' => by go_simp⟩) hHeld ?_
  try simp only [Act.put, List.setIfInBounds_toArray, List.set_cons_zero, List.set_cons_succ]
  refine take_d 6 (some 23) (.pointer (some ⟨w.heap.size, 3, none⟩)) rfl (by kernel_rfl) (by kernel_rfl) (by kernel_rfl) (fun _ _ _ h => h) (fun oi h => by cases h; exact Or.inl ⟨by rfl, fun w' hS' => by go_simp⟩) hHeld ?_
  try simp only [Act.put, List.setIfInBounds_toArray, List.set_cons_zero, List.set_cons_succ]
  refine take_d 7 (some 24) (.int .i64 ix) rfl (by kernel_rfl) (by kernel_rfl) (by kernel_rfl) (fun _ _ _ h => h) (fun oi h => by cases h; exact Or.inl ⟨by rfl, fun w' hS' => by have c : w'.cell? ⟨w.heap.size, 3, none⟩ = some (.int .i64 ix) := hS'.1.cell 3; go_simp⟩) hHeld ?_
  try simp only [Act.put, List.setIfInBounds_toArray, List.set_cons_zero, List.set_cons_succ]
  refine take_d 8 (some 25) (.bool true) rfl (by kernel_rfl) (by kernel_rfl) (by kernel_rfl) (fun _ _ _ h => h) (fun oi h => by cases h; exact Or.inl ⟨by rfl, fun w' hS' => by go_simp⟩) hHeld ?_
  try simp only [Act.put, List.setIfInBounds_toArray, List.set_cons_zero, List.set_cons_succ]
  refine take_d 9 (some 26) (.bool true) rfl (by kernel_rfl) (by kernel_rfl) (by kernel_rfl) (fun _ _ _ h => h) (fun oi h => by cases h; exact Or.inl ⟨by rfl, fun w' hS' => by go_simp⟩) hHeld ?_
  try simp only [Act.put, List.setIfInBounds_toArray, List.set_cons_zero, List.set_cons_succ]
  refine take_d 10 (some 27) (.bool true) rfl (by kernel_rfl) (by kernel_rfl) (by kernel_rfl) (fun _ _ _ h => h) (fun oi h => by cases h; exact Or.inl ⟨by rfl, fun w' hS' => by go_simp⟩) hHeld ?_
  try simp only [Act.put, List.setIfInBounds_toArray, List.set_cons_zero, List.set_cons_succ]
  refine take_d 11 (some 28) (undef) rfl (by kernel_rfl) (by kernel_rfl) (by kernel_rfl) (fun _ _ _ h => h) (fun oi h => by cases h; exact Or.inr ⟨by rfl, rfl⟩) hHeld ?_
  try simp only [Act.put, List.setIfInBounds_toArray, List.set_cons_zero, List.set_cons_succ]
  refine take_d 12 (some 29) (undef) rfl (by kernel_rfl) (by kernel_rfl) (by kernel_rfl) (fun _ _ _ h => h) (fun oi h => by cases h; exact Or.inr ⟨by rfl, rfl⟩) hHeld ?_
  try simp only [Act.put, List.setIfInBounds_toArray, List.set_cons_zero, List.set_cons_succ]
  refine take_d 13 (some 30) (undef) rfl (by kernel_rfl) (by kernel_rfl) (by kernel_rfl) (fun _ _ _ h => h) (fun oi h => by cases h; exact Or.inr ⟨by rfl, rfl⟩) hHeld ?_
  try simp only [Act.put, List.setIfInBounds_toArray, List.set_cons_zero, List.set_cons_succ]
  refine take_d 14 (some 31) (.bool true) rfl (by kernel_rfl) (by kernel_rfl) (by kernel_rfl) (fun _ _ _ h => h) (fun oi h => by cases h; exact Or.inl ⟨by rfl, fun w' hS' => by go_simp⟩) hHeld ?_
  try simp only [Act.put, List.setIfInBounds_toArray, List.set_cons_zero, List.set_cons_succ]
  refine wpAnyH_done (by kernel_rfl) ?_ _
  try simp only [Act.put]
  have hb := hHeld.2
  go_wp2
  go_ret
  exact ⟨rfl, hb⟩

set_option maxHeartbeats 8000000 in
theorem outC (st re nm : Nat) (ix : Int) (la : Bool) (tx : ByteArray) (id n : Nat) (w : World) (g1 : ¬ 466 < tx.size) (g2 : ¬ ix < 0) (g3 : 31 < ix) (h1 : st < 65536) (h2 : re < 65536) (h3 : nm < 18446744073709551616) (h4 : tx.size ≤ 9223372036854775807) (h5 : id ≤ 18446744073709551615) (h6 : n ≤ 18446744073709551615) :
    Calls Try.prog 5 #[.agg #[.int .u16 (st : Int), .int .u16 (re : Int), .int .u64 (nm : Int), .int .i64 ix, .bool la, .string tx], .int .u64 (id : Int), .int .u64 (n : Int)] w fun e w' => e = .returned (.bool true) ∧ Below w.heap.size w w' := by
  have r0 : Row (w.alloc (.cells #[.int .u16 (st : Int), .int .u16 (re : Int), .int .u64 (nm : Int), .int .i64 ix, .bool la, .string tx] 38 (0, 0))) w.heap.size 38 [.int .u16 (st : Int), .int .u16 (re : Int), .int .u64 (nm : Int), .int .i64 ix, .bool la, .string tx] := Row.new' rfl rfl
  have b0 : Below w.heap.size w (w.alloc (.cells #[.int .u16 (st : Int), .int .u16 (re : Int), .int .u64 (nm : Int), .int .i64 ix, .bool la, .string tx] 38 (0, 0))) := (Below.refl _ _).alloc (Nat.le_refl _) _
  go_enter Try.func5, Try.ntmps5
  go_wp2_with fail
  refine (awake9_any _).mono ?_
  rintro e w1 ⟨rfl, b1⟩
  have r1 := r0.below b1 r0.lt
  have hb1 := b0.trans (b1.mono b0.size)
  clear b1 r0 b0
  go_wp2_with fail
  have g1' : ¬ (466 : Int) < (tx.size : Int) := by omega
  refine wp_region_held_drew (S := fun w' => Row w' w.heap.size 38 [.int .u16 (st : Int), .int .u16 (re : Int), .int .u64 (nm : Int), .int .i64 ix, .bool la, .string tx] ∧ Below w.heap.size w w') (by kernel_rfl) (⟨r1.drew, hb1.drew⟩) (fun hHeld => ?_)
  refine take_d 0 (some 17) (.pointer (some ⟨w.heap.size, 5, none⟩)) rfl (by kernel_rfl) (by kernel_rfl) (by kernel_rfl) (fun _ _ _ h => h) (fun oi h => by cases h; exact Or.inl ⟨by rfl, fun w' hS' => by go_simp⟩) hHeld ?_
  try simp only [Act.put, List.setIfInBounds_toArray, List.set_cons_zero, List.set_cons_succ]
  refine take_d 1 (some 18) (.string tx) rfl (by kernel_rfl) (by kernel_rfl) (by kernel_rfl) (fun _ _ _ h => h) (fun oi h => by cases h; exact Or.inl ⟨by rfl, fun w' hS' => by have c : w'.cell? ⟨w.heap.size, 5, none⟩ = some (.string tx) := hS'.1.cell 5; go_simp⟩) hHeld ?_
  try simp only [Act.put, List.setIfInBounds_toArray, List.set_cons_zero, List.set_cons_succ]
  refine take_d 2 (some 19) (.int .i64 (tx.size : Int)) rfl (by kernel_rfl) (by kernel_rfl) (by kernel_rfl) (fun _ _ _ h => h) (fun oi h => by cases h; exact Or.inl ⟨by rfl, fun w' hS' => by go_simp⟩) hHeld ?_
  try simp only [Act.put, List.setIfInBounds_toArray, List.set_cons_zero, List.set_cons_succ]
  refine one_d 3 (some 20) rfl (by kernel_rfl) ?_
  intro o ho hd K hK
  cases ho
  go_simp
  refine (room_any _).mono ?_
  rintro e wq ⟨rfl, rfl⟩
  refine hK.out _ _ hHeld (fun hHeld => ?_)
  clear hK K hd
  try simp only [Act.put, List.setIfInBounds_toArray, List.set_cons_zero, List.set_cons_succ]
  refine take_d 4 (some 21) (.bool false) rfl (by kernel_rfl) (by kernel_rfl) (by kernel_rfl) (fun _ _ _ h => h) (fun oi h => by cases h; exact Or.inl ⟨by rfl, fun w' hS' => by go_simp⟩) hHeld ?_
  try simp only [Act.put, List.setIfInBounds_toArray, List.set_cons_zero, List.set_cons_succ]
  refine take_d 5 (some 22) (.bool false) rfl (by kernel_rfl) (by kernel_rfl) (by kernel_rfl) (fun _ _ _ h => h) (fun oi h => by cases h; exact Or.inl ⟨by rfl, fun w' hS' => by go_simp⟩) hHeld ?_
  try simp only [Act.put, List.setIfInBounds_toArray, List.set_cons_zero, List.set_cons_succ]
  refine take_d 6 (some 23) (.pointer (some ⟨w.heap.size, 3, none⟩)) rfl (by kernel_rfl) (by kernel_rfl) (by kernel_rfl) (fun _ _ _ h => h) (fun oi h => by cases h; exact Or.inl ⟨by rfl, fun w' hS' => by go_simp⟩) hHeld ?_
  try simp only [Act.put, List.setIfInBounds_toArray, List.set_cons_zero, List.set_cons_succ]
  refine take_d 7 (some 24) (.int .i64 ix) rfl (by kernel_rfl) (by kernel_rfl) (by kernel_rfl) (fun _ _ _ h => h) (fun oi h => by cases h; exact Or.inl ⟨by rfl, fun w' hS' => by have c : w'.cell? ⟨w.heap.size, 3, none⟩ = some (.int .i64 ix) := hS'.1.cell 3; go_simp⟩) hHeld ?_
  try simp only [Act.put, List.setIfInBounds_toArray, List.set_cons_zero, List.set_cons_succ]
  refine take_d 8 (some 25) (.bool false) rfl (by kernel_rfl) (by kernel_rfl) (by kernel_rfl) (fun _ _ _ h => h) (fun oi h => by cases h; exact Or.inl ⟨by rfl, fun w' hS' => by go_simp⟩) hHeld ?_
  try simp only [Act.put, List.setIfInBounds_toArray, List.set_cons_zero, List.set_cons_succ]
  refine take_d 9 (some 26) (.bool false) rfl (by kernel_rfl) (by kernel_rfl) (by kernel_rfl) (fun _ _ _ h => h) (fun oi h => by cases h; exact Or.inl ⟨by rfl, fun w' hS' => by go_simp⟩) hHeld ?_
  try simp only [Act.put, List.setIfInBounds_toArray, List.set_cons_zero, List.set_cons_succ]
  refine take_d 10 (some 27) (.bool false) rfl (by kernel_rfl) (by kernel_rfl) (by kernel_rfl) (fun _ _ _ h => h) (fun oi h => by cases h; exact Or.inl ⟨by rfl, fun w' hS' => by go_simp⟩) hHeld ?_
  try simp only [Act.put, List.setIfInBounds_toArray, List.set_cons_zero, List.set_cons_succ]
  refine take_d 11 (some 28) (.pointer (some ⟨w.heap.size, 3, none⟩)) rfl (by kernel_rfl) (by kernel_rfl) (by kernel_rfl) (fun _ _ _ h => h) (fun oi h => by cases h; exact Or.inl ⟨by rfl, fun w' hS' => by go_simp⟩) hHeld ?_
  try simp only [Act.put, List.setIfInBounds_toArray, List.set_cons_zero, List.set_cons_succ]
  refine take_d 12 (some 29) (.int .i64 ix) rfl (by kernel_rfl) (by kernel_rfl) (by kernel_rfl) (fun _ _ _ h => h) (fun oi h => by cases h; exact Or.inl ⟨by rfl, fun w' hS' => by have c : w'.cell? ⟨w.heap.size, 3, none⟩ = some (.int .i64 ix) := hS'.1.cell 3; go_simp⟩) hHeld ?_
  try simp only [Act.put, List.setIfInBounds_toArray, List.set_cons_zero, List.set_cons_succ]
  refine take_d 13 (some 30) (.bool true) rfl (by kernel_rfl) (by kernel_rfl) (by kernel_rfl) (fun _ _ _ h => h) (fun oi h => by cases h; exact Or.inl ⟨by rfl, fun w' hS' => by go_simp⟩) hHeld ?_
  try simp only [Act.put, List.setIfInBounds_toArray, List.set_cons_zero, List.set_cons_succ]
  refine take_d 14 (some 31) (.bool true) rfl (by kernel_rfl) (by kernel_rfl) (by kernel_rfl) (fun _ _ _ h => h) (fun oi h => by cases h; exact Or.inl ⟨by rfl, fun w' hS' => by go_simp⟩) hHeld ?_
  try simp only [Act.put, List.setIfInBounds_toArray, List.set_cons_zero, List.set_cons_succ]
  refine wpAnyH_done (by kernel_rfl) ?_ _
  try simp only [Act.put]
  have hb := hHeld.2
  go_wp2
  go_ret
  exact ⟨rfl, hb⟩

set_option maxHeartbeats 8000000 in
theorem core (st re nm : Nat) (ix : Int) (la : Bool) (tx : ByteArray) (id n : Nat) (w : World) (g1 : ¬ 466 < tx.size) (g2 : ¬ ix < 0) (g3 : ¬ 31 < ix) (h1 : st < 65536) (h2 : re < 65536) (h3 : nm < 18446744073709551616) (h4 : tx.size ≤ 9223372036854775807) (h5 : id ≤ 18446744073709551615) (h6 : n ≤ 18446744073709551615) :
    Calls Try.prog 5 #[.agg #[.int .u16 (st : Int), .int .u16 (re : Int), .int .u64 (nm : Int), .int .i64 ix, .bool la, .string tx], .int .u64 (id : Int), .int .u64 (n : Int)] w fun e w' => e = .returned (.bool true) ∧ Below w.heap.size w w' := by
  have r0 : Row (w.alloc (.cells #[.int .u16 (st : Int), .int .u16 (re : Int), .int .u64 (nm : Int), .int .i64 ix, .bool la, .string tx] 38 (0, 0))) w.heap.size 38 [.int .u16 (st : Int), .int .u16 (re : Int), .int .u64 (nm : Int), .int .i64 ix, .bool la, .string tx] := Row.new' rfl rfl
  have b0 : Below w.heap.size w (w.alloc (.cells #[.int .u16 (st : Int), .int .u16 (re : Int), .int .u64 (nm : Int), .int .i64 ix, .bool la, .string tx] 38 (0, 0))) := (Below.refl _ _).alloc (Nat.le_refl _) _
  go_enter Try.func5, Try.ntmps5
  go_wp2_with fail
  refine (awake9_any _).mono ?_
  rintro e w1 ⟨rfl, b1⟩
  have r1 := r0.below b1 r0.lt
  have hb1 := b0.trans (b1.mono b0.size)
  clear b1 r0 b0
  go_wp2_with fail
  have g1' : ¬ (466 : Int) < (tx.size : Int) := by omega
  refine wp_region_held_drew (S := fun w' => Row w' w.heap.size 38 [.int .u16 (st : Int), .int .u16 (re : Int), .int .u64 (nm : Int), .int .i64 ix, .bool la, .string tx] ∧ Below w.heap.size w w') (by kernel_rfl) (⟨r1.drew, hb1.drew⟩) (fun hHeld => ?_)
  refine take_d 0 (some 17) (.pointer (some ⟨w.heap.size, 5, none⟩)) rfl (by kernel_rfl) (by kernel_rfl) (by kernel_rfl) (fun _ _ _ h => h) (fun oi h => by cases h; exact Or.inl ⟨by rfl, fun w' hS' => by go_simp⟩) hHeld ?_
  try simp only [Act.put, List.setIfInBounds_toArray, List.set_cons_zero, List.set_cons_succ]
  refine take_d 1 (some 18) (.string tx) rfl (by kernel_rfl) (by kernel_rfl) (by kernel_rfl) (fun _ _ _ h => h) (fun oi h => by cases h; exact Or.inl ⟨by rfl, fun w' hS' => by have c : w'.cell? ⟨w.heap.size, 5, none⟩ = some (.string tx) := hS'.1.cell 5; go_simp⟩) hHeld ?_
  try simp only [Act.put, List.setIfInBounds_toArray, List.set_cons_zero, List.set_cons_succ]
  refine take_d 2 (some 19) (.int .i64 (tx.size : Int)) rfl (by kernel_rfl) (by kernel_rfl) (by kernel_rfl) (fun _ _ _ h => h) (fun oi h => by cases h; exact Or.inl ⟨by rfl, fun w' hS' => by go_simp⟩) hHeld ?_
  try simp only [Act.put, List.setIfInBounds_toArray, List.set_cons_zero, List.set_cons_succ]
  refine one_d 3 (some 20) rfl (by kernel_rfl) ?_
  intro o ho hd K hK
  cases ho
  go_simp
  refine (room_any _).mono ?_
  rintro e wq ⟨rfl, rfl⟩
  refine hK.out _ _ hHeld (fun hHeld => ?_)
  clear hK K hd
  try simp only [Act.put, List.setIfInBounds_toArray, List.set_cons_zero, List.set_cons_succ]
  refine take_d 4 (some 21) (.bool false) rfl (by kernel_rfl) (by kernel_rfl) (by kernel_rfl) (fun _ _ _ h => h) (fun oi h => by cases h; exact Or.inl ⟨by rfl, fun w' hS' => by go_simp⟩) hHeld ?_
  try simp only [Act.put, List.setIfInBounds_toArray, List.set_cons_zero, List.set_cons_succ]
  refine take_d 5 (some 22) (.bool false) rfl (by kernel_rfl) (by kernel_rfl) (by kernel_rfl) (fun _ _ _ h => h) (fun oi h => by cases h; exact Or.inl ⟨by rfl, fun w' hS' => by go_simp⟩) hHeld ?_
  try simp only [Act.put, List.setIfInBounds_toArray, List.set_cons_zero, List.set_cons_succ]
  refine take_d 6 (some 23) (.pointer (some ⟨w.heap.size, 3, none⟩)) rfl (by kernel_rfl) (by kernel_rfl) (by kernel_rfl) (fun _ _ _ h => h) (fun oi h => by cases h; exact Or.inl ⟨by rfl, fun w' hS' => by go_simp⟩) hHeld ?_
  try simp only [Act.put, List.setIfInBounds_toArray, List.set_cons_zero, List.set_cons_succ]
  refine take_d 7 (some 24) (.int .i64 ix) rfl (by kernel_rfl) (by kernel_rfl) (by kernel_rfl) (fun _ _ _ h => h) (fun oi h => by cases h; exact Or.inl ⟨by rfl, fun w' hS' => by have c : w'.cell? ⟨w.heap.size, 3, none⟩ = some (.int .i64 ix) := hS'.1.cell 3; go_simp⟩) hHeld ?_
  try simp only [Act.put, List.setIfInBounds_toArray, List.set_cons_zero, List.set_cons_succ]
  refine take_d 8 (some 25) (.bool false) rfl (by kernel_rfl) (by kernel_rfl) (by kernel_rfl) (fun _ _ _ h => h) (fun oi h => by cases h; exact Or.inl ⟨by rfl, fun w' hS' => by go_simp⟩) hHeld ?_
  try simp only [Act.put, List.setIfInBounds_toArray, List.set_cons_zero, List.set_cons_succ]
  refine take_d 9 (some 26) (.bool false) rfl (by kernel_rfl) (by kernel_rfl) (by kernel_rfl) (fun _ _ _ h => h) (fun oi h => by cases h; exact Or.inl ⟨by rfl, fun w' hS' => by go_simp⟩) hHeld ?_
  try simp only [Act.put, List.setIfInBounds_toArray, List.set_cons_zero, List.set_cons_succ]
  refine take_d 10 (some 27) (.bool false) rfl (by kernel_rfl) (by kernel_rfl) (by kernel_rfl) (fun _ _ _ h => h) (fun oi h => by cases h; exact Or.inl ⟨by rfl, fun w' hS' => by go_simp⟩) hHeld ?_
  try simp only [Act.put, List.setIfInBounds_toArray, List.set_cons_zero, List.set_cons_succ]
  refine take_d 11 (some 28) (.pointer (some ⟨w.heap.size, 3, none⟩)) rfl (by kernel_rfl) (by kernel_rfl) (by kernel_rfl) (fun _ _ _ h => h) (fun oi h => by cases h; exact Or.inl ⟨by rfl, fun w' hS' => by go_simp⟩) hHeld ?_
  try simp only [Act.put, List.setIfInBounds_toArray, List.set_cons_zero, List.set_cons_succ]
  refine take_d 12 (some 29) (.int .i64 ix) rfl (by kernel_rfl) (by kernel_rfl) (by kernel_rfl) (fun _ _ _ h => h) (fun oi h => by cases h; exact Or.inl ⟨by rfl, fun w' hS' => by have c : w'.cell? ⟨w.heap.size, 3, none⟩ = some (.int .i64 ix) := hS'.1.cell 3; go_simp⟩) hHeld ?_
  try simp only [Act.put, List.setIfInBounds_toArray, List.set_cons_zero, List.set_cons_succ]
  refine take_d 13 (some 30) (.bool false) rfl (by kernel_rfl) (by kernel_rfl) (by kernel_rfl) (fun _ _ _ h => h) (fun oi h => by cases h; exact Or.inl ⟨by rfl, fun w' hS' => by go_simp⟩) hHeld ?_
  try simp only [Act.put, List.setIfInBounds_toArray, List.set_cons_zero, List.set_cons_succ]
  refine take_d 14 (some 31) (.bool false) rfl (by kernel_rfl) (by kernel_rfl) (by kernel_rfl) (fun _ _ _ h => h) (fun oi h => by cases h; exact Or.inl ⟨by rfl, fun w' hS' => by go_simp⟩) hHeld ?_
  try simp only [Act.put, List.setIfInBounds_toArray, List.set_cons_zero, List.set_cons_succ]
  refine wpAnyH_done (by kernel_rfl) ?_ _
  try simp only [Act.put]
  obtain ⟨r2, hb2⟩ := hHeld
  clear r1 hb1
  generalize w1.drew = wz at *
  obtain ⟨kx, rfl⟩ : ∃ kx : Nat, ix = (kx : Int) := ⟨ix.toNat, by omega⟩
  have hkx : kx ≤ 31 := by omega
  obtain ⟨m, hm⟩ : ∃ m : Nat, m = 466 - tx.size := ⟨_, rfl⟩
  have hsub : (466 : Int) - (tx.size : Int) = (m : Int) := by omega
  have hw1 : IntKind.i64.wrap ((466 : Int) - (tx.size : Int)) = (m : Int) := by rw [IntKind.wrap_i64]; omega
  have CR : Hid (∀ wx, Calls Try.prog 18 #[.string ⟨#[120]⟩, .int .i64 (m : Int)] wx fun e w' => e = .returned (.string ⟨(Lib.repeatL [120] m).toArray⟩) ∧ Below wx.heap.size wx w') := fun wx => Try.strings_Repeat ⟨#[120]⟩ m wx (by omega) (by show 1 * m ≤ _; omega)
  have C16 : Hid (∀ wx, Calls Try.prog 18 #[.string ⟨#[116]⟩, .int .i64 16] wx fun e w' => e = .returned (.string ⟨(Lib.repeatL [116] 16).toArray⟩) ∧ Below wx.heap.size wx w') := fun wx => Try.strings_Repeat ⟨#[116]⟩ 16 wx (by decide) (by decide)
  have C17 : Hid (∀ wx, Calls Try.prog 18 #[.string ⟨#[116]⟩, .int .i64 17] wx fun e w' => e = .returned (.string ⟨(Lib.repeatL [116] 17).toArray⟩) ∧ Below wx.heap.size wx w') := fun wx => Try.strings_Repeat ⟨#[116]⟩ 17 wx (by decide) (by decide)
  have sR : (⟨(Lib.repeatL [120] m).toArray⟩ : ByteArray).size = m := by rw [X9.szL, repLen]
  have s16 : (⟨(Lib.repeatL [116] 16).toArray⟩ : ByteArray).size = 16 := by rw [X9.szL, repLen]
  have s17 : (⟨(Lib.repeatL [116] 17).toArray⟩ : ByteArray).size = 17 := by rw [X9.szL, repLen]
  generalize (⟨(Lib.repeatL [120] m).toArray⟩ : ByteArray) = X at *
  generalize (⟨(Lib.repeatL [116] 16).toArray⟩ : ByteArray) = Y at *
  generalize (⟨(Lib.repeatL [116] 17).toArray⟩ : ByteArray) = Z at *
  have hTX : (tx ++ X).size = 466 := by rw [ByteArray.size_append]; omega
  have hTX1 : (tx ++ X ++ ⟨#[120]⟩).size = 467 := by rw [ByteArray.size_append, hTX]; rfl
  have CB : Hid (∀ wx, Calls Try.prog 12 #[.agg #[.int .u16 (st : Int), .int .u16 (re : Int), .int .u64 (nm : Int), .int .i64 (kx : Int), .bool la, .string (tx ++ X)]] wx fun e w' => e = .returned (.tuple #[.string ⟨(X9.partL st re nm (X9.ixN kx la) (tx ++ X).data.toList).toArray⟩, .int .i64 0]) ∧ Below wx.heap.size wx w') := fun wx => pBytes_yes st re nm kx la (tx ++ X) h1 h2 h3 hkx (by omega) wx
  have CL : Hid (∀ wx, Calls Try.prog 12 #[.agg #[.int .u16 (st : Int), .int .u16 (re : Int), .int .u64 (nm : Int), .int .i64 (kx : Int), .bool la, .string (tx ++ X ++ ⟨#[120]⟩)]] wx fun e w' => e = .returned (.tuple #[.string ⟨#[]⟩, .int .i64 5]) ∧ Below wx.heap.size wx w') := fun wx => by
    have hE : pFaultE (kx : Int) (tx ++ X ++ ⟨#[120]⟩).size = 5 := by rw [hTX1]; unfold pFaultE; rw [if_neg (by omega), if_pos (by omega)]
    have := pBytes_no st re nm (kx : Int) la (tx ++ X ++ ⟨#[120]⟩) (by rw [hE]; decide) (by omega) wx
    rwa [hE] at this
  have sB : (⟨(X9.partL st re nm (X9.ixN kx la) (tx ++ X).data.toList).toArray⟩ : ByteArray).size = 480 := by
    rw [X9.szL, X9.partL_length, show (tx ++ X).data.toList.length = (tx ++ X).size from by simp, hTX]
  generalize (⟨(X9.partL st re nm (X9.ixN kx la) (tx ++ X).data.toList).toArray⟩ : ByteArray) = Bt at *
  have sBY : (Bt ++ Y).size = 496 := by rw [ByteArray.size_append]; omega
  have sBZ : (Bt ++ Z).size = 497 := by rw [ByteArray.size_append]; omega
  have CD : Hid (∀ wx, Calls Try.prog 8 #[.agg #[.int .u64 (id : Int), .int .u64 (n : Int), .string (Bt ++ Y)]] wx fun e w' => e = .returned (.tuple #[.string ⟨(C.blk id n ++ (Bt ++ Y).data.toList).toArray⟩, .int .i64 0]) ∧ Below wx.heap.size wx w') := fun wx => dBytes_yes id n (Bt ++ Y) h5 h6 (by omega) (by omega) wx
  have CE : Hid (∀ wx, Calls Try.prog 8 #[.agg #[.int .u64 0, .int .u64 0, .string (Bt ++ Z)]] wx fun e w' => e = .returned (.tuple #[.string ⟨#[]⟩, .int .i64 5]) ∧ Below wx.heap.size wx w') := fun wx => by
    have := dBytes_no 0 0 (Bt ++ Z) (.inr (by omega)) (by omega) wx
    rwa [if_neg (by omega)] at this
  have sD : (⟨(C.blk id n ++ (Bt ++ Y).data.toList).toArray⟩ : ByteArray).size = 512 := by
    rw [X9.szL, List.length_append, C.blk_length, show (Bt ++ Y).data.toList.length = (Bt ++ Y).size from by simp, sBY]
  generalize (⟨(C.blk id n ++ (Bt ++ Y).data.toList).toArray⟩ : ByteArray) = Dt at *
  clear hm
  go_upto_region 5 with fail
  go_cut [] (fun wx => Row wx w.heap.size 38 [.int .u16 (st : Int), .int .u16 (re : Int), .int .u64 (nm : Int), .int .i64 (kx : Int), .bool la, .string (tx ++ X)] ∧ Below w.heap.size w wx)
  case first =>
    have c5 : wz.drew.cell? ⟨w.heap.size, 5, none⟩ = some (.string tx) := r2.drew.cell 5
    refine wp_region_held_drew (S := fun w' => Below w.heap.size w w') (by kernel_rfl) hb2.drew (fun hHeld => ?_)
    refine take_d 0 (some 32) (.pointer (some ⟨w.heap.size, 5, none⟩)) rfl (by kernel_rfl) (by kernel_rfl) (by kernel_rfl) (fun _ _ _ h => h) (fun oi h => by cases h; exact Or.inl ⟨by rfl, fun w' hS' => by go_simp⟩) hHeld ?_
    try simp only [Act.put, List.setIfInBounds_toArray, List.set_cons_zero, List.set_cons_succ]
    refine take_d 3 (some 35) (.pointer (some ⟨w.heap.size, 5, none⟩)) rfl (by kernel_rfl) (by kernel_rfl) (by kernel_rfl) (fun _ _ _ h => h) (fun oi h => by cases h; exact Or.inl ⟨by rfl, fun w' hS' => by go_simp⟩) hHeld ?_
    try simp only [Act.put, List.setIfInBounds_toArray, List.set_cons_zero, List.set_cons_succ]
    refine three_d 1 2 4 rfl rfl rfl (by kernel_rfl) ?_ ?_ ?_
    · intro K hK
      go_simp
      refine hK.out _ _ hHeld (fun hHeld => ?_)
      clear hK K
      try simp only [Act.put, List.setIfInBounds_toArray, List.set_cons_zero, List.set_cons_succ]
      refine two_d 2 4 rfl rfl (by kernel_rfl) ?_ ?_
      · intro K hK
        go_simp
        refine (room_any _).mono ?_
        rintro e wq ⟨rfl, rfl⟩
        refine hK.out _ _ hHeld (fun hHeld => ?_)
        clear hK K
        try simp only [Act.put, List.setIfInBounds_toArray, List.set_cons_zero, List.set_cons_succ]
        refine one_d 4 (some 36) rfl (by kernel_rfl) ?_
        intro o ho hd
        cases ho
        clear hd
        intro K hK
        go_simp
        refine hK.out _ _ hHeld (fun hHeld => ?_)
        clear hK K
        try simp only [Act.put, List.setIfInBounds_toArray, List.set_cons_zero, List.set_cons_succ]
        refine take_d 5 (some 37) (.int .i64 (tx.size : Int)) rfl (by kernel_rfl) (by kernel_rfl) (by kernel_rfl) (fun _ _ _ h => h) (fun oi h => by cases h; exact Or.inl ⟨by rfl, fun w' hS' => by go_simp⟩) hHeld ?_
        try simp only [Act.put, List.setIfInBounds_toArray, List.set_cons_zero, List.set_cons_succ]
        refine take_d 6 (some 38) (.int .i64 (m : Int)) rfl (by kernel_rfl) (by kernel_rfl) (by kernel_rfl) (fun _ _ _ h => h) (fun oi h => by cases h; exact Or.inl ⟨by rfl, fun w' hS' => by have hq : IntKind.i64.wrap (m : Int) = (m : Int) := (by rw [IntKind.wrap_i64]; omega); go_simp⟩) hHeld ?_
        try simp only [Act.put, List.setIfInBounds_toArray, List.set_cons_zero, List.set_cons_succ]
        refine one_d 7 (some 39) rfl (by kernel_rfl) ?_
        intro o ho hd
        cases ho
        clear hd
        intro K hK
        go_simp
        refine (CR.out _).mono ?_
        rintro e w3 ⟨rfl, bb⟩
        have r3 := r2.drew.below bb r2.lt
        have c5 : w3.cell? ⟨w.heap.size, 5, none⟩ = some (.string tx) := r3.cell 5
        refine hK.out _ _ (hHeld.trans (bb.mono hHeld.size)) (fun hHeld => ?_)
        clear hK K bb
        try simp only [Act.put, List.setIfInBounds_toArray, List.set_cons_zero, List.set_cons_succ]
        refine take_d 8 (some 40) (.string (tx ++ X)) rfl (by kernel_rfl) (by kernel_rfl) (by kernel_rfl) (fun _ _ _ h => h) (fun oi h => by cases h; exact Or.inl ⟨by rfl, fun w' hS' => by have hq : tx.size + m ≤ 9223372036854775807 := (by omega); go_simp⟩) hHeld ?_
        try simp only [Act.put, List.setIfInBounds_toArray, List.set_cons_zero, List.set_cons_succ]
        refine take_d 9 (some 41) (.pointer (some ⟨w.heap.size, 5, none⟩)) rfl (by kernel_rfl) (by kernel_rfl) (by kernel_rfl) (fun _ _ _ h => h) (fun oi h => by cases h; exact Or.inl ⟨by rfl, fun w' hS' => by go_simp⟩) hHeld ?_
        try simp only [Act.put, List.setIfInBounds_toArray, List.set_cons_zero, List.set_cons_succ]
        have f5 := r3.frozen 5
        have r4 := r3.set 5 (.string (tx ++ X))
        refine one_d 10 none rfl (by kernel_rfl) ?_
        intro o ho hd K hK
        cases ho
        go_simp
        refine hK.out _ _ (hHeld.setCell (Nat.le_refl _) _) (fun hHeld => ?_)
        clear hK K hd
        try simp only [Act.put]
        refine wpAnyH_done (by kernel_rfl) ?_ _
        try simp only [Act.put]
        go_wp2_with fail
        go_meet
        exact ⟨r4, hHeld⟩
      · intro K hK
        go_simp
        refine hK.out _ _ hHeld (fun hHeld => ?_)
        clear hK K
        try simp only [Act.put, List.setIfInBounds_toArray, List.set_cons_zero, List.set_cons_succ]
        refine take_d 5 (some 37) (.int .i64 (tx.size : Int)) rfl (by kernel_rfl) (by kernel_rfl) (by kernel_rfl) (fun _ _ _ h => h) (fun oi h => by cases h; exact Or.inl ⟨by rfl, fun w' hS' => by go_simp⟩) hHeld ?_
        try simp only [Act.put, List.setIfInBounds_toArray, List.set_cons_zero, List.set_cons_succ]
        refine one_d 2 (some 34) rfl (by kernel_rfl) ?_
        intro o ho hd
        cases ho
        clear hd
        intro K hK
        go_simp
        refine (room_any _).mono ?_
        rintro e wq ⟨rfl, rfl⟩
        refine hK.out _ _ hHeld (fun hHeld => ?_)
        clear hK K
        try simp only [Act.put, List.setIfInBounds_toArray, List.set_cons_zero, List.set_cons_succ]
        refine take_d 6 (some 38) (.int .i64 (m : Int)) rfl (by kernel_rfl) (by kernel_rfl) (by kernel_rfl) (fun _ _ _ h => h) (fun oi h => by cases h; exact Or.inl ⟨by rfl, fun w' hS' => by have hq : IntKind.i64.wrap (m : Int) = (m : Int) := (by rw [IntKind.wrap_i64]; omega); go_simp⟩) hHeld ?_
        try simp only [Act.put, List.setIfInBounds_toArray, List.set_cons_zero, List.set_cons_succ]
        refine one_d 7 (some 39) rfl (by kernel_rfl) ?_
        intro o ho hd
        cases ho
        clear hd
        intro K hK
        go_simp
        refine (CR.out _).mono ?_
        rintro e w3 ⟨rfl, bb⟩
        have r3 := r2.drew.below bb r2.lt
        have c5 : w3.cell? ⟨w.heap.size, 5, none⟩ = some (.string tx) := r3.cell 5
        refine hK.out _ _ (hHeld.trans (bb.mono hHeld.size)) (fun hHeld => ?_)
        clear hK K bb
        try simp only [Act.put, List.setIfInBounds_toArray, List.set_cons_zero, List.set_cons_succ]
        refine take_d 8 (some 40) (.string (tx ++ X)) rfl (by kernel_rfl) (by kernel_rfl) (by kernel_rfl) (fun _ _ _ h => h) (fun oi h => by cases h; exact Or.inl ⟨by rfl, fun w' hS' => by have hq : tx.size + m ≤ 9223372036854775807 := (by omega); go_simp⟩) hHeld ?_
        try simp only [Act.put, List.setIfInBounds_toArray, List.set_cons_zero, List.set_cons_succ]
        refine take_d 9 (some 41) (.pointer (some ⟨w.heap.size, 5, none⟩)) rfl (by kernel_rfl) (by kernel_rfl) (by kernel_rfl) (fun _ _ _ h => h) (fun oi h => by cases h; exact Or.inl ⟨by rfl, fun w' hS' => by go_simp⟩) hHeld ?_
        try simp only [Act.put, List.setIfInBounds_toArray, List.set_cons_zero, List.set_cons_succ]
        have f5 := r3.frozen 5
        have r4 := r3.set 5 (.string (tx ++ X))
        refine one_d 10 none rfl (by kernel_rfl) ?_
        intro o ho hd K hK
        cases ho
        go_simp
        refine hK.out _ _ (hHeld.setCell (Nat.le_refl _) _) (fun hHeld => ?_)
        clear hK K hd
        try simp only [Act.put]
        refine wpAnyH_done (by kernel_rfl) ?_ _
        try simp only [Act.put]
        go_wp2_with fail
        go_meet
        exact ⟨r4, hHeld⟩
    · intro K hK
      go_simp
      refine (room_any _).mono ?_
      rintro e wq ⟨rfl, rfl⟩
      refine hK.out _ _ hHeld (fun hHeld => ?_)
      clear hK K
      try simp only [Act.put, List.setIfInBounds_toArray, List.set_cons_zero, List.set_cons_succ]
      refine two_d 1 4 rfl rfl (by kernel_rfl) ?_ ?_
      · intro K hK
        go_simp
        refine hK.out _ _ hHeld (fun hHeld => ?_)
        clear hK K
        try simp only [Act.put, List.setIfInBounds_toArray, List.set_cons_zero, List.set_cons_succ]
        refine one_d 4 (some 36) rfl (by kernel_rfl) ?_
        intro o ho hd
        cases ho
        clear hd
        intro K hK
        go_simp
        refine hK.out _ _ hHeld (fun hHeld => ?_)
        clear hK K
        try simp only [Act.put, List.setIfInBounds_toArray, List.set_cons_zero, List.set_cons_succ]
        refine take_d 5 (some 37) (.int .i64 (tx.size : Int)) rfl (by kernel_rfl) (by kernel_rfl) (by kernel_rfl) (fun _ _ _ h => h) (fun oi h => by cases h; exact Or.inl ⟨by rfl, fun w' hS' => by go_simp⟩) hHeld ?_
        try simp only [Act.put, List.setIfInBounds_toArray, List.set_cons_zero, List.set_cons_succ]
        refine take_d 6 (some 38) (.int .i64 (m : Int)) rfl (by kernel_rfl) (by kernel_rfl) (by kernel_rfl) (fun _ _ _ h => h) (fun oi h => by cases h; exact Or.inl ⟨by rfl, fun w' hS' => by have hq : IntKind.i64.wrap (m : Int) = (m : Int) := (by rw [IntKind.wrap_i64]; omega); go_simp⟩) hHeld ?_
        try simp only [Act.put, List.setIfInBounds_toArray, List.set_cons_zero, List.set_cons_succ]
        refine one_d 7 (some 39) rfl (by kernel_rfl) ?_
        intro o ho hd
        cases ho
        clear hd
        intro K hK
        go_simp
        refine (CR.out _).mono ?_
        rintro e w3 ⟨rfl, bb⟩
        have r3 := r2.drew.below bb r2.lt
        have c5 : w3.cell? ⟨w.heap.size, 5, none⟩ = some (.string tx) := r3.cell 5
        refine hK.out _ _ (hHeld.trans (bb.mono hHeld.size)) (fun hHeld => ?_)
        clear hK K bb
        try simp only [Act.put, List.setIfInBounds_toArray, List.set_cons_zero, List.set_cons_succ]
        refine take_d 8 (some 40) (.string (tx ++ X)) rfl (by kernel_rfl) (by kernel_rfl) (by kernel_rfl) (fun _ _ _ h => h) (fun oi h => by cases h; exact Or.inl ⟨by rfl, fun w' hS' => by have hq : tx.size + m ≤ 9223372036854775807 := (by omega); go_simp⟩) hHeld ?_
        try simp only [Act.put, List.setIfInBounds_toArray, List.set_cons_zero, List.set_cons_succ]
        refine take_d 9 (some 41) (.pointer (some ⟨w.heap.size, 5, none⟩)) rfl (by kernel_rfl) (by kernel_rfl) (by kernel_rfl) (fun _ _ _ h => h) (fun oi h => by cases h; exact Or.inl ⟨by rfl, fun w' hS' => by go_simp⟩) hHeld ?_
        try simp only [Act.put, List.setIfInBounds_toArray, List.set_cons_zero, List.set_cons_succ]
        have f5 := r3.frozen 5
        have r4 := r3.set 5 (.string (tx ++ X))
        refine one_d 10 none rfl (by kernel_rfl) ?_
        intro o ho hd K hK
        cases ho
        go_simp
        refine hK.out _ _ (hHeld.setCell (Nat.le_refl _) _) (fun hHeld => ?_)
        clear hK K hd
        try simp only [Act.put]
        refine wpAnyH_done (by kernel_rfl) ?_ _
        try simp only [Act.put]
        go_wp2_with fail
        go_meet
        exact ⟨r4, hHeld⟩
      · intro K hK
        go_simp
        refine hK.out _ _ hHeld (fun hHeld => ?_)
        clear hK K
        try simp only [Act.put, List.setIfInBounds_toArray, List.set_cons_zero, List.set_cons_succ]
        refine take_d 5 (some 37) (.int .i64 (tx.size : Int)) rfl (by kernel_rfl) (by kernel_rfl) (by kernel_rfl) (fun _ _ _ h => h) (fun oi h => by cases h; exact Or.inl ⟨by rfl, fun w' hS' => by go_simp⟩) hHeld ?_
        try simp only [Act.put, List.setIfInBounds_toArray, List.set_cons_zero, List.set_cons_succ]
        refine take_d 6 (some 38) (.int .i64 (m : Int)) rfl (by kernel_rfl) (by kernel_rfl) (by kernel_rfl) (fun _ _ _ h => h) (fun oi h => by cases h; exact Or.inl ⟨by rfl, fun w' hS' => by have hq : IntKind.i64.wrap (m : Int) = (m : Int) := (by rw [IntKind.wrap_i64]; omega); go_simp⟩) hHeld ?_
        try simp only [Act.put, List.setIfInBounds_toArray, List.set_cons_zero, List.set_cons_succ]
        refine two_d 1 7 rfl rfl (by kernel_rfl) ?_ ?_
        · intro K hK
          go_simp
          refine hK.out _ _ hHeld (fun hHeld => ?_)
          clear hK K
          try simp only [Act.put, List.setIfInBounds_toArray, List.set_cons_zero, List.set_cons_succ]
          refine one_d 7 (some 39) rfl (by kernel_rfl) ?_
          intro o ho hd
          cases ho
          clear hd
          intro K hK
          go_simp
          refine (CR.out _).mono ?_
          rintro e w3 ⟨rfl, bb⟩
          have r3 := r2.drew.below bb r2.lt
          have c5 : w3.cell? ⟨w.heap.size, 5, none⟩ = some (.string tx) := r3.cell 5
          refine hK.out _ _ (hHeld.trans (bb.mono hHeld.size)) (fun hHeld => ?_)
          clear hK K bb
          try simp only [Act.put, List.setIfInBounds_toArray, List.set_cons_zero, List.set_cons_succ]
          refine take_d 8 (some 40) (.string (tx ++ X)) rfl (by kernel_rfl) (by kernel_rfl) (by kernel_rfl) (fun _ _ _ h => h) (fun oi h => by cases h; exact Or.inl ⟨by rfl, fun w' hS' => by have hq : tx.size + m ≤ 9223372036854775807 := (by omega); go_simp⟩) hHeld ?_
          try simp only [Act.put, List.setIfInBounds_toArray, List.set_cons_zero, List.set_cons_succ]
          refine take_d 9 (some 41) (.pointer (some ⟨w.heap.size, 5, none⟩)) rfl (by kernel_rfl) (by kernel_rfl) (by kernel_rfl) (fun _ _ _ h => h) (fun oi h => by cases h; exact Or.inl ⟨by rfl, fun w' hS' => by go_simp⟩) hHeld ?_
          try simp only [Act.put, List.setIfInBounds_toArray, List.set_cons_zero, List.set_cons_succ]
          have f5 := r3.frozen 5
          have r4 := r3.set 5 (.string (tx ++ X))
          refine one_d 10 none rfl (by kernel_rfl) ?_
          intro o ho hd K hK
          cases ho
          go_simp
          refine hK.out _ _ (hHeld.setCell (Nat.le_refl _) _) (fun hHeld => ?_)
          clear hK K hd
          try simp only [Act.put]
          refine wpAnyH_done (by kernel_rfl) ?_ _
          try simp only [Act.put]
          go_wp2_with fail
          go_meet
          exact ⟨r4, hHeld⟩
        · intro K hK
          go_simp
          refine (CR.out _).mono ?_
          rintro e w3 ⟨rfl, bb⟩
          have r3 := r2.drew.below bb r2.lt
          have c5 : w3.cell? ⟨w.heap.size, 5, none⟩ = some (.string tx) := r3.cell 5
          refine hK.out _ _ (hHeld.trans (bb.mono hHeld.size)) (fun hHeld => ?_)
          clear hK K bb
          try simp only [Act.put, List.setIfInBounds_toArray, List.set_cons_zero, List.set_cons_succ]
          refine one_d 1 (some 33) rfl (by kernel_rfl) ?_
          intro o ho hd
          cases ho
          clear hd
          intro K hK
          go_simp
          refine hK.out _ _ hHeld (fun hHeld => ?_)
          clear hK K
          try simp only [Act.put, List.setIfInBounds_toArray, List.set_cons_zero, List.set_cons_succ]
          refine take_d 8 (some 40) (.string (tx ++ X)) rfl (by kernel_rfl) (by kernel_rfl) (by kernel_rfl) (fun _ _ _ h => h) (fun oi h => by cases h; exact Or.inl ⟨by rfl, fun w' hS' => by have hq : tx.size + m ≤ 9223372036854775807 := (by omega); go_simp⟩) hHeld ?_
          try simp only [Act.put, List.setIfInBounds_toArray, List.set_cons_zero, List.set_cons_succ]
          refine take_d 9 (some 41) (.pointer (some ⟨w.heap.size, 5, none⟩)) rfl (by kernel_rfl) (by kernel_rfl) (by kernel_rfl) (fun _ _ _ h => h) (fun oi h => by cases h; exact Or.inl ⟨by rfl, fun w' hS' => by go_simp⟩) hHeld ?_
          try simp only [Act.put, List.setIfInBounds_toArray, List.set_cons_zero, List.set_cons_succ]
          have f5 := r3.frozen 5
          have r4 := r3.set 5 (.string (tx ++ X))
          refine one_d 10 none rfl (by kernel_rfl) ?_
          intro o ho hd K hK
          cases ho
          go_simp
          refine hK.out _ _ (hHeld.setCell (Nat.le_refl _) _) (fun hHeld => ?_)
          clear hK K hd
          try simp only [Act.put]
          refine wpAnyH_done (by kernel_rfl) ?_ _
          try simp only [Act.put]
          go_wp2_with fail
          go_meet
          exact ⟨r4, hHeld⟩
    · intro K hK
      go_simp
      refine hK.out _ _ hHeld (fun hHeld => ?_)
      clear hK K
      try simp only [Act.put, List.setIfInBounds_toArray, List.set_cons_zero, List.set_cons_succ]
      refine take_d 5 (some 37) (.int .i64 (tx.size : Int)) rfl (by kernel_rfl) (by kernel_rfl) (by kernel_rfl) (fun _ _ _ h => h) (fun oi h => by cases h; exact Or.inl ⟨by rfl, fun w' hS' => by go_simp⟩) hHeld ?_
      try simp only [Act.put, List.setIfInBounds_toArray, List.set_cons_zero, List.set_cons_succ]
      refine two_d 1 2 rfl rfl (by kernel_rfl) ?_ ?_
      · intro K hK
        go_simp
        refine hK.out _ _ hHeld (fun hHeld => ?_)
        clear hK K
        try simp only [Act.put, List.setIfInBounds_toArray, List.set_cons_zero, List.set_cons_succ]
        refine one_d 2 (some 34) rfl (by kernel_rfl) ?_
        intro o ho hd
        cases ho
        clear hd
        intro K hK
        go_simp
        refine (room_any _).mono ?_
        rintro e wq ⟨rfl, rfl⟩
        refine hK.out _ _ hHeld (fun hHeld => ?_)
        clear hK K
        try simp only [Act.put, List.setIfInBounds_toArray, List.set_cons_zero, List.set_cons_succ]
        refine take_d 6 (some 38) (.int .i64 (m : Int)) rfl (by kernel_rfl) (by kernel_rfl) (by kernel_rfl) (fun _ _ _ h => h) (fun oi h => by cases h; exact Or.inl ⟨by rfl, fun w' hS' => by have hq : IntKind.i64.wrap (m : Int) = (m : Int) := (by rw [IntKind.wrap_i64]; omega); go_simp⟩) hHeld ?_
        try simp only [Act.put, List.setIfInBounds_toArray, List.set_cons_zero, List.set_cons_succ]
        refine one_d 7 (some 39) rfl (by kernel_rfl) ?_
        intro o ho hd
        cases ho
        clear hd
        intro K hK
        go_simp
        refine (CR.out _).mono ?_
        rintro e w3 ⟨rfl, bb⟩
        have r3 := r2.drew.below bb r2.lt
        have c5 : w3.cell? ⟨w.heap.size, 5, none⟩ = some (.string tx) := r3.cell 5
        refine hK.out _ _ (hHeld.trans (bb.mono hHeld.size)) (fun hHeld => ?_)
        clear hK K bb
        try simp only [Act.put, List.setIfInBounds_toArray, List.set_cons_zero, List.set_cons_succ]
        refine take_d 8 (some 40) (.string (tx ++ X)) rfl (by kernel_rfl) (by kernel_rfl) (by kernel_rfl) (fun _ _ _ h => h) (fun oi h => by cases h; exact Or.inl ⟨by rfl, fun w' hS' => by have hq : tx.size + m ≤ 9223372036854775807 := (by omega); go_simp⟩) hHeld ?_
        try simp only [Act.put, List.setIfInBounds_toArray, List.set_cons_zero, List.set_cons_succ]
        refine take_d 9 (some 41) (.pointer (some ⟨w.heap.size, 5, none⟩)) rfl (by kernel_rfl) (by kernel_rfl) (by kernel_rfl) (fun _ _ _ h => h) (fun oi h => by cases h; exact Or.inl ⟨by rfl, fun w' hS' => by go_simp⟩) hHeld ?_
        try simp only [Act.put, List.setIfInBounds_toArray, List.set_cons_zero, List.set_cons_succ]
        have f5 := r3.frozen 5
        have r4 := r3.set 5 (.string (tx ++ X))
        refine one_d 10 none rfl (by kernel_rfl) ?_
        intro o ho hd K hK
        cases ho
        go_simp
        refine hK.out _ _ (hHeld.setCell (Nat.le_refl _) _) (fun hHeld => ?_)
        clear hK K hd
        try simp only [Act.put]
        refine wpAnyH_done (by kernel_rfl) ?_ _
        try simp only [Act.put]
        go_wp2_with fail
        go_meet
        exact ⟨r4, hHeld⟩
      · intro K hK
        go_simp
        refine (room_any _).mono ?_
        rintro e wq ⟨rfl, rfl⟩
        refine hK.out _ _ hHeld (fun hHeld => ?_)
        clear hK K
        try simp only [Act.put, List.setIfInBounds_toArray, List.set_cons_zero, List.set_cons_succ]
        refine take_d 6 (some 38) (.int .i64 (m : Int)) rfl (by kernel_rfl) (by kernel_rfl) (by kernel_rfl) (fun _ _ _ h => h) (fun oi h => by cases h; exact Or.inl ⟨by rfl, fun w' hS' => by have hq : IntKind.i64.wrap (m : Int) = (m : Int) := (by rw [IntKind.wrap_i64]; omega); go_simp⟩) hHeld ?_
        try simp only [Act.put, List.setIfInBounds_toArray, List.set_cons_zero, List.set_cons_succ]
        refine two_d 1 7 rfl rfl (by kernel_rfl) ?_ ?_
        · intro K hK
          go_simp
          refine hK.out _ _ hHeld (fun hHeld => ?_)
          clear hK K
          try simp only [Act.put, List.setIfInBounds_toArray, List.set_cons_zero, List.set_cons_succ]
          refine one_d 7 (some 39) rfl (by kernel_rfl) ?_
          intro o ho hd
          cases ho
          clear hd
          intro K hK
          go_simp
          refine (CR.out _).mono ?_
          rintro e w3 ⟨rfl, bb⟩
          have r3 := r2.drew.below bb r2.lt
          have c5 : w3.cell? ⟨w.heap.size, 5, none⟩ = some (.string tx) := r3.cell 5
          refine hK.out _ _ (hHeld.trans (bb.mono hHeld.size)) (fun hHeld => ?_)
          clear hK K bb
          try simp only [Act.put, List.setIfInBounds_toArray, List.set_cons_zero, List.set_cons_succ]
          refine take_d 8 (some 40) (.string (tx ++ X)) rfl (by kernel_rfl) (by kernel_rfl) (by kernel_rfl) (fun _ _ _ h => h) (fun oi h => by cases h; exact Or.inl ⟨by rfl, fun w' hS' => by have hq : tx.size + m ≤ 9223372036854775807 := (by omega); go_simp⟩) hHeld ?_
          try simp only [Act.put, List.setIfInBounds_toArray, List.set_cons_zero, List.set_cons_succ]
          refine take_d 9 (some 41) (.pointer (some ⟨w.heap.size, 5, none⟩)) rfl (by kernel_rfl) (by kernel_rfl) (by kernel_rfl) (fun _ _ _ h => h) (fun oi h => by cases h; exact Or.inl ⟨by rfl, fun w' hS' => by go_simp⟩) hHeld ?_
          try simp only [Act.put, List.setIfInBounds_toArray, List.set_cons_zero, List.set_cons_succ]
          have f5 := r3.frozen 5
          have r4 := r3.set 5 (.string (tx ++ X))
          refine one_d 10 none rfl (by kernel_rfl) ?_
          intro o ho hd K hK
          cases ho
          go_simp
          refine hK.out _ _ (hHeld.setCell (Nat.le_refl _) _) (fun hHeld => ?_)
          clear hK K hd
          try simp only [Act.put]
          refine wpAnyH_done (by kernel_rfl) ?_ _
          try simp only [Act.put]
          go_wp2_with fail
          go_meet
          exact ⟨r4, hHeld⟩
        · intro K hK
          go_simp
          refine (CR.out _).mono ?_
          rintro e w3 ⟨rfl, bb⟩
          have r3 := r2.drew.below bb r2.lt
          have c5 : w3.cell? ⟨w.heap.size, 5, none⟩ = some (.string tx) := r3.cell 5
          refine hK.out _ _ (hHeld.trans (bb.mono hHeld.size)) (fun hHeld => ?_)
          clear hK K bb
          try simp only [Act.put, List.setIfInBounds_toArray, List.set_cons_zero, List.set_cons_succ]
          refine one_d 1 (some 33) rfl (by kernel_rfl) ?_
          intro o ho hd
          cases ho
          clear hd
          intro K hK
          go_simp
          refine hK.out _ _ hHeld (fun hHeld => ?_)
          clear hK K
          try simp only [Act.put, List.setIfInBounds_toArray, List.set_cons_zero, List.set_cons_succ]
          refine take_d 8 (some 40) (.string (tx ++ X)) rfl (by kernel_rfl) (by kernel_rfl) (by kernel_rfl) (fun _ _ _ h => h) (fun oi h => by cases h; exact Or.inl ⟨by rfl, fun w' hS' => by have hq : tx.size + m ≤ 9223372036854775807 := (by omega); go_simp⟩) hHeld ?_
          try simp only [Act.put, List.setIfInBounds_toArray, List.set_cons_zero, List.set_cons_succ]
          refine take_d 9 (some 41) (.pointer (some ⟨w.heap.size, 5, none⟩)) rfl (by kernel_rfl) (by kernel_rfl) (by kernel_rfl) (fun _ _ _ h => h) (fun oi h => by cases h; exact Or.inl ⟨by rfl, fun w' hS' => by go_simp⟩) hHeld ?_
          try simp only [Act.put, List.setIfInBounds_toArray, List.set_cons_zero, List.set_cons_succ]
          have f5 := r3.frozen 5
          have r4 := r3.set 5 (.string (tx ++ X))
          refine one_d 10 none rfl (by kernel_rfl) ?_
          intro o ho hd K hK
          cases ho
          go_simp
          refine hK.out _ _ (hHeld.setCell (Nat.le_refl _) _) (fun hHeld => ?_)
          clear hK K hd
          try simp only [Act.put]
          refine wpAnyH_done (by kernel_rfl) ?_ _
          try simp only [Act.put]
          go_wp2_with fail
          go_meet
          exact ⟨r4, hHeld⟩
  case rest =>
    obtain ⟨r4, hb4⟩ := hcut
    clear r2 hb2 CR hsub hw1 sR
    go_wp2_with (first
      | refine wpList_load_row rfl 38 (.tmp 3) rfl w.heap.size rfl _ _ _ _ r4 Try.underlying38 rfl infoPart ?_)
    refine (CB.out _).mono ?_
    rintro e w5 ⟨rfl, b5⟩
    have r5 := r4.below b5 r4.lt
    have hb5 := hb4.trans (b5.mono hb4.size)
    clear b5 r4 hb4
    go_wp2_with fail
    refine (C16.out _).mono ?_
    rintro e w6 ⟨rfl, b6⟩
    have r6 := r5.below b6 r5.lt
    have hb6 := hb5.trans (b6.mono hb5.size)
    clear b6 r5 hb5
    go_wp2_with fail
    refine (CD.out _).mono ?_
    rintro e w7 ⟨rfl, b7⟩
    have r7 := r6.below b7 r6.lt
    have hb7 := hb6.trans (b7.mono hb6.size)
    clear b7 r6 hb6
    have c5 : w7.cell? ⟨w.heap.size, 5, none⟩ = some (.string (tx ++ X)) := r7.cell 5
    have f5 := r7.frozen 5
    have r8 := r7.set 5 (.string (tx ++ X ++ ⟨#[120]⟩))
    have hb8 := hb7.setCell (p := ⟨w.heap.size, 5, none⟩) (Nat.le_refl _) (.string (tx ++ X ++ ⟨#[120]⟩))
    go_wp2_with (first
      | refine wpList_load_row rfl 38 (.tmp 3) rfl w.heap.size rfl _ _ _ _ r8 Try.underlying38 rfl infoPart ?_)
    clear c5 f5 r7 hb7
    refine (CL.out _).mono ?_
    rintro e w9 ⟨rfl, b9⟩
    have hb9 := hb8.trans (b9.mono hb8.size)
    clear b9 r8 hb8
    go_wp2_with fail
    refine (C17.out _).mono ?_
    rintro e w10 ⟨rfl, b10⟩
    have hb10 := hb9.trans (b10.mono hb9.size)
    clear b10 hb9
    go_wp2_with fail
    refine (CE.out _).mono ?_
    rintro e w11 ⟨rfl, b11⟩
    have hb11 := hb10.trans (b11.mono hb10.size)
    clear b11 hb10
    go_wp2
    go_ret
    exact ⟨rfl, hb11⟩


theorem walk (st0 re0 nm0 : Nat) (ix0 : Int) (la0 : Bool) (tx0 : ByteArray) (a1 : Int) (a2 : Int) (w : World) (w0 : st0 < 65536 ∧ re0 < 65536 ∧ nm0 < 18446744073709551616 ∧ -9223372036854775808 ≤ ix0 ∧ ix0 ≤ 9223372036854775807 ∧ tx0.size ≤ maxLen) (w1 : (Lit.int .u64 a1).wf = true) (w2 : (Lit.int .u64 a2).wf = true) :
    Calls Try.prog 5 #[.agg #[.int .u16 (st0 : Int), .int .u16 (re0 : Int), .int .u64 (nm0 : Int), .int .i64 ix0, .bool la0, .string tx0], .int .u64 a1, .int .u64 a2] w fun e w' => e = .returned (.bool true) ∧ Below w.heap.size w w' := by
  obtain ⟨p1, q1⟩ := Go.bounds_u64 w1
  obtain ⟨p2, q2⟩ := Go.bounds_u64 w2
  obtain ⟨id, rfl⟩ := Int.eq_ofNat_of_zero_le p1
  obtain ⟨n, rfl⟩ := Int.eq_ofNat_of_zero_le p2
  obtain ⟨h1, h2, h3, _, _, h4⟩ := w0
  have h4 : tx0.size ≤ 9223372036854775807 := h4
  by_cases g1 : 466 < tx0.size
  · exact outA st0 re0 nm0 ix0 la0 tx0 id n w g1 h1 h2 h3 h4 (by omega) (by omega)
  · by_cases g2 : ix0 < 0
    · exact outB st0 re0 nm0 ix0 la0 tx0 id n w g1 g2 h1 h2 h3 h4 (by omega) (by omega)
    · by_cases g3 : 31 < ix0
      · exact outC st0 re0 nm0 ix0 la0 tx0 id n w g1 g2 g3 h1 h2 h3 h4 (by omega) (by omega)
      · exact core st0 re0 nm0 ix0 la0 tx0 id n w g1 g2 g3 h1 h2 h3 h4 (by omega) (by omega)

end WireRoomsW
end Go.Proofs.Ytbkeodgiflfakaa
