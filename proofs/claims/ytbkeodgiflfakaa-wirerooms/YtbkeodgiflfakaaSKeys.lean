/-
  Layer 3: the constants.
-/
import Derived.Test.YtbkeodgiflfakaaSRoot
namespace Go.Proofs.Ytbkeodgiflfakaa
open Go.RowKit
set_option linter.unusedVariables false
set_option maxRecDepth 20000

/-- What lies in the row behind k of them. -/
def fillRow (l : List Nat) (f : Nat → Nat) (n k : Nat) : List Nat := (l.map f).take k ++ List.replicate (n - k) 0
theorem fillRow_length (l : List Nat) (f : Nat → Nat) (n k : Nat) (hl : l.length = n) (hk : k ≤ n) : (fillRow l f n k).length = n := by simp [fillRow, hl]; omega
theorem fillRow_full (l : List Nat) (f : Nat → Nat) (n : Nat) (hl : l.length = n) : fillRow l f n n = l.map f := by
  simp [fillRow]; rw [List.take_of_length_le (by simp [hl])]
theorem fillRow_step (l : List Nat) (f : Nat → Nat) (n k : Nat) (hl : l.length = n) (hk : k < n) : (fillRow l f n k).set k (f (l.getD k 0)) = fillRow l f n (k + 1) := by
  unfold fillRow
  have h1 : ((l.map f).take k).length = k := by simp [hl]; omega
  rw [List.set_append_right _ _ (by omega), h1, Nat.sub_self, show n - k = n - (k + 1) + 1 from by omega, List.replicate_succ, List.set_cons_zero, List.take_succ_eq_append_getElem (by simp [hl]; exact hk), List.append_assoc]
  simp [hl, hk]

set_option maxHeartbeats 1000000 in
theorem Keys_any (w : World) :
    Calls Try.prog 79 #[] w fun e w' => e = .returned (.agg (u32s S.keys).toArray) ∧ Below w.heap.size w w' := by
  have hl : (S.prs 310).length = 64 := by rw [S.primes64]; rfl
  have HK := Lib.hid S.keys_is
  have HL := Lib.hid hl
  clear hl
  go_enter Try.func79, Try.ntmps79
  go_wp2_with fail
  refine (primes_any 64 310 (by decide) (by decide) HL.out (fun k hk => S.before64 ⟨k, hk⟩) _).mono ?_
  rintro e w1 ⟨rfl, ho, hb1⟩
  have r1 : Row w1 (w.heap.size + 1) 123 (u32s (fillRow (S.prs 310) (fun p => S.rootN (S.fitC p) 36 % 4294967296) 64 0)) := (Row.new' rfl (by simp)).below hb1 (by simp)
  have r0 : Row w1 w.heap.size 123 (u32s (List.replicate 64 0)) := ((Row.new' rfl rfl).alloc _).below hb1 (by simp; omega)
  have hz := (ho.lt _ rfl).2
  simp only [World.size_alloc] at ho hz
  have hb2 : Below w.heap.size w w1 := (((Below.refl _ _).alloc (Nat.le_refl _) _).alloc (by simp) _).trans (hb1.mono (by simp; omega))
  clear hb1
  have hmem : Hid (∀ j, j < 64 → (S.prs 310).getD j 0 ≤ 1000) := fun j hj => by
    have := S.prs_mem 310 ((S.prs 310).getD j 0) (by
      rw [List.getD_eq_getElem?_getD, List.getElem?_eq_getElem (by rw [HL.out]; exact hj)]
      exact List.getElem_mem _)
    omega
  go_wp2
  go_loopw [6] (fun iv wr => ∃ k : Nat, k ≤ 64 ∧ iv = .int .i64 k ∧ Row wr w.heap.size 123 (u32s (List.replicate 64 0)) ∧ Row wr (w.heap.size + 1) 123 (u32s (fillRow (S.prs 310) (fun p => S.rootN (S.fitC p) 36 % 4294967296) 64 k)) ∧
      wr.ownsRow (w.heap.size + 1 + 1) 22 1 (.slice (some ⟨w.heap.size + 1 + 1, 0, none⟩) 64 64) 64 (u64s (S.prs 310)) ∧ Below w.heap.size w wr) (fun iv _ => 64 - (intOf iv).toNat)
  case atStart => exact ⟨0, Nat.zero_le _, rfl, r0, r1, ho, hb2⟩
  case round =>
    clear r0 r1 ho hb2 hz
    obtain ⟨k, hk, rfl, r0, r1, ho, hb⟩ := hrel
    by_cases hlt : k < 64
    · have ck := (ho.cellAt k (by omega)).trans (u64s_at (by rw [HL.out]; exact hlt))
      have hp := hmem.out k hlt
      have cc := (r1.cell k).trans (u32s_at (by rw [fillRow_length _ _ _ _ HL.out hk]; exact hlt))
      have ff := r1.frozen k
      have bk : (k : Int) < 64 := by omega
      have r1' := r1.set k (.int .u32 ((S.rootN (S.fitC ((S.prs 310).getD k 0)) 36 % 4294967296 : Nat) : Int))
      rw [u32s_set, fillRow_step (S.prs 310) (fun p => S.rootN (S.fitC p) 36 % 4294967296) 64 k HL.out hlt] at r1'
      have hR := S.rootN_lt (S.fitC ((S.prs 310).getD k 0)) 36 (by decide)
      have ho' := ho.kept (w' := wr.setCell ⟨w.heap.size + 1, k, none⟩ (.int .u32 ((S.rootN (S.fitC ((S.prs 310).getD k 0)) 36 % 4294967296 : Nat) : Int))) (row := some (w.heap.size + 1)) ⟨rfl, rfl, rfl, by simp [World.setCell], fun i _ hi => heap_setCell_other _ _ _ _ (fun e => hi (by simp [e]))⟩ (by right; simp [Value.ownBlock])
      generalize (S.prs 310).getD k 0 = p at *
      generalize (fillRow (S.prs 310) (fun p => S.rootN (S.fitC p) 36 % 4294967296) 64 k).getD k 0 = x at cc
      go_wp2_with fail
      refine (rootC_any p hp _).mono ?_
      rintro e w2 ⟨rfl, rfl⟩
      generalize S.rootN (S.fitC p) 36 = R at *
      have hR2 : R < 68719476736 := by have := hR.2; simp at this; omega
      clear hR
      go_wp2
      go_roundw
      case rel =>
        have e : (R : Int) % 4294967296 = ((R % 4294967296 : Nat) : Int) := by omega
        rw [e]
        exact ⟨k + 1, by omega, by go_num, r0.other (by omega) _, r1', ho', hb.setCell (by simp) _⟩
      case measure => simp [intOf]; omega
    · obtain rfl : k = 64 := by omega
      rw [fillRow_full _ _ _ HL.out, HK.out] at r1
      have hi : (Try.prog.info? 123).map (·.size) = some (u32s S.keys).toArray.size := by kernel_rfl
      go_wp2_with (first | refine wpList_load_row rfl 123 _ rfl (w.heap.size + 1) rfl _ _ _ _ r1 Try.underlying123 rfl hi ?_ | refine wpList_store_row rfl 123 (.tmp 0) (.tmp 17) rfl w.heap.size _ rfl rfl _ _ r0 hi (by rfl) (u32s_one _) ?_)
      exact bodyPost_ret (results_cell_row rfl _ _ w.heap.size _ _ _ _ rfl (r0.setRow (u32s S.keys)) Try.underlying123 rfl hi) rfl ⟨rfl, below_row hb (Nat.le_refl _) _⟩

set_option maxHeartbeats 1000000 in
theorem Start_any (w : World) :
    Calls Try.prog 78 #[] w fun e w' => e = .returned (.agg (u32s S.start).toArray) ∧ Below w.heap.size w w' := by
  have hl : (S.prs 18).length = 8 := by rw [S.primes8]; rfl
  have HK := Lib.hid S.start_is
  have HL := Lib.hid hl
  clear hl
  go_enter Try.func78, Try.ntmps78
  go_wp2_with fail
  refine (primes_any 8 18 (by decide) (by decide) HL.out (fun k hk => S.before8 ⟨k, hk⟩) _).mono ?_
  rintro e w1 ⟨rfl, ho, hb1⟩
  have r1 : Row w1 (w.heap.size + 1) 121 (u32s (fillRow (S.prs 18) (fun p => S.rootN (S.fitS p) 36 % 4294967296) 8 0)) := (Row.new' rfl (by simp)).below hb1 (by simp)
  have r0 : Row w1 w.heap.size 121 (u32s (List.replicate 8 0)) := ((Row.new' rfl rfl).alloc _).below hb1 (by simp; omega)
  have hz := (ho.lt _ rfl).2
  simp only [World.size_alloc] at ho hz
  have hb2 : Below w.heap.size w w1 := (((Below.refl _ _).alloc (Nat.le_refl _) _).alloc (by simp) _).trans (hb1.mono (by simp; omega))
  clear hb1
  have hmem : Hid (∀ j, j < 8 → (S.prs 18).getD j 0 ≤ 1000) := fun j hj => by
    have := S.prs_mem 18 ((S.prs 18).getD j 0) (by
      rw [List.getD_eq_getElem?_getD, List.getElem?_eq_getElem (by rw [HL.out]; exact hj)]
      exact List.getElem_mem _)
    omega
  go_wp2
  go_loopw [6] (fun iv wr => ∃ k : Nat, k ≤ 8 ∧ iv = .int .i64 k ∧ Row wr w.heap.size 121 (u32s (List.replicate 8 0)) ∧ Row wr (w.heap.size + 1) 121 (u32s (fillRow (S.prs 18) (fun p => S.rootN (S.fitS p) 36 % 4294967296) 8 k)) ∧
      wr.ownsRow (w.heap.size + 1 + 1) 22 1 (.slice (some ⟨w.heap.size + 1 + 1, 0, none⟩) 8 8) 8 (u64s (S.prs 18)) ∧ Below w.heap.size w wr) (fun iv _ => 8 - (intOf iv).toNat)
  case atStart => exact ⟨0, Nat.zero_le _, rfl, r0, r1, ho, hb2⟩
  case round =>
    clear r0 r1 ho hb2 hz
    obtain ⟨k, hk, rfl, r0, r1, ho, hb⟩ := hrel
    by_cases hlt : k < 8
    · have ck := (ho.cellAt k (by omega)).trans (u64s_at (by rw [HL.out]; exact hlt))
      have hp := hmem.out k hlt
      have cc := (r1.cell k).trans (u32s_at (by rw [fillRow_length _ _ _ _ HL.out hk]; exact hlt))
      have ff := r1.frozen k
      have bk : (k : Int) < 8 := by omega
      have r1' := r1.set k (.int .u32 ((S.rootN (S.fitS ((S.prs 18).getD k 0)) 36 % 4294967296 : Nat) : Int))
      rw [u32s_set, fillRow_step (S.prs 18) (fun p => S.rootN (S.fitS p) 36 % 4294967296) 8 k HL.out hlt] at r1'
      have hR := S.rootN_lt (S.fitS ((S.prs 18).getD k 0)) 36 (by decide)
      have ho' := ho.kept (w' := wr.setCell ⟨w.heap.size + 1, k, none⟩ (.int .u32 ((S.rootN (S.fitS ((S.prs 18).getD k 0)) 36 % 4294967296 : Nat) : Int))) (row := some (w.heap.size + 1)) ⟨rfl, rfl, rfl, by simp [World.setCell], fun i _ hi => heap_setCell_other _ _ _ _ (fun e => hi (by simp [e]))⟩ (by right; simp [Value.ownBlock])
      generalize (S.prs 18).getD k 0 = p at *
      generalize (fillRow (S.prs 18) (fun p => S.rootN (S.fitS p) 36 % 4294967296) 8 k).getD k 0 = x at cc
      go_wp2_with fail
      refine (rootS_any p hp _).mono ?_
      rintro e w2 ⟨rfl, rfl⟩
      generalize S.rootN (S.fitS p) 36 = R at *
      have hR2 : R < 68719476736 := by have := hR.2; simp at this; omega
      clear hR
      go_wp2
      go_roundw
      case rel =>
        have e : (R : Int) % 4294967296 = ((R % 4294967296 : Nat) : Int) := by omega
        rw [e]
        exact ⟨k + 1, by omega, by go_num, r0.other (by omega) _, r1', ho', hb.setCell (by simp) _⟩
      case measure => simp [intOf]; omega
    · obtain rfl : k = 8 := by omega
      rw [fillRow_full _ _ _ HL.out, HK.out] at r1
      have hi : (Try.prog.info? 121).map (·.size) = some (u32s S.start).toArray.size := by kernel_rfl
      go_wp2_with (first | refine wpList_load_row rfl 121 _ rfl (w.heap.size + 1) rfl _ _ _ _ r1 Try.underlying121 rfl hi ?_ | refine wpList_store_row rfl 121 (.tmp 0) (.tmp 17) rfl w.heap.size _ rfl rfl _ _ r0 hi (by rfl) (u32s_one _) ?_)
      exact bodyPost_ret (results_cell_row rfl _ _ w.heap.size _ _ _ _ rfl (r0.setRow (u32s S.start)) Try.underlying121 rfl hi) rfl ⟨rfl, below_row hb (Nat.le_refl _) _⟩

end Go.Proofs.Ytbkeodgiflfakaa
