/-
  Layer 5: roundKeys.
-/
import Derived.Test.YtbkeodgiflfakaaATake
import Derived.Test.YtbkeodgiflfakaaANext
namespace Go.Proofs.Ytbkeodgiflfakaa
open Go.RowKit
set_option linter.unusedVariables false
set_option maxRecDepth 20000

/-- The row of round keys, so many of them made. -/
def keyRow (k : List UInt8) (i : Nat) : List UInt8 := E.rks k i ++ List.replicate (176 - 16 * i) 0
theorem keyRow_length {k : List UInt8} (h : k.length = 16) {i : Nat} (hi : i ≤ 11) : (keyRow k i).length = 176 := by
  rw [keyRow, List.length_append, E.rks_length h, List.length_replicate]; omega
theorem keyRow_zero (k : List UInt8) : keyRow k 0 = List.replicate 176 0 := rfl
theorem keyRow_full {k : List UInt8} : keyRow k 11 = E.rks k 11 := by
  unfold keyRow; rw [show 176 - 16 * 11 = 0 from rfl, List.replicate_zero, List.append_nil]
theorem keyRow_step {k : List UInt8} (h : k.length = 16) {i : Nat} (hi : i < 11) : splice (keyRow k i) (16 * i) (E.rk k i) = keyRow k (i + 1) := by
  have h1 := E.rks_length h i
  have h2 := E.rk_length h i
  unfold splice keyRow
  rw [List.take_append_of_le_length (by omega), List.take_of_length_le (by omega), List.drop_append, List.drop_eq_nil_of_le (by omega), h1, h2, List.drop_replicate, List.nil_append]
  show _ = (E.rks k i ++ E.rk k i) ++ _
  rw [List.append_assoc]
  congr 3
  omega
theorem keyRow_part {k : List UInt8} (h : k.length = 16) {i m : Nat} (hi : i < m) (hm : m ≤ 11) : ((keyRow k m).drop (16 * i)).take 16 = E.rk k i := by
  induction m with
  | zero => omega
  | succ m ih =>
    have h1 := E.rks_length h m
    have h2 := E.rk_length h m
    by_cases e : i = m
    · subst e
      show ((((E.rks k i ++ E.rk k i) ++ _).drop (16 * i)).take 16) = _
      rw [List.append_assoc, List.drop_append, List.drop_eq_nil_of_le (by omega), h1, Nat.sub_self, List.drop_zero, List.nil_append, List.take_append_of_le_length (by omega), List.take_of_length_le (by omega)]
    · have := ih (by omega) (by omega)
      rw [← this]
      show ((((E.rks k m ++ E.rk k m) ++ _).drop (16 * i)).take 16) = (((E.rks k m ++ _).drop (16 * i)).take 16)
      rw [List.append_assoc, List.drop_append_of_le_length (by omega), List.take_append_of_le_length (by simp; omega), List.drop_append_of_le_length (by omega), List.take_append_of_le_length (by simp; omega)]
theorem rks_part {k : List UInt8} (h : k.length = 16) {i : Nat} (hi : i < 11) : ((E.rks k 11).drop (16 * i)).take 16 = E.rk k i := by
  rw [← keyRow_full]; exact keyRow_part h hi (Nat.le_refl _)
theorem info176 {b : List UInt8} (h : b.length = 176) : (Try.prog.info? 116).map (·.size) = some (W.cellsOf b).toArray.size := by
  rw [List.size_toArray, c8_len, h]; kernel_rfl
theorem info16' {b : List UInt8} (h : b.length = 16) : (Try.prog.info? 51).map (·.size) = some (W.cellsOf b).length := by
  rw [c8_len, h]; kernel_rfl
theorem info256' {b : List UInt8} (h : b.length = 256) : (Try.prog.info? 114).map (·.size) = some (W.cellsOf b).length := by
  rw [c8_len, h]; kernel_rfl

set_option maxHeartbeats 2000000 in
theorem keys_any (k : List UInt8) (hk : k.length = 16) (w : World) :
    Calls Try.prog 72 #[.agg (W.cellsOf k).toArray, .agg (W.cellsOf E.sbox).toArray] w fun e w' => e = .returned (.agg (W.cellsOf (E.rks k 11)).toArray) ∧ Below w.heap.size w w' := by
  have HK := Lib.hid hk
  clear hk
  obtain ⟨box, hbox⟩ : ∃ box, box = E.sbox := ⟨_, rfl⟩
  have HBX := Lib.hid hbox
  have HL : Hid (box.length = 256) := by rw [hbox]; exact E.sbox_length
  rw [← hbox]
  clear hbox
  have hi16 := info16 HK.out
  go_enter Try.func72, Try.ntmps72
  have hzc : Try.zeroCells116 = (W.cellsOf (keyRow k 0)).toArray := by rw [keyRow_zero]; kernel_rfl
  obtain ⟨wa, hwa⟩ : ∃ wa, wa = (((w.alloc (.cells (W.cellsOf k).toArray 51 (0, 0))).alloc (.cells (W.cellsOf box).toArray 114 (0, 0))).alloc (.cells Try.zeroCells116 116 (0, 0))).alloc (.cells Try.zeroCells116 116 (0, 0)) := ⟨_, rfl⟩
  have r0 : Row wa w.heap.size 51 (W.cellsOf k) := by rw [hwa]; exact (((Row.new w _ _).alloc _).alloc _).alloc _
  have r1 : Row wa (w.heap.size + 1) 114 (W.cellsOf box) := by rw [hwa]; exact ((Row.new' rfl (by simp)).alloc _).alloc _
  have r2 : Row wa (w.heap.size + 1 + 1) 116 (W.cellsOf (keyRow k 0)) := by rw [hwa]; exact (Row.new' hzc (by simp)).alloc _
  have r3 : Row wa (w.heap.size + 1 + 1 + 1) 116 (W.cellsOf (keyRow k 0)) := by rw [hwa]; exact Row.new' hzc (by simp)
  have hba : Below w.heap.size w wa := by rw [hwa]; exact ((((Below.refl _ _).alloc (Nat.le_refl _) _).alloc (by simp) _).alloc (by simp; omega) _).alloc (by simp; omega) _
  have ht := r3.there (o := 0) (n := (W.cellsOf k).toArray.size) (by rw [List.size_toArray, c8_len, c8_len, keyRow_length HK.out (by decide), HK.out]; decide)
  have q0 := Row.setCells_other (show w.heap.size ≠ w.heap.size + 1 + 1 + 1 by omega) (W.cellsOf k) 0 _ _ r0
  have q1 := Row.setCells_other (show w.heap.size + 1 ≠ w.heap.size + 1 + 1 + 1 by omega) (W.cellsOf k) 0 _ _ r1
  have q2 := Row.setCells_other (show w.heap.size + 1 + 1 ≠ w.heap.size + 1 + 1 + 1 by omega) (W.cellsOf k) 0 _ _ r2
  have q3 := Row.setCells (W.cellsOf k) 0 _ _ r3 (by rw [c8_len, c8_len, keyRow_length HK.out (by decide), HK.out]; decide)
  rw [c8_splice, show splice (keyRow k 0) 0 k = keyRow k 1 from keyRow_step HK.out (i := 0) (by decide)] at q3
  have qb := below_setCells (show w.heap.size ≤ w.heap.size + 1 + 1 + 1 by omega) (W.cellsOf k) 0 _ hba
  clear hba r1 r2 r3
  subst hwa
  go_wp2_with (first | refine wpList_load_row rfl 51 _ rfl w.heap.size rfl _ _ _ _ r0 Try.underlying51 rfl hi16 ?_ | refine wpList_store_mid rfl 51 (.tmp 9) (.tmp 8) rfl (w.heap.size + 1 + 1 + 1) 0 _ rfl rfl ht hi16 (c8_all _) ?_)
  go_loopw [6, 7, 10] (fun cv _ iv wr => ∃ i : Nat, i ≤ 10 ∧ iv = .int .i64 i ∧ cv = .int .u8 ((E.dblN 1 i).toNat : Int) ∧ Row wr w.heap.size 51 (W.cellsOf k) ∧ Row wr (w.heap.size + 1) 114 (W.cellsOf box) ∧ Row wr (w.heap.size + 1 + 1) 116 (W.cellsOf (keyRow k 0)) ∧ Row wr (w.heap.size + 1 + 1 + 1) 116 (W.cellsOf (keyRow k (i + 1))) ∧ Below w.heap.size w wr) (fun _ _ iv _ => 10 - (intOf iv).toNat)
  case atStart => exact ⟨0, Nat.zero_le _, rfl, rfl, q0, q1, q2, q3, qb⟩
  case round =>
    clear q0 q1 q2 q3 qb ht r0 hzc
    obtain ⟨i, hi, rfl, rfl, r0, r1, r2, r3, hbl⟩ := hrel
    by_cases hlt : i < 10
    · have hs : (i : Int) < 10 := by omega
      have HD : Hid (E.dblN 1 (i + 1) = E.dbl (E.dblN 1 i)) := rfl
      have HRL := Lib.hid (E.rk_length HK.out i)
      have HRL1 := Lib.hid (E.rk_length HK.out (i + 1))
      have HP := Lib.hid (keyRow_part HK.out (i := i) (m := i + 1) (by omega) (by omega))
      have HST := Lib.hid (keyRow_step HK.out (i := i + 1) (by omega))
      have HKL := Lib.hid (keyRow_length HK.out (i := i + 1) (by omega))
      have CN : Hid (∀ wx, Calls Try.prog 88 #[.agg (W.cellsOf (E.rk k i)).toArray, .int .u8 ((E.dblN 1 i).toNat : Int), .agg (W.cellsOf box).toArray] wx fun e w' => e = .returned (.agg (W.cellsOf (E.rk k (i + 1))).toArray) ∧ Below wx.heap.size wx w') := fun wx => by rw [HBX.out]; exact next_any _ _ HRL.out wx
      have CD : Hid (∀ wx, Calls Try.prog 86 #[.int .u8 ((E.dblN 1 i).toNat : Int)] wx fun e w' => e = .returned (.int .u8 ((E.dblN 1 (i + 1)).toNat : Int)) ∧ w' = wx) := fun wx => double_any _ wx
      have hs0 : (i : Int) < 11 := by omega
      have hs1 : (i : Int) + 1 < 11 := by omega
      have hn1 : ¬ ((i : Int) + 1 < 0) := by omega
      have hw1 : IntKind.i64.wrap ((i : Int) + 1) = ((i + 1 : Nat) : Int) := by rw [IntKind.wrap_i64]; omega
      have hu1 : Try.prog.underlying 51 = some (.array 16 5) := Try.underlying51
      have hu2 : Try.prog.underlying 114 = some (.array 256 5) := Try.underlying114
      have hi1 := info16' HRL.out
      have hi2 := info256' HL.out
      have hi3 := info16' HRL1.out
      have hl3 : (W.cellsOf (E.rk k (i + 1))).length = 16 := by rw [c8_len, HRL1.out]
      have ho3 := c8_one (E.rk k (i + 1))
      have l0 : Hid (∀ wx, Row wx (w.heap.size + 1 + 1 + 1) 116 (W.cellsOf (keyRow k (i + 1))) → wx.rangeAt (w.heap.size + 1 + 1 + 1) (i * 16) (W.cellsOf (E.rk k i))) := fun wx h => by have := h.rangeOf (i * 16) 16; rwa [c8_part, Nat.mul_comm i 16, HP.out, Nat.mul_comm 16 i] at this
      have l1 : Hid (∀ wx, Row wx (w.heap.size + 1) 114 (W.cellsOf box) → wx.rangeAt (w.heap.size + 1) 0 (W.cellsOf box)) := fun wx h => by have := h.rangeOf 0 256; rwa [List.drop_zero, List.take_of_length_le (by rw [c8_len, HL.out]; decide)] at this
      have l2 : Hid (∀ wx, Row wx (w.heap.size + 1 + 1 + 1) 116 (W.cellsOf (keyRow k (i + 1))) → wx.there (w.heap.size + 1 + 1 + 1) ((i + 1) * 16) 16) := fun wx h => h.there (by rw [c8_len, HKL.out]; omega)
      go_wp2_with fail
      refine wp_region_held_drew (S := fun w' => w'.rangeAt (w.heap.size + 1 + 1 + 1) (i * 16) (W.cellsOf (E.rk k i)) ∧ w'.rangeAt (w.heap.size + 1) 0 (W.cellsOf box)) (by kernel_rfl) ⟨l0.out _ r3, l1.out _ r1⟩ (fun hHeld => ?_)
      refine take_d 0 (some 13) (.int .i64 (i : Int)) rfl (by kernel_rfl) (by kernel_rfl) (by kernel_rfl) (fun _ _ _ h => h) (fun oi h => by cases h; exact Or.inl ⟨by rfl, fun w' hS' => by go_simp⟩) hHeld ?_
      try simp only [Act.put, List.setIfInBounds_toArray, List.set_cons_zero, List.set_cons_succ]
      refine take_d 1 (some 14) (.int .i64 ((i + 1 : Nat) : Int)) rfl (by kernel_rfl) (by kernel_rfl) (by kernel_rfl) (fun _ _ _ h => h) (fun oi h => by cases h; exact Or.inl ⟨by rfl, fun w' hS' => by go_simp⟩) hHeld ?_
      try simp only [Act.put, List.setIfInBounds_toArray, List.set_cons_zero, List.set_cons_succ]
      refine take_d 2 (some 15) (.int .i64 (i : Int)) rfl (by kernel_rfl) (by kernel_rfl) (by kernel_rfl) (fun _ _ _ h => h) (fun oi h => by cases h; exact Or.inl ⟨by rfl, fun w' hS' => by go_simp⟩) hHeld ?_
      try simp only [Act.put, List.setIfInBounds_toArray, List.set_cons_zero, List.set_cons_succ]
      refine take_d 3 (some 16) (.pointer (some ⟨w.heap.size + 1 + 1 + 1, i * 16, none⟩)) rfl (by kernel_rfl) (by kernel_rfl) (by kernel_rfl) (fun _ _ _ h => h) (fun oi h => by cases h; exact Or.inl ⟨by rfl, fun w' hS' => by go_simp⟩) hHeld ?_
      try simp only [Act.put, List.setIfInBounds_toArray, List.set_cons_zero, List.set_cons_succ]
      refine take_d 4 (some 17) (.agg (W.cellsOf (E.rk k i)).toArray) rfl (by kernel_rfl) (by kernel_rfl) (by kernel_rfl) (fun _ _ _ h => h) (fun oi h => by cases h; exact yieldsIf_load_mid (by rfl) 51 (.tmp 16) rfl (w.heap.size + 1 + 1 + 1) (i * 16) rfl (W.cellsOf (E.rk k i)) _ (fun w' hS' => hS'.1) hu1 rfl hi1) hHeld ?_
      try simp only [Act.put, List.setIfInBounds_toArray, List.set_cons_zero, List.set_cons_succ]
      refine take_d 5 (some 18) (.int .u8 ((E.dblN 1 i).toNat : Int)) rfl (by kernel_rfl) (by kernel_rfl) (by kernel_rfl) (fun _ _ _ h => h) (fun oi h => by cases h; exact Or.inl ⟨by rfl, fun w' hS' => by go_simp⟩) hHeld ?_
      try simp only [Act.put, List.setIfInBounds_toArray, List.set_cons_zero, List.set_cons_succ]
      refine take_d 6 (some 19) (.agg (W.cellsOf box).toArray) rfl (by kernel_rfl) (by kernel_rfl) (by kernel_rfl) (fun _ _ _ h => h) (fun oi h => by cases h; exact yieldsIf_load_mid (by rfl) 114 (.tmp 3) rfl (w.heap.size + 1) 0 rfl (W.cellsOf box) _ (fun w' hS' => hS'.2) hu2 rfl hi2) hHeld ?_
      try simp only [Act.put, List.setIfInBounds_toArray, List.set_cons_zero, List.set_cons_succ]
      refine one_d 7 (some 20) rfl (by kernel_rfl) ?_
      intro o ho hd K hK
      cases ho
      go_simp
      refine (CN.out _).mono ?_
      rintro e w1 ⟨rfl, b1⟩
      have p0 := Row.below r0.drew b1 r0.lt
      have p1 := Row.below r1.drew b1 r1.lt
      have p2 := Row.below r2.drew b1 r2.lt
      have p3 := Row.below r3.drew b1 r3.lt
      have pb : Below w.heap.size w w1 := (hbl.drew).trans (b1.mono hbl.size)
      clear b1 r0 r1 r2 r3 hbl hHeld
      refine hK.out _ _ ⟨l0.out _ p3, l1.out _ p1⟩ (fun hHeld => ?_)
      clear hK K
      try simp only [Act.put, List.setIfInBounds_toArray, List.set_cons_zero, List.set_cons_succ]
      refine take_d 8 (some 21) (.pointer (some ⟨w.heap.size + 1 + 1 + 1, (i + 1) * 16, none⟩)) rfl (by kernel_rfl) (by kernel_rfl) (by kernel_rfl) (fun _ _ _ h => h) (fun oi h => by cases h; exact Or.inl ⟨by rfl, fun w' hS' => by go_simp⟩) hHeld ?_
      try simp only [Act.put, List.setIfInBounds_toArray, List.set_cons_zero, List.set_cons_succ]
      refine one_d 9 none rfl (by kernel_rfl) ?_
      intro o ho hd K hK
      cases ho
      have HT : Hid (w1.there (w.heap.size + 1 + 1 + 1) ((i + 1) * 16) (W.cellsOf (E.rk k (i + 1))).toArray.size) := by have := l2.out _ p3; rw [← hl3] at this; exact this
      rw [if_pos (by rfl)]
      refine wp_store_mid 51 (.tmp 21) (.tmp 20) rfl (w.heap.size + 1 + 1 + 1) ((i + 1) * 16) (W.cellsOf (E.rk k (i + 1))).toArray rfl rfl HT.out (info16 HRL1.out) (c8_all _) ?_
      have q0 := Row.setCells_other (show w.heap.size ≠ w.heap.size + 1 + 1 + 1 by omega) (W.cellsOf (E.rk k (i + 1))) ((i + 1) * 16) _ _ p0
      have q1 := Row.setCells_other (show w.heap.size + 1 ≠ w.heap.size + 1 + 1 + 1 by omega) (W.cellsOf (E.rk k (i + 1))) ((i + 1) * 16) _ _ p1
      have q2 := Row.setCells_other (show w.heap.size + 1 + 1 ≠ w.heap.size + 1 + 1 + 1 by omega) (W.cellsOf (E.rk k (i + 1))) ((i + 1) * 16) _ _ p2
      have q3 := Row.setCells (W.cellsOf (E.rk k (i + 1))) ((i + 1) * 16) _ _ p3 (by rw [c8_len, c8_len, HKL.out, HRL1.out]; omega)
      rw [c8_splice, Nat.mul_comm (i + 1) 16, HST.out, Nat.mul_comm 16 (i + 1)] at q3
      have qb := below_setCells (show w.heap.size ≤ w.heap.size + 1 + 1 + 1 by omega) (W.cellsOf (E.rk k (i + 1))) ((i + 1) * 16) _ pb
      have hre := l0.out _ p3
      have HSA : Hid (_ ∧ _) := ⟨World.rangeAt_setCells_apart hre (w.heap.size + 1 + 1 + 1) ((i + 1) * 16) (W.cellsOf (E.rk k (i + 1))) (.inr (.inl (by rw [c8_len, HRL.out]; omega))), l1.out _ q1⟩
      refine hK.out _ _ HSA.out (fun hHeld => ?_)
      clear hK K hHeld HSA hre HT p0 p1 p2 p3 pb
      refine wpAnyH_done (by kernel_rfl) ?_ _
      try simp only [Act.put]
      generalize w1.setCells (w.heap.size + 1 + 1 + 1) ((i + 1) * 16) (W.cellsOf (E.rk k (i + 1))) = w2 at *
      clear hu1 hu2 hi1 hi2 hi3 hl3 ho3 l0 l1 l2
      go_wp2_with fail
      refine (CD.out _).mono ?_
      rintro e w3 ⟨rfl, rfl⟩
      go_wp2
      go_roundw
      case rel => exact ⟨i + 1, by omega, by go_num, rfl, q0, q1, q2, q3, qb⟩
      case measure => simp [intOf]; omega
    · obtain rfl : i = 10 := by omega
      rw [show 10 + 1 = 11 from rfl, keyRow_full] at r3
      have hi176 := info176 (E.rks_length HK.out 11)
      go_wp2_with (first | refine wpList_load_row rfl 116 _ rfl (w.heap.size + 1 + 1 + 1) rfl _ _ _ _ r3 Try.underlying116 rfl hi176 ?_ | refine wpList_store_row rfl 116 (.tmp 4) (.tmp 25) rfl (w.heap.size + 1 + 1) _ rfl rfl _ _ r2 hi176 (by rw [List.size_toArray, List.size_toArray, c8_len, c8_len, keyRow_length HK.out (by decide), E.rks_length HK.out 11]) (c8_all _) ?_)
      exact bodyPost_ret (results_cell_row rfl _ _ (w.heap.size + 1 + 1) _ _ _ _ rfl (r2.setRow (W.cellsOf (E.rks k 11))) Try.underlying116 rfl hi176) rfl ⟨rfl, below_row hbl (by omega) _⟩

end Go.Proofs.Ytbkeodgiflfakaa
