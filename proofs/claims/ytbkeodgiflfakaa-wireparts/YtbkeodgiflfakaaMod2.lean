/-
  Several texts in one module: Put, ZHead, Get, RefPut, RefGet.
-/
import Derived.Test.YtbkeodgiflfakaaMod1
import Derived.Test.YtbkeodgiflfakaaRows
import Derived.WalkKit
import Derived.WalkSpells
import Derived.WalkLawsBesides
import Derived.Below
import Derived.OwnWalk
import Derived.Laws.IdiomStrings
import Derived.Lib.Slices
import Derived.Lib.Hide
import Derived.Laws.BitsAllLaws
/-
  Layer 1: what word.Put comes to, at every argument of their types.
-/
namespace Go.Proofs.Ytbkeodgiflfakaa
open Go.RowKit
set_option linter.unusedVariables false
set_option maxRecDepth 20000

theorem infoByte : (Try.prog.info? 5).map (fun i => (i.zero, i.size, i.bytes)) = some (some (.int .u8 0), 1, 1) := by kernel_rfl

/-- The shift and the cut of word.Put's round. -/
theorem byte_at (n i : Nat) : ((n : Int) / 2 ^ (8 * i)) % 256 = ((n / 256 ^ i % 256 : Nat) : Int) := by
  have : (2 : Nat) ^ (8 * i) = 256 ^ i := by rw [Nat.pow_mul]
  have e : (2 : Int) ^ (8 * i) = ((256 ^ i : Nat) : Int) := by rw [← this]; simp
  rw [e]; omega

set_option maxHeartbeats 400000 in
/-- word.Put behind the size's cut. -/
theorem put_mid (n k : Nat) (_h1 : n ≤ 18446744073709551615) (hk : k ≤ 8) (w : World) :
    Calls Try.prog 33 #[.int .u64 n, .int .i64 k] w fun e w' => e = .returned (.string ⟨(W.putL n k).toArray⟩) ∧ Below w.heap.size w w' := by
  obtain ⟨i0, hi, hz0, hz1, hz2⟩ := info_parts infoByte
  go_enter Try.func33, Try.ntmps33
  go_wp2_with (at_make; refine wpList_make_full _ rfl _ _ 78 rfl w.heap.size 5 i0 (.int .u8 0) 1 Try.underlying78 hi hz0 hz1 _ _ _ _ k rfl rfl rfl rfl (by rw [hz2]; omega) (by unfold maxLen; omega) (Nat.le_refl _) ?_)
  intro w1 hown hgrow
  rw [toList_madeCells_one, ← W.rowAt_zero n k] at hown
  have hb1 : Below w.heap.size w w1 := (Below.refl _ _).grown hgrow (Nat.le_refl _) (by simp)
  clear hgrow hi hz0 hz1 hz2
  go_wp2
  go_loopw [13] (fun v wr => ∃ j : Nat, j ≤ k ∧ v = .int .i64 j ∧ wr.ownsRow w.heap.size 5 1 (.slice (some ⟨w.heap.size, 0, none⟩) k k) k (W.rowAt n k j) ∧ Below w.heap.size w wr) (fun v _ => k - (intOf v).toNat)
  case atStart => exact ⟨0, Nat.zero_le _, rfl, hown, hb1⟩
  case round =>
    obtain ⟨j, hj, rfl, ho, hb⟩ := hrel
    by_cases hlt : j < k
    · have hc := (ho.cellAt (k - 1 - j) (by omega)).trans (W.rowAt_at n k j hlt)
      have hf := ho.frozenAt (k - 1 - j)
      have hst := (ho.stored (k - 1 - j) (.int .u8 ((n / 256 ^ j % 256 : Nat) : Int))).1
      rw [W.rowAt_step n k j hlt, ← byte_at] at hst
      have hbs := hb.setCell (p := ⟨w.heap.size, k - 1 - j, none⟩) (Nat.le_refl _) (.int .u8 ((n : Int) / 2 ^ (8 * j) % 256))
      go_wp2
      go_roundw
      case rel => exact ⟨j + 1, by omega, by go_num, hst, hbs⟩
      case measure => simp [intOf]; omega
    · obtain rfl : j = k := by omega
      rw [W.rowAt_full] at ho
      have hcv := run_convert_bytes_back (P := Try.prog) wr 78 9 5 ⟨w.heap.size, 0, none⟩ j (W.putL n j) Try.underlying78 Try.underlying5 Try.underlying9 (fun t ht => ho.cells (g := w.heap.size) rfl t _ (by simp [W.cellsOf, ht]))
      rw [W.putL_length] at hcv
      go_wp2
      go_ret
      exact ⟨rfl, hb⟩

set_option maxHeartbeats 400000 in
/-- word.Put behind the size's cut. -/
theorem put_low (n : Nat) (size : Int) (_h1 : n ≤ 18446744073709551615) (hs : size < 0) (w : World) :
    Calls Try.prog 33 #[.int .u64 n, .int .i64 size] w fun e w' => e = .returned (.string ⟨(W.putL n 0).toArray⟩) ∧ Below w.heap.size w w' := by
  obtain ⟨i0, hi, hz0, hz1, hz2⟩ := info_parts infoByte
  go_enter Try.func33, Try.ntmps33
  go_wp2_with (at_make; refine wpList_make_full _ rfl _ _ 78 rfl w.heap.size 5 i0 (.int .u8 0) 1 Try.underlying78 hi hz0 hz1 _ _ _ _ 0 rfl rfl rfl rfl (by rw [hz2]; omega) (by unfold maxLen; omega) (Nat.le_refl _) ?_)
  intro w1 hown hgrow
  rw [toList_madeCells_one, ← W.rowAt_zero n 0] at hown
  have hb1 : Below w.heap.size w w1 := (Below.refl _ _).grown hgrow (Nat.le_refl _) (by simp)
  clear hgrow hi hz0 hz1 hz2
  go_wp2
  have hcv := run_convert_bytes_back (P := Try.prog) w1 78 9 5 ⟨w.heap.size, 0, none⟩ 0 (W.putL n 0) Try.underlying78 Try.underlying5 Try.underlying9 (fun t ht => by simp [W.putL] at ht)
  rw [W.putL_length] at hcv
  refine wp_loop_rounds 1 ?_
  rw [rounds_succ]
  go_wp2
  go_ret
  exact ⟨rfl, hb1⟩

set_option maxHeartbeats 400000 in
/-- word.Put behind the size's cut. -/
theorem put_high (n : Nat) (size : Int) (_h1 : n ≤ 18446744073709551615) (hs : 8 < size) (w : World) :
    Calls Try.prog 33 #[.int .u64 n, .int .i64 size] w fun e w' => e = .returned (.string ⟨(W.putL n 8).toArray⟩) ∧ Below w.heap.size w w' := by
  obtain ⟨i0, hi, hz0, hz1, hz2⟩ := info_parts infoByte
  go_enter Try.func33, Try.ntmps33
  go_wp2_with (at_make; refine wpList_make_full _ rfl _ _ 78 rfl w.heap.size 5 i0 (.int .u8 0) 1 Try.underlying78 hi hz0 hz1 _ _ _ _ 8 rfl rfl rfl rfl (by rw [hz2]; omega) (by unfold maxLen; omega) (Nat.le_refl _) ?_)
  intro w1 hown hgrow
  rw [toList_madeCells_one, ← W.rowAt_zero n 8] at hown
  have hb1 : Below w.heap.size w w1 := (Below.refl _ _).grown hgrow (Nat.le_refl _) (by simp)
  clear hgrow hi hz0 hz1 hz2
  go_wp2
  go_loopw [13] (fun v wr => ∃ j : Nat, j ≤ 8 ∧ v = .int .i64 j ∧ wr.ownsRow w.heap.size 5 1 (.slice (some ⟨w.heap.size, 0, none⟩) 8 8) 8 (W.rowAt n 8 j) ∧ Below w.heap.size w wr) (fun v _ => 8 - (intOf v).toNat)
  case atStart => exact ⟨0, Nat.zero_le _, rfl, hown, hb1⟩
  case round =>
    obtain ⟨j, hj, rfl, ho, hb⟩ := hrel
    by_cases hlt : j < 8
    · have hc := (ho.cellAt (7 - j) (by omega)).trans (W.rowAt_at n 8 j hlt)
      have hf := ho.frozenAt (7 - j)
      have hst := (ho.stored (7 - j) (.int .u8 ((n / 256 ^ j % 256 : Nat) : Int))).1
      rw [W.rowAt_step n 8 j hlt, ← byte_at] at hst
      have hbs := hb.setCell (p := ⟨w.heap.size, 7 - j, none⟩) (Nat.le_refl _) (.int .u8 ((n : Int) / 2 ^ (8 * j) % 256))
      go_wp2
      go_roundw
      case rel => exact ⟨j + 1, by omega, by go_num, hst, hbs⟩
      case measure => simp [intOf]; omega
    · obtain rfl : j = 8 := by omega
      rw [W.rowAt_full] at ho
      have hcv := run_convert_bytes_back (P := Try.prog) wr 78 9 5 ⟨w.heap.size, 0, none⟩ 8 (W.putL n 8) Try.underlying78 Try.underlying5 Try.underlying9 (fun t ht => ho.cells (g := w.heap.size) rfl t _ (by simp [W.cellsOf, ht]))
      rw [W.putL_length] at hcv
      go_wp2
      go_ret
      exact ⟨rfl, hb⟩

/-- word.Put. -/
theorem put_any (n size : Int) (h0 : 0 ≤ n) (h1 : n ≤ 18446744073709551615) (w : World) :
    Calls Try.prog 33 #[.int .u64 n, .int .i64 size] w fun e w' => e = .returned (.string ⟨(W.putL n.toNat (W.clamp size)).toArray⟩) ∧ Below w.heap.size w w' := by
  obtain ⟨n, rfl⟩ := Int.eq_ofNat_of_zero_le h0
  rw [Int.toNat_natCast]
  by_cases a : size < 0
  · rw [W.clamp_low a]; exact put_low n size (by omega) a w
  · by_cases b : 8 < size
    · rw [W.clamp_high b]; exact put_high n size (by omega) b w
    · obtain ⟨k, rfl⟩ := Int.eq_ofNat_of_zero_le (show 0 ≤ size by omega)
      rw [W.clamp_mid (by omega)]; exact put_mid n k (by omega) (by omega) w

end Go.Proofs.Ytbkeodgiflfakaa

/-
  Layer 7: Head, Size.
-/
namespace Go.Proofs.Ytbkeodgiflfakaa
open Go.RowKit
set_option linter.unusedVariables false
set_option maxRecDepth 20000

set_option maxHeartbeats 1000000 in
theorem head_any (id n : Nat) (h1 : id ≤ 18446744073709551615) (h2 : n ≤ 18446744073709551615) (w : World) :
    Calls Try.prog 23 #[.int .u64 (id : Int), .int .u64 (n : Int)] w fun e w' => e = .returned (.string ⟨(C.blk id n).toArray⟩) ∧ Below w.heap.size w w' := by
  have C1 : Hid (∀ wx, Calls Try.prog 33 #[.int .u64 (id : Int), .int .i64 8] wx fun e w' => e = .returned (.string ⟨(W.putL id 8).toArray⟩) ∧ Below wx.heap.size wx w') := fun wx => put_mid id 8 h1 (by decide) wx
  have C2 : Hid (∀ wx, Calls Try.prog 33 #[.int .u64 (n : Int), .int .i64 8] wx fun e w' => e = .returned (.string ⟨(W.putL n 8).toArray⟩) ∧ Below wx.heap.size wx w') := fun wx => put_mid n 8 h2 (by decide) wx
  have e : (⟨(C.blk id n).toArray⟩ : ByteArray) = ⟨(W.putL id 8).toArray⟩ ++ ⟨(W.putL n 8).toArray⟩ := Go.WideShapes.bytes_inj (by simp [C.blk])
  have s1 : (⟨(W.putL id 8).toArray⟩ : ByteArray).size = 8 := by simp [ByteArray.size, W.putL_length]
  have s2 : (⟨(W.putL n 8).toArray⟩ : ByteArray).size = 8 := by simp [ByteArray.size, W.putL_length]
  rw [e]
  clear e
  generalize (⟨(W.putL id 8).toArray⟩ : ByteArray) = x at *
  generalize (⟨(W.putL n 8).toArray⟩ : ByteArray) = y at *
  go_enter Try.func23, Try.ntmps23
  go_wp2_with fail
  refine (C1.out _).mono ?_
  rintro e w1 ⟨rfl, b1⟩
  go_wp2_with fail
  refine (C2.out _).mono ?_
  rintro e w2 ⟨rfl, b2⟩
  have hb := b1.trans (b2.mono b1.size)
  clear b1 b2
  go_wp2
  go_ret
  exact ⟨rfl, hb⟩

set_option maxHeartbeats 1000000 in
theorem size_any (n : Nat) (hn : n ≤ 1000000) (w : World) :
    Calls Try.prog 34 #[.int .i64 (n : Int)] w fun e w' => e = .returned (.int .i64 ((n : Int) + 16)) ∧ w' = w := by
  have hmin : min (n : Int) 9223372036854775791 = n := by omega
  go_enter Try.func34, Try.ntmps34
  go_wp2
  go_ret
  exact ⟨rfl, rfl⟩

end Go.Proofs.Ytbkeodgiflfakaa

/-
  Layer 1: word.Get.
-/
namespace Go.Proofs.Ytbkeodgiflfakaa
open Go.RowKit
set_option linter.unusedVariables false
set_option maxRecDepth 20000

theorem retG_int {k : IntKind} {a b : Int} (h : a = b) : Ending.returned (.int k a) = .returned (.int k b) := by rw [h]

theorem ret_iv {k : IntKind} {a b : Int} {v : Value} (h : a = b) : Ending.returned (.tuple #[.int k a, v]) = .returned (.tuple #[.int k b, v]) := by rw [h]

theorem or_byteG (x b : Nat) (hx : x < 72057594037927936) (hb : b < 256) : bits BinOp.or IntKind.u64 ((x : Int) * 256) (b : Int) = ((x * 256 + b : Nat) : Int) := by
  have := u64_or_nat (x * 256) b (by omega) (by omega)
  have e : 2 ^ 8 * x + b = 2 ^ 8 * x ||| b := Nat.two_pow_add_eq_or_of_lt (by simpa using hb) x
  rw [show x * 256 + b = 2 ^ 8 * x + b from by omega, e, show 2 ^ 8 * x = x * 256 from by omega, ← this]
  simp

set_option maxHeartbeats 400000 in
/-- word.Get of 1 to 8 bytes. -/
theorem get_mid (s : ByteArray) (h1 : 1 ≤ s.size) (hs : s.size ≤ 8) (w : World) :
    Calls Try.prog 49 #[.string s] w fun e w' => e = .returned (.tuple #[.int .u64 (W.getN s.data.toList), .int .i64 0]) ∧ w' = w := by
  go_enter Try.func49, Try.ntmps49
  go_wp2
  go_loop [4, 14] (fun n i => ∃ k : Nat, k ≤ s.size ∧ i = .int .i64 k ∧ n = .int .u64 (W.getN (s.data.toList.take k))) (fun _ i => s.size - (intOf i).toNat)
  case atStart => exact ⟨0, Nat.zero_le _, rfl, rfl⟩
  case round =>
    obtain ⟨k, hk, rfl, rfl⟩ := hrel
    by_cases hlt : k < s.size
    · have hb := W.getN_take_lt s k (by omega)
      have HS : Hid (W.getN (s.data.toList.take (k + 1)) = W.getN (s.data.toList.take k) * 256 + s[k].toNat) := by rw [W.take_snoc s k hlt]; exact W.getN_snoc _ _
      have hu := s[k].toNat_lt
      go_wp2
      go_round
      case rel => refine ⟨k + 1, by omega, by go_num, ?_⟩; rw [HS.out, or_byteG _ _ hb (by simpa using hu)]
      case measure => simp [intOf]; omega
    · go_wp2
      go_ret2
      exact ⟨ret_iv (by rw [List.take_of_length_le (by simp; omega)]), rfl⟩

theorem get_short (s : ByteArray) (h1 : s.size = 0) (w : World) :
    Calls Try.prog 49 #[.string s] w fun e w' => e = .returned (.tuple #[.int .u64 0, .int .i64 3]) ∧ w' = w := by
  have h2 : (s.size : Int) < 1 := by omega
  clear h1
  go_enter Try.func49, Try.ntmps49
  go_wp2
  go_ret2
  exact ⟨rfl, rfl⟩

theorem get_long (s : ByteArray) (h1 : 8 < s.size) (w : World) :
    Calls Try.prog 49 #[.string s] w fun e w' => e = .returned (.tuple #[.int .u64 0, .int .i64 5]) ∧ w' = w := by
  go_enter Try.func49, Try.ntmps49
  go_wp2
  go_ret2
  exact ⟨rfl, rfl⟩

/-- What word.Get answers. -/
def getV (l : List UInt8) : Int := if l.length = 0 then 0 else if 8 < l.length then 0 else (W.getN l : Int)
def getE (l : List UInt8) : Int := if l.length = 0 then 3 else if 8 < l.length then 5 else 0

/-- word.Get. -/
theorem get_any (s : ByteArray) (w : World) :
    Calls Try.prog 49 #[.string s] w fun e w' => e = .returned (.tuple #[.int .u64 (getV s.data.toList), .int .i64 (getE s.data.toList)]) ∧ w' = w := by
  have hl : s.data.toList.length = s.size := by simp
  unfold getV getE
  rw [hl]
  by_cases a : s.size = 0
  · rw [if_pos a, if_pos a]; exact get_short s a w
  · rw [if_neg a, if_neg a]
    by_cases b : 8 < s.size
    · rw [if_pos b, if_pos b]; exact get_long s b w
    · rw [if_neg b, if_neg b]; exact get_mid s (by omega) (by omega) w

end Go.Proofs.Ytbkeodgiflfakaa

/-
  Layer 1: the document's own Put.
-/
namespace Go.Proofs.Ytbkeodgiflfakaa
open Go.RowKit
set_option linter.unusedVariables false
set_option maxRecDepth 20000

theorem quo_step (n j : Nat) : n / 256 ^ j / 256 = n / 256 ^ (j + 1) := by
  rw [Nat.pow_succ, ← Nat.div_div_eq_div_mul]

theorem putL_le (n : Nat) : ∀ k, k ≤ 8 → (⟨(W.putL n k).toArray⟩ : ByteArray).size ≤ 8 := by
  intro k hk
  show (W.putL n k).toArray.size ≤ 8
  simp [W.putL_length, hk]

theorem conv1 (wr : World) (x : Int) (b : UInt8) (hx : x = (b.toNat : Int)) : (convert 78 9 (.slice (some ⟨wr.heap.size, 0, none⟩) 1 1)).run Try.prog (wr.alloc (.cells #[.int .u8 x] 5)) = .ok (.string ⟨#[b]⟩) (wr.alloc (.cells #[.int .u8 x] 5)) := by
  have := run_convert_bytes_back (P := Try.prog) (wr.alloc (.cells #[.int .u8 x] 5)) 78 9 5 ⟨wr.heap.size, 0, none⟩ 1 [b] Try.underlying78 Try.underlying5 Try.underlying9 (fun t ht => by
    obtain rfl : t = 0 := by simpa using ht
    simp [Addr.add, hx])
  exact this

set_option maxHeartbeats 400000 in
set_option maxRecDepth 10000 in
theorem refPut_any (n size : Int) (h0 : 0 ≤ n) (h1 : n ≤ 18446744073709551615) (w : World) :
    Calls Try.prog 29 #[.int .u64 n, .int .i64 size] w fun e w' => e = .returned (.string ⟨(W.putL n.toNat (W.clamp size)).toArray⟩) ∧ Below w.heap.size w w' := by
  obtain ⟨n, rfl⟩ := Int.eq_ofNat_of_zero_le h0
  rw [Int.toNat_natCast]
  go_enter Try.func29, Try.ntmps29
  go_wp2
  go_loopw [0, 5, 6] (fun v s i wr => ∃ j q : Nat, j ≤ W.clamp size ∧ Hid (q = n / 256 ^ j) ∧ v = .int .u64 (q : Int) ∧ s = .string ⟨(W.putL n j).toArray⟩ ∧ i = .int .i64 j ∧ Below w.heap.size w wr) (fun _ _ i _ => 8 - (intOf i).toNat)
  case atStart => exact ⟨0, n, Nat.zero_le _, by simp [Hid], rfl, rfl, rfl, Below.refl _ _⟩
  case round =>
    obtain ⟨j, q, hj, HQ, rfl, rfl, rfl, hb⟩ := hrel
    have hj8 : j ≤ 8 := by unfold W.clamp at hj; omega
    have hsz := putL_le n j hj8
    by_cases hlt : j < W.clamp size
    · have g1 : (j : Int) < size := by unfold W.clamp at hlt; omega
      have g2 : j < 8 := by unfold W.clamp at hlt; omega
      have hq : q ≤ 18446744073709551615 := by rw [HQ.out]; exact Nat.le_trans (Nat.div_le_self _ _) (by omega)
      have hcv := conv1 wr ((q : Int) % 256) (UInt8.ofNat q) (by simp)
      have hadd := fun wx => run_string_add_sum (P := Try.prog) wx (⟨#[UInt8.ofNat q]⟩ : ByteArray) ⟨(W.putL n j).toArray⟩ (by have : (⟨#[UInt8.ofNat q]⟩ : ByteArray).size = 1 := rfl; omega)
      clear hsz
      go_wp2
      go_roundw
      case rel => exact ⟨j + 1, q / 256, by omega, by rw [HQ.out]; exact quo_step n j, by go_num, by rw [HQ.out]; simp [W.putL, ByteArray.ext_iff], by go_num, hb.alloc (by have := hb.size; omega) _⟩
      case measure => simp [intOf]; omega
    · obtain rfl : j = W.clamp size := by omega
      by_cases g1 : ((W.clamp size : Nat) : Int) < size
      · have g2 : ¬ ((W.clamp size : Nat) : Int) < 8 := by unfold W.clamp at g1 ⊢; omega
        go_wp2
        go_ret
        exact ⟨rfl, hb⟩
      · go_wp2
        go_ret
        exact ⟨rfl, hb⟩

end Go.Proofs.Ytbkeodgiflfakaa

/-
  Layer 1: the document's own Get.
-/
namespace Go.Proofs.Ytbkeodgiflfakaa
open Go.RowKit
set_option linter.unusedVariables false
set_option maxRecDepth 20000

set_option maxHeartbeats 400000 in
/-- The document's Get, of at most 8 bytes. -/
theorem refGet_any (s : ByteArray) (hs : s.size ≤ 8) (w : World) :
    Calls Try.prog 11 #[.string s] w fun e w' => e = .returned (.int .u64 (W.getN s.data.toList)) ∧ w' = w := by
  go_enter Try.func11, Try.ntmps11
  go_wp2
  go_loop [3, 4] (fun n i => ∃ k : Nat, k ≤ s.size ∧ i = .int .i64 k ∧ n = .int .u64 (W.getN (s.data.toList.take k))) (fun _ i => s.size - (intOf i).toNat)
  case atStart => exact ⟨0, Nat.zero_le _, rfl, rfl⟩
  case round =>
    obtain ⟨k, hk, rfl, rfl⟩ := hrel
    by_cases hlt : k < s.size
    · have hb := W.getN_take_lt s k (by omega)
      have HS : Hid (W.getN (s.data.toList.take (k + 1)) = W.getN (s.data.toList.take k) * 256 + s[k].toNat) := by rw [W.take_snoc s k hlt]; exact W.getN_snoc _ _
      have hu := s[k].toNat_lt
      go_wp2
      go_round
      case rel => exact ⟨k + 1, by omega, by go_num, by rw [HS.out]; go_num⟩
      case measure => simp [intOf]; omega
    · go_wp2
      go_ret
      exact ⟨retG_int (by rw [List.take_of_length_le (by simp; omega)]), rfl⟩

end Go.Proofs.Ytbkeodgiflfakaa
