/-
  Several texts in one module: ABits, ARows, SWords, AShift, ABox.
-/
import Derived.Test.YtbkeodgiflfakaaMod1
import Derived.Test.YtbkeodgiflfakaaMod4
import Derived.Test.YtbkeodgiflfakaaMod5
import Derived.Test.YtbkeodgiflfakaaRows
import Derived.WalkKit
import Derived.WalkSpells
import Derived.WalkLawsBesides
import Derived.Laws.BitsAllLaws
import Derived.Deep.QuietTactic
import Derived.BigQuiet
import Derived.OwnWalk
import Derived.RegionTactic
import Derived.Lib.Hide
import Derived.WalkMore
/-
  Layer 5: the small functions on bytes: double, Times, RotateLeft8, spread.
-/
namespace Go.Proofs.Ytbkeodgiflfakaa
open Go.RowKit
set_option linter.unusedVariables false
set_option maxRecDepth 20000

theorem xor8 (a b : UInt8) : bits .xor .u8 (a.toNat : Int) (b.toNat : Int) = ((a ^^^ b).toNat : Int) := by
  rw [u8_xor_nat _ _ a.toNat_lt b.toNat_lt, UInt8.toNat_xor]
theorem byte_all {p : UInt8 → Prop} (h : ∀ n : Nat, n < 256 → p (UInt8.ofNat n)) (a : UInt8) : p a := by
  have := h a.toNat a.toNat_lt
  rwa [UInt8.ofNat_toNat] at this
theorem ret8 {k : IntKind} {a b : Int} (h : a = b) : Ending.returned (.int k a) = .returned (.int k b) := by rw [h]
theorem pow8 (k : Nat) : (2 : Int) ^ k = ((2 ^ k : Nat) : Int) := by simp

theorem dbl_is (a : UInt8) : bits .xor .u8 ((a.toNat : Int) * 2 % 256) ((a.toNat : Int) / 128 * 27) = ((E.dbl a).toNat : Int) := by
  refine byte_all (p := fun a => bits .xor .u8 ((a.toNat : Int) * 2 % 256) ((a.toNat : Int) / 128 * 27) = ((E.dbl a).toNat : Int)) ?_ a
  decide +kernel

set_option maxHeartbeats 400000 in
theorem double_any (a : UInt8) (w : World) :
    Calls Try.prog 86 #[.int .u8 (a.toNat : Int)] w fun e w' => e = .returned (.int .u8 ((E.dbl a).toNat : Int)) ∧ w' = w := by
  have hd := Lib.hid (dbl_is a)
  have ha := a.toNat_lt
  generalize (E.dbl a).toNat = d at *
  generalize a.toNat = x at *
  go_enter Try.func86, Try.ntmps86
  go_wp2
  go_ret
  exact ⟨ret8 hd.out, rfl⟩

theorem and1 (x : Nat) (hx : x < 256) : bits .and .u8 (x : Int) 1 = ((x % 2 : Nat) : Int) := by
  rw [show (1 : Int) = ((1 : Nat) : Int) from rfl, u8_and_nat _ _ hx (by decide), Nat.and_one_is_mod]

set_option maxHeartbeats 400000 in
theorem times_any (a b : UInt8) (w : World) :
    Calls Try.prog 87 #[.int .u8 (a.toNat : Int), .int .u8 (b.toNat : Int)] w fun e w' => e = .returned (.int .u8 ((E.mul a b).toNat : Int)) ∧ w' = w := by
  go_enter Try.func87, Try.ntmps87
  go_wp2
  go_loopw [0, 5, 6, 7] (fun av pv _ iv wr => ∃ i : Nat, i ≤ 8 ∧ av = .int .u8 ((E.dblN a i).toNat : Int) ∧ pv = .int .u8 ((E.mulTo a b i).toNat : Int) ∧ iv = .int .i64 i ∧ wr = w) (fun _ _ _ iv _ => 8 - (intOf iv).toNat)
  case atStart => exact ⟨0, Nat.zero_le _, rfl, rfl, rfl, rfl⟩
  case round =>
    obtain ⟨i, hi, rfl, rfl, rfl, rfl⟩ := hrel
    by_cases hlt : i < 8
    · have HM : Hid (E.mulTo a b (i + 1) = if b.toNat / 2 ^ i % 2 = 1 then E.mulTo a b i ^^^ E.dblN a i else E.mulTo a b i) := rfl
      have HD : Hid (E.dblN a (i + 1) = E.dbl (E.dblN a i)) := rfl
      have hx : (b.toNat : Int) / 2 ^ i = ((b.toNat / 2 ^ i : Nat) : Int) := by rw [pow8]; omega
      have hq : b.toNat / 2 ^ i < 256 := Nat.lt_of_le_of_lt (Nat.div_le_self _ _) b.toNat_lt
      have ha := and1 _ hq
      have hxor := xor8 (E.mulTo a b i) (E.dblN a i)
      generalize b.toNat / 2 ^ i = q at *
      have hs : (i : Int) < 8 := by omega
      by_cases h1 : q % 2 = 1
      · rw [h1] at ha
        have HM' : Hid (E.mulTo a b (i + 1) = E.mulTo a b i ^^^ E.dblN a i) := by have := HM.out; rwa [if_pos h1] at this
        go_wp2_with fail
        refine (double_any _ _).mono ?_
        rintro e w1 ⟨rfl, rfl⟩
        go_wp2
        go_roundw
        case rel => exact ⟨i + 1, by omega, by rw [HD.out], by rw [HM'.out] <;> first | rfl | rw [UInt8.toNat_xor], by go_num, by first | rfl | trivial⟩
        case measure => simp [intOf]; omega
      · have h0 : q % 2 = 0 := by omega
        rw [h0] at ha
        have HM' : Hid (E.mulTo a b (i + 1) = E.mulTo a b i) := by have := HM.out; rwa [if_neg h1] at this
        go_wp2_with fail
        refine (double_any _ _).mono ?_
        rintro e w1 ⟨rfl, rfl⟩
        go_wp2
        go_roundw
        case rel => exact ⟨i + 1, by omega, by rw [HD.out], by rw [HM'.out] <;> first | rfl | rw [UInt8.toNat_xor], by go_num, by first | rfl | trivial⟩
        case measure => simp [intOf]; omega
    · obtain rfl : i = 8 := by omega
      go_wp2
      go_ret
      exact ⟨rfl, rfl⟩

theorem mask7 (k : Nat) (h1 : 1 ≤ k) (h2 : k ≤ 4) : bits .and .u64 (k : Int) 7 = (k : Int) := by
  obtain rfl | rfl | rfl | rfl : k = 1 ∨ k = 2 ∨ k = 3 ∨ k = 4 := by omega
  all_goals decide +kernel
theorem rotl_is (c : UInt8) (k : Nat) (h1 : 1 ≤ k) (h2 : k ≤ 4) : bits .or .u8 ((c.toNat : Int) * 2 ^ k % 256) ((c.toNat : Int) / 2 ^ (8 - k)) = ((E.rotl c k).toNat : Int) := by
  have hc := c.toNat_lt
  have h3 : c.toNat / 2 ^ (8 - k) < 256 := Nat.lt_of_le_of_lt (Nat.div_le_self _ _) hc
  have e1 : (c.toNat : Int) * 2 ^ k % 256 = ((c.toNat * 2 ^ k % 256 : Nat) : Int) := by rw [pow8]; omega
  have e2 : (c.toNat : Int) / 2 ^ (8 - k) = ((c.toNat / 2 ^ (8 - k) : Nat) : Int) := by rw [pow8]; omega
  rw [e1, e2, u8_or_nat _ _ (Nat.mod_lt _ (by decide)) h3]
  unfold E.rotl
  have h4 : c.toNat * 2 ^ k % 256 ||| c.toNat / 2 ^ (8 - k) < 256 := Nat.or_lt_two_pow (n := 8) (Nat.mod_lt _ (by decide)) h3
  rw [UInt8.toNat_ofNat', Nat.mod_eq_of_lt h4]

set_option maxHeartbeats 400000 in
theorem rotl_any (c : UInt8) (k : Nat) (h1 : 1 ≤ k) (h2 : k ≤ 4) (w : World) :
    Calls Try.prog 101 #[.int .u8 (c.toNat : Int), .int .i64 (k : Int)] w fun e w' => e = .returned (.int .u8 ((E.rotl c k).toNat : Int)) ∧ w' = w := by
  have hm := mask7 k h1 h2
  have hr := Lib.hid (rotl_is c k h1 h2)
  have hc := c.toNat_lt
  generalize (E.rotl c k).toNat = r at *
  generalize c.toNat = x at *
  go_enter Try.func101, Try.ntmps101
  go_wp2
  go_ret
  exact ⟨ret8 hr.out, rfl⟩

set_option maxHeartbeats 400000 in
theorem spread_any (c : UInt8) (w : World) :
    Calls Try.prog 85 #[.int .u8 (c.toNat : Int)] w fun e w' => e = .returned (.int .u8 ((E.spread c).toNat : Int)) ∧ w' = w := by
  have h0 := xor8 c 99
  rw [show ((99 : UInt8).toNat : Int) = 99 from rfl] at h0
  go_enter Try.func85, Try.ntmps85
  go_wp2
  go_loopw [3, 4, 7] (fun ov _ iv wr => ∃ i : Nat, i ≤ 4 ∧ ov = .int .u8 ((E.spreadTo c i).toNat : Int) ∧ iv = .int .i64 i ∧ wr = w) (fun _ _ iv _ => 4 - (intOf iv).toNat)
  case atStart => exact ⟨0, Nat.zero_le _, by first | rfl | (rw [h0]; rfl), rfl, rfl⟩
  case round =>
    obtain ⟨i, hi, rfl, rfl, rfl⟩ := hrel
    by_cases hlt : i < 4
    · have HM : Hid (E.spreadTo c (i + 1) = E.spreadTo c i ^^^ E.rotl c (i + 1)) := rfl
      have hxor := xor8 (E.spreadTo c i) (E.rotl c (i + 1))
      have hs : (i : Int) < 4 := by omega
      go_wp2_with fail
      rw [show (i : Int) + 1 = ((i + 1 : Nat) : Int) from by omega]
      refine (rotl_any c (i + 1) (by omega) (by omega) _).mono ?_
      rintro e w1 ⟨rfl, rfl⟩
      go_wp2
      go_roundw
      case rel => exact ⟨i + 1, by omega, by rw [HM.out, UInt8.toNat_xor], by go_num, by first | rfl | trivial⟩
      case measure => simp [intOf]; omega
    · obtain rfl : i = 4 := by omega
      go_wp2
      go_ret
      exact ⟨rfl, rfl⟩

end Go.Proofs.Ytbkeodgiflfakaa

/-
  Layer 5: Box, laidOver, shifted.
-/
namespace Go.Proofs.Ytbkeodgiflfakaa
open Go.RowKit
set_option linter.unusedVariables false
set_option maxRecDepth 20000

theorem c8_at {b : List UInt8} {j : Nat} (h : j < b.length) : (W.cellsOf b)[j]? = some (Value.int .u8 ((b.getD j 0).toNat : Int)) := by simp [W.cellsOf, h]
theorem c8_set (l : List UInt8) (i : Nat) (x : UInt8) : (W.cellsOf l).set i (Value.int .u8 (x.toNat : Int)) = W.cellsOf (l.set i x) := by simp [W.cellsOf, List.map_set]
theorem c8_len (l : List UInt8) : (W.cellsOf l).length = l.length := by simp [W.cellsOf]
theorem c8_all (l : List UInt8) : (W.cellsOf l).toArray.all (·.oneCell') = true := by simp [W.cellsOf, Value.oneCell']
theorem c8_one (l : List UInt8) : ∀ v ∈ W.cellsOf l, v.oneCell' = true := by
  intro v hv
  obtain ⟨x, _, rfl⟩ := List.mem_map.1 hv
  rfl
theorem c8_append (a b : List UInt8) : W.cellsOf (a ++ b) = W.cellsOf a ++ W.cellsOf b := by simp [W.cellsOf]
theorem info16 {b : List UInt8} (h : b.length = 16) : (Try.prog.info? 51).map (·.size) = some (W.cellsOf b).toArray.size := by
  rw [List.size_toArray, c8_len, h]; kernel_rfl
theorem info256 {b : List UInt8} (h : b.length = 256) : (Try.prog.info? 114).map (·.size) = some (W.cellsOf b).toArray.size := by
  rw [List.size_toArray, c8_len, h]; kernel_rfl

set_option maxHeartbeats 400000 in
theorem over_any (b k : List UInt8) (hb : b.length = 16) (hk : k.length = 16) (w : World) :
    Calls Try.prog 73 #[.agg (W.cellsOf b).toArray, .agg (W.cellsOf k).toArray] w fun e w' => e = .returned (.agg (W.cellsOf (E.over b k)).toArray) ∧ Below w.heap.size w w' := by
  have HB := Lib.hid hb
  have HK := Lib.hid hk
  clear hb hk
  have hF : (E.over b k).length = b.length := by rw [E.over_length, HB.out]
  have HFull := Lib.hid (E.fill_full (E.over_length b k) HB.out)
  go_enter Try.func73, Try.ntmps73
  go_wp2
  go_loopw [5, 6] (fun _ iv wr => ∃ j : Nat, j ≤ 16 ∧ iv = .int .i64 j ∧ Row wr w.heap.size 51 (W.cellsOf (E.fill (E.over b k) b j)) ∧ Row wr (w.heap.size + 1) 51 (W.cellsOf k) ∧ Row wr (w.heap.size + 1 + 1) 51 (W.cellsOf (List.replicate 16 0)) ∧ Below w.heap.size w wr) (fun _ iv _ => 16 - (intOf iv).toNat)
  case atStart =>
    refine ⟨0, Nat.zero_le _, rfl, ?_, ?_, ?_, ?_⟩
    · rw [E.fill_zero]; exact ((Row.new w _ _).alloc _).alloc _
    · exact (Row.new' rfl (by simp)).alloc _
    · exact Row.new' rfl (by simp)
    · exact (((Below.refl _ _).alloc (Nat.le_refl _) _).alloc (by simp) _).alloc (by simp; omega) _
  case round =>
    obtain ⟨j, hj, rfl, r0, r1, r2, hbl⟩ := hrel
    by_cases hlt : j < 16
    · have hlen : j < b.length := by rw [HB.out]; exact hlt
      have c0 := (r0.cell j).trans (c8_at (by rw [E.fill_length hF]; exact hlen))
      rw [E.fill_at hF hlen] at c0
      have c1 := (r1.cell j).trans (c8_at (by rw [HK.out]; exact hlt))
      have f0 := r0.frozen j
      have r0' := r0.set j (.int .u8 ((b.getD j 0 ^^^ k.getD j 0).toNat : Int))
      rw [c8_set, show b.getD j 0 ^^^ k.getD j 0 = (E.over b k).getD j 0 from by simp [E.over, hlt], E.fill_step hF hlen] at r0'
      have hx := xor8 (b.getD j 0) (k.getD j 0)
      have HX : Hid ((b.getD j 0 ^^^ k.getD j 0) = (E.over b k).getD j 0) := by simp [Hid, E.over, hlt]
      rw [HX.out] at hx
      generalize (E.over b k).getD j 0 = z at *
      generalize b.getD j 0 = x at *
      generalize k.getD j 0 = y at *
      have hs : (j : Int) < 16 := by omega
      clear HX hlen
      go_wp2
      go_region
      go_wp2
      go_roundw
      case rel => exact ⟨j + 1, by omega, by go_num, r0'.drew, (r1.other (by omega) _).drew, (r2.other (by omega) _).drew, (hbl.setCell (by simp) _).drew⟩
      case measure => simp [intOf]; omega
    · obtain rfl : j = 16 := by omega
      rw [HFull.out] at r0
      have hi := info16 (E.over_length b k)
      go_wp2_with (first | refine wpList_load_row rfl 51 _ rfl w.heap.size rfl _ _ _ _ r0 Try.underlying51 rfl hi ?_ | refine wpList_store_row rfl 51 (.tmp 4) (.tmp 18) rfl (w.heap.size + 1 + 1) _ rfl rfl _ _ r2 hi (by simp [c8_len, E.over_length]) (c8_all _) ?_)
      exact bodyPost_ret (results_cell_row rfl _ _ (w.heap.size + 1 + 1) _ _ _ _ rfl (r2.setRow (W.cellsOf (E.over b k))) Try.underlying51 rfl hi) rfl ⟨rfl, below_row hbl (by omega) _⟩

end Go.Proofs.Ytbkeodgiflfakaa

/-
  Layer 3: the words of a block.
-/
namespace Go.Proofs.Ytbkeodgiflfakaa
open Go.RowKit
set_option linter.unusedVariables false
set_option maxRecDepth 20000

theorem or_byte (x y : Nat) (hx : x < 16777216) (hy : y < 256) : bits .or .u32 ((x : Int) * 256) (y : Int) = ((x * 256 + y : Nat) : Int) := by
  rw [show (x : Int) * 256 = ((x * 256 : Nat) : Int) from by omega, u32_or_nat _ _ (by omega) (by omega), nat_join 8 _ _ (by omega) (by omega)]

theorem cellsOf_at {b : List UInt8} {j : Nat} (h : j < b.length) : (W.cellsOf b)[j]? = some (Value.int .u8 (b[j].toNat : Int)) := by simp [W.cellsOf, h]

set_option maxHeartbeats 400000 in
theorem firstWords_any (b : List UInt8) (hb : b.length = 64) (w : World) :
    Calls Try.prog 102 #[.agg (W.cellsOf b).toArray] w fun e w' => e = .returned (.agg (u32s (S.words16 b)).toArray) ∧ Below w.heap.size w w' := by
  have hb' := Lib.hid hb
  clear hb
  go_enter Try.func102, Try.ntmps102
  go_wp2
  go_loopw [4, 5] (fun _ iv wr => ∃ j : Nat, j ≤ 64 ∧ iv = .int .i64 j ∧ Row wr w.heap.size 110 (W.cellsOf b) ∧ Row wr (w.heap.size + 1) 143 (u32s (S.fw b 0)) ∧ Row wr (w.heap.size + 1 + 1) 143 (u32s (S.fw b j)) ∧ Below w.heap.size w wr) (fun _ iv _ => 64 - (intOf iv).toNat)
  case atStart =>
    refine ⟨0, Nat.zero_le _, rfl, ?_, ?_, ?_, ?_⟩
    · exact ((Row.new w _ _).alloc _).alloc _
    · rw [S.fw_zero]; exact (Row.new' rfl (by simp)).alloc _
    · rw [S.fw_zero]; exact Row.new' rfl (by simp)
    · exact (((Below.refl _ _).alloc (Nat.le_refl _) _).alloc (by simp) _).alloc (by simp; omega) _
  case round =>
    obtain ⟨j, hj, rfl, r0, r1, r2, hbl⟩ := hrel
    by_cases hlt : j < 64
    · have hlen : j < b.length := by rw [hb'.out]; exact hlt
      have c0 := (r0.cell j).trans (cellsOf_at hlen)
      have c2 := (r2.cell (j / 4)).trans (u32s_at (by rw [S.fw_length]; omega))
      have f2 := r2.frozen (j / 4)
      have hx := S.fw_lt b j hlt
      have hy := b[j].toNat_lt
      have r2' := r2.set (j / 4) (.int .u32 (((S.fw b j).getD (j / 4) 0 * 256 + b[j].toNat : Nat) : Int))
      rw [u32s_set, S.fw_step b hb'.out j hlt] at r2'
      generalize (S.fw b j).getD (j / 4) 0 = x at c2 hx r2'
      have ho := or_byte _ _ hx hy
      go_wp2
      go_region
      go_wp2
      go_roundw
      case rel => exact ⟨j + 1, by omega, by go_num, (r0.other (by omega) _).drew, (r1.other (by omega) _).drew, r2'.drew, (hbl.setCell (by simp; omega) _).drew⟩
      case measure => simp [intOf]; omega
    · obtain rfl : j = 64 := by omega
      rw [S.fw_full b hb'.out] at r2
      have hi : (Try.prog.info? 143).map (·.size) = some (u32s (S.words16 b)).toArray.size := by rw [List.size_toArray, u32s_length, S.words16_length]; kernel_rfl
      go_wp2_with (first | refine wpList_load_row rfl 143 _ rfl (w.heap.size + 1 + 1) rfl _ _ _ _ r2 Try.underlying143 rfl hi ?_ | refine wpList_store_row rfl 143 (.tmp 2) (.tmp 22) rfl (w.heap.size + 1) _ rfl rfl _ _ r1 hi (by simp [u32s_length, S.fw_length, S.words16_length]) (u32s_one _) ?_)
      exact bodyPost_ret (results_cell_row rfl _ _ (w.heap.size + 1) _ _ _ _ rfl (r1.setRow (u32s (S.words16 b))) Try.underlying143 rfl hi) rfl ⟨rfl, below_row hbl (by omega) _⟩

end Go.Proofs.Ytbkeodgiflfakaa

/-
  Layer 5: shifted, Box.
-/
namespace Go.Proofs.Ytbkeodgiflfakaa
open Go.RowKit
set_option linter.unusedVariables false
set_option maxRecDepth 20000

set_option maxHeartbeats 800000 in
theorem shift_any (b : List UInt8) (hb : b.length = 16) (w : World) :
    Calls Try.prog 75 #[.agg (W.cellsOf b).toArray, .agg (W.cellsOf E.sbox).toArray] w fun e w' => e = .returned (.agg (W.cellsOf (E.shift b)).toArray) ∧ Below w.heap.size w w' := by
  have HB := Lib.hid hb
  clear hb
  obtain ⟨box, hbox⟩ : ∃ box, box = E.sbox := ⟨_, rfl⟩
  have HL : Hid (box.length = 256) := by rw [hbox]; exact E.sbox_length
  have HS : Hid (∀ i, i < 16 → box.getD (b.getD ((i + i % 4 * 4) % 16) 0).toNat 0 = (E.shift b).getD i 0) := fun i hi => by rw [hbox]; simp [E.shift, E.sub, hi]
  rw [← hbox]
  clear hbox
  have hz : (List.replicate 16 (0 : UInt8)).length = 16 := by simp
  have hF : (E.shift b).length = (List.replicate 16 (0 : UInt8)).length := by rw [E.shift_length, hz]
  have HFull := Lib.hid (E.fill_full (E.shift_length b) hz)
  have HF := Lib.hid hF
  clear hF
  go_enter Try.func75, Try.ntmps75
  go_wp2
  go_loopw [6, 7, 8] (fun _ _ iv wr => ∃ j : Nat, j ≤ 16 ∧ iv = .int .i64 j ∧ Row wr w.heap.size 51 (W.cellsOf b) ∧ Row wr (w.heap.size + 1) 114 (W.cellsOf box) ∧ Row wr (w.heap.size + 1 + 1) 51 (W.cellsOf (List.replicate 16 0)) ∧ Row wr (w.heap.size + 1 + 1 + 1) 51 (W.cellsOf (E.fill (E.shift b) (List.replicate 16 0) j)) ∧ Below w.heap.size w wr) (fun _ _ iv _ => 16 - (intOf iv).toNat)
  case atStart =>
    refine ⟨0, Nat.zero_le _, rfl, ?_, ?_, ?_, ?_, ?_⟩
    · exact (((Row.new w _ _).alloc _).alloc _).alloc _
    · exact ((Row.new' rfl (by simp)).alloc _).alloc _
    · exact (Row.new' rfl (by simp)).alloc _
    · rw [E.fill_zero]; exact Row.new' rfl (by simp)
    · exact ((((Below.refl _ _).alloc (Nat.le_refl _) _).alloc (by simp) _).alloc (by simp; omega) _).alloc (by simp; omega) _
  case round =>
    obtain ⟨j, hj, rfl, r0, r1, r2, r3, hbl⟩ := hrel
    by_cases hlt : j < 16
    · have hq : (j + j % 4 * 4) % 16 < 16 := Nat.mod_lt _ (by decide)
      have c0 := (r0.cell ((j + j % 4 * 4) % 16)).trans (c8_at (by rw [HB.out]; exact hq))
      have HSj := Lib.hid (HS.out j hlt)
      have hx := (b.getD ((j + j % 4 * 4) % 16) 0).toNat_lt
      have c1 := (r1.cell (b.getD ((j + j % 4 * 4) % 16) 0).toNat).trans (c8_at (by rw [HL.out]; exact hx))
      rw [HSj.out] at c1
      have f3 := r3.frozen j
      have c3 := (r3.cell j).trans (c8_at (by rw [E.fill_length HF.out]; simpa using hlt))
      have r3' := r3.set j (.int .u8 (((E.shift b).getD j 0).toNat : Int))
      rw [c8_set, E.fill_step HF.out (by simpa using hlt)] at r3'
      clear HSj
      generalize (E.shift b).getD j 0 = z at *
      generalize b.getD ((j + j % 4 * 4) % 16) 0 = x at *
      have hm : ((j : Int) + (j : Int) % 4 * 4) % 16 = (((j + j % 4 * 4) % 16 : Nat) : Int) := by omega
      generalize (j + j % 4 * 4) % 16 = q at *
      have hs : (j : Int) < 16 := by omega
      go_wp2
      go_roundw
      case rel => exact ⟨j + 1, by omega, by go_num, (r0.other (by omega) _), (r1.other (by omega) _), (r2.other (by omega) _), r3', (hbl.setCell (by simp; omega) _)⟩
      case measure => simp [intOf]; omega
    · obtain rfl : j = 16 := by omega
      rw [HFull.out] at r3
      have hi := info16 (E.shift_length b)
      go_wp2_with (first | refine wpList_load_row rfl 51 _ rfl (w.heap.size + 1 + 1 + 1) rfl _ _ _ _ r3 Try.underlying51 rfl hi ?_ | refine wpList_store_row rfl 51 (.tmp 4) (.tmp 25) rfl (w.heap.size + 1 + 1) _ rfl rfl _ _ r2 hi (by simp [c8_len, E.shift_length]) (c8_all _) ?_)
      exact bodyPost_ret (results_cell_row rfl _ _ (w.heap.size + 1 + 1) _ _ _ _ rfl (r2.setRow (W.cellsOf (E.shift b))) Try.underlying51 rfl hi) rfl ⟨rfl, below_row hbl (by omega) _⟩

end Go.Proofs.Ytbkeodgiflfakaa

/-
  Layer 5: Box.
-/
namespace Go.Proofs.Ytbkeodgiflfakaa
open Go.RowKit
set_option linter.unusedVariables false
set_option maxRecDepth 20000

/-- Which power of 3 a byte is. -/
def lgOf (v : Value) : Nat := E.lgs.getD (intOf v).toNat 0

set_option maxHeartbeats 800000 in
theorem box_any (w : World) :
    Calls Try.prog 71 #[] w fun e w' => e = .returned (.agg (W.cellsOf E.sbox).toArray) ∧ Below w.heap.size w w' := by
  have HZ := Lib.hid E.bx_zero
  have HFull := Lib.hid E.bx_full
  obtain ⟨z, hz⟩ : ∃ z : List UInt8, z = List.replicate 256 0 := ⟨_, rfl⟩
  have HZL : Hid (z.length = 256) := by rw [hz]; exact List.length_replicate
  go_enter Try.func71, Try.ntmps71
  go_wp2_with fail
  go_step3
  go_wp2_with fail
  refine (spread_any 0 _).mono ?_
  rintro e w1 ⟨rfl, rfl⟩
  have hb0 : Below w.heap.size w ((w.alloc (Obj.cells Try.zeroCells114 114 (0, 0))).alloc (Obj.cells Try.zeroCells114 114 (0, 0))) := ((Below.refl w.heap.size w).alloc (Nat.le_refl _) _).alloc (by simp) _
  have hzc : Try.zeroCells114 = (W.cellsOf z).toArray := by rw [hz]; kernel_rfl
  have r0 : Row ((w.alloc (Obj.cells Try.zeroCells114 114 (0, 0))).alloc (Obj.cells Try.zeroCells114 114 (0, 0))) w.heap.size 114 (W.cellsOf z) := (Row.new' hzc rfl).alloc _
  have r1 : Row ((w.alloc (Obj.cells Try.zeroCells114 114 (0, 0))).alloc (Obj.cells Try.zeroCells114 114 (0, 0))) (w.heap.size + 1) 114 (W.cellsOf z) := Row.new' hzc (by simp)
  generalize (w.alloc (Obj.cells Try.zeroCells114 114 (0, 0))).alloc (Obj.cells Try.zeroCells114 114 (0, 0)) = wa at *
  have f1 := r1.frozen 0
  have c1 := (r1.cell 0).trans (c8_at (by rw [HZL.out]; decide))
  have q1 := r1.set 0 (.int .u8 ((E.spread 0).toNat : Int))
  rw [c8_set, hz, HZ.out] at q1
  have q0 := r0.other (show w.heap.size ≠ w.heap.size + 1 by omega) (i := 0) (.int .u8 ((E.spread 0).toNat : Int))
  have hb1 := hb0.setCell (p := ⟨w.heap.size + 1, 0, none⟩) (by simp) (.int .u8 ((E.spread 0).toNat : Int))
  clear hb0 hzc r0 r1 hz
  generalize (E.spread 0).toNat = s0 at *
  go_wp2
  go_step3
  go_wp2
  go_loopw [2, 3] (fun pv nv wr => ∃ k : Nat, k < 255 ∧ pv = .int .u8 ((E.PW.getD k 0).toNat : Int) ∧ nv = .int .u8 ((E.IV.getD k 0).toNat : Int) ∧ Row wr w.heap.size 114 (W.cellsOf z) ∧ Row wr (w.heap.size + 1) 114 (W.cellsOf (E.bx k)) ∧ Below w.heap.size w wr) (fun pv _ _ => 255 - lgOf pv)
  case atStart => exact ⟨0, by decide, rfl, rfl, q0, q1, hb1⟩
  case round =>
    clear q0 q1 hb1
    obtain ⟨k, hk, rfl, rfl, r0, r1, hbl⟩ := hrel
    have hp := E.pw_step k hk
    have hi := E.iv_step k hk
    have hb := E.bx_step k hk
    have hl1 := E.lg_pw k hk
    have hlt := (E.PW.getD k 0).toNat_lt
    have f1 := r1.frozen (E.PW.getD k 0).toNat
    have c1 := (r1.cell (E.PW.getD k 0).toNat).trans (c8_at (by rw [E.bx_length]; exact hlt))
    have r1' := r1.set (E.PW.getD k 0).toNat (.int .u8 ((E.spread (E.IV.getD k 0)).toNat : Int))
    rw [c8_set, hb] at r1'
    have hx := xor8 (E.dbl (E.PW.getD k 0)) (E.PW.getD k 0)
    rw [hp] at hx
    have HI := Lib.hid hi
    have CS : Hid (∀ w', Calls Try.prog 85 #[.int .u8 ((E.IV.getD k 0).toNat : Int)] w' fun e w'' => e = .returned (.int .u8 ((E.spread (E.IV.getD k 0)).toNat : Int)) ∧ w'' = w') := fun w' => spread_any _ w'
    have CD : Hid (∀ w', Calls Try.prog 86 #[.int .u8 ((E.PW.getD k 0).toNat : Int)] w' fun e w'' => e = .returned (.int .u8 ((E.dbl (E.PW.getD k 0)).toNat : Int)) ∧ w'' = w') := fun w' => double_any _ w'
    have CT : Hid (∀ w', Calls Try.prog 87 #[.int .u8 ((E.IV.getD k 0).toNat : Int), .int .u8 246] w' fun e w'' => e = .returned (.int .u8 ((E.IV.getD (k + 1) 0).toNat : Int)) ∧ w'' = w') := fun w' => by rw [← hi]; exact times_any _ 246 w'
    have HL0 : Hid (∀ k, k < 255 → lgOf (.int .u8 ((E.PW.getD k 0).toNat : Int)) = k) := fun k hk => by simpa [lgOf, intOf] using E.lg_pw k hk
    have HLk := Lib.hid (HL0.out k hk)
    have HLk' : Hid (k < 254 → lgOf (.int .u8 ((E.PW.getD (k + 1) 0).toNat : Int)) = k + 1) := fun h => HL0.out (k + 1) (by omega)
    have H1 : Hid (k < 254 → (E.PW.getD (k + 1) 0).toNat ≠ 1) := E.pw_one k
    have H2 : Hid (k = 254 → (E.PW.getD (k + 1) 0).toNat = 1) := fun h => by subst h; decide +kernel
    have hrel' : Hid (∀ pv nv, pv = (E.PW.getD (k + 1) 0) → nv = (E.IV.getD (k + 1) 0) → ∀ wr, Row wr w.heap.size 114 (W.cellsOf z) → Row wr (w.heap.size + 1) 114 (W.cellsOf (E.bx (k + 1))) → Below w.heap.size w wr → k + 1 < 255 →
      ∃ k : Nat, k < 255 ∧ Value.int .u8 (pv.toNat : Int) = .int .u8 ((E.PW.getD k 0).toNat : Int) ∧ Value.int .u8 (nv.toNat : Int) = .int .u8 ((E.IV.getD k 0).toNat : Int) ∧ Row wr w.heap.size 114 (W.cellsOf z) ∧ Row wr (w.heap.size + 1) 114 (W.cellsOf (E.bx k)) ∧ Below w.heap.size w wr) :=
      fun pv nv h1 h2 wr a b c d => ⟨k + 1, d, by rw [h1], by rw [h2], a, b, c⟩
    clear hp hi hb hl1 HI HL0
    obtain ⟨p', hp'⟩ : ∃ p', p' = E.PW.getD (k + 1) 0 := ⟨_, rfl⟩
    obtain ⟨v', hv'⟩ : ∃ v', v' = E.IV.getD (k + 1) 0 := ⟨_, rfl⟩
    have HP' := Lib.hid hp'
    have HV' := Lib.hid hv'
    rw [← hp'] at HLk' H1 H2 hx
    rw [← hv'] at CT
    clear hp' hv'
    generalize E.PW.getD k 0 = p at *
    generalize E.IV.getD k 0 = v at *
    obtain ⟨bk, hbk⟩ : ∃ bk, bk = E.bx (k + 1) := ⟨_, rfl⟩
    have HBK := Lib.hid hbk
    rw [← hbk] at r1'
    clear hbk
    generalize (E.spread v).toNat = s at *
    generalize (E.dbl p).toNat = d at *
    go_wp2_with fail
    refine (CS.out _).mono ?_
    rintro e w1 ⟨rfl, rfl⟩
    go_wp2_with fail
    refine (CD.out _).mono ?_
    rintro e w1 ⟨rfl, rfl⟩
    go_wp2_with fail
    refine (CT.out _).mono ?_
    rintro e w1 ⟨rfl, rfl⟩
    by_cases hlast : k < 254
    · have hne : ¬ ((p'.toNat : Int) = 1) := by have := H1.out hlast; omega
      go_wp2
      go_roundw
      case rel => exact hrel'.out _ _ HP'.out HV'.out _ (r0.other (by omega) _) (by rw [← HBK.out]; exact r1') (hbl.setCell (by simp) _) (by omega)
      case measure => rw [HLk.out, HLk'.out hlast]; omega
    · obtain rfl : k = 254 := by omega
      rw [HBK.out, HFull.out] at r1'
      have e1 : (p'.toNat : Int) = 1 := by have := H2.out rfl; omega
      clear hrel' HBK
      have hi := info256 E.sbox_length
      go_wp2_with (first | refine wpList_load_row rfl 114 _ rfl (w.heap.size + 1) rfl _ _ _ _ r1' Try.underlying114 rfl hi ?_ | refine wpList_store_row rfl 114 (.tmp 0) (.tmp 18) rfl w.heap.size _ rfl rfl _ _ (r0.other (by omega) _) hi (by rw [List.size_toArray, List.size_toArray, c8_len, c8_len, HZL.out, E.sbox_length]) (c8_all _) ?_)
      try rw [Exit.noGoto_ret]
      exact bodyPost_ret (results_cell_row rfl _ _ w.heap.size _ _ _ _ rfl ((r0.other (by omega) _).setRow (W.cellsOf E.sbox)) Try.underlying114 rfl hi) rfl ⟨rfl, below_row (hbl.setCell (by simp) _) (by omega) _⟩

end Go.Proofs.Ytbkeodgiflfakaa
