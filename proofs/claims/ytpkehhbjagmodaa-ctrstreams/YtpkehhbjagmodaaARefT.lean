/-
  Layer 5: the document's Times and Sub.
-/
import Derived.Test.YtpkehhbjagmodaaAField
import Derived.Test.YtpkehhbjagmodaaABits
namespace Go.Proofs.Ytpkehhbjagmodaa
open Go.RowKit
set_option linter.unusedVariables false

theorem xor64 (a b : Nat) (ha : a < 65536) (hb : b < 65536) : bits .xor .i64 (a : Int) (b : Int) = ((a ^^^ b : Nat) : Int) := by
  have hx : a ^^^ b < 2 ^ 16 := Nat.xor_lt_two_pow (by omega) (by omega)
  show IntKind.i64.wrap ((BitVec.ofInt 64 (a : Int) ^^^ BitVec.ofInt 64 (b : Int)).toNat : Int) = _
  rw [BitVec.toNat_xor, ofInt_u64 a (by omega), ofInt_u64 b (by omega), IntKind.wrap_i64]
  omega

set_option maxHeartbeats 1000000 in
theorem refTimes_any (a b : UInt8) (w : World) :
    Calls Try.prog 20 #[.int .u8 (a.toNat : Int), .int .u8 (b.toNat : Int)] w fun e w' => e = .returned (.int .u8 ((E.mul a b).toNat : Int)) ∧ w' = w := by
  have HR := Lib.hid (E.ref_mul a b)
  have hlt8 := (E.mul a b).toNat_lt
  generalize (E.mul a b).toNat = r at *
  have ha := a.toNat_lt
  have hb := b.toNat_lt
  generalize a.toNat = x at *
  generalize b.toNat = y at *
  go_enter Try.func20, Try.ntmps20
  go_wp2
  go_loopw [5, 6] (fun pv iv wr => ∃ i : Nat, i ≤ 8 ∧ pv = .int .i64 ((E.pTo x y i : Nat) : Int) ∧ iv = .int .i64 i ∧ wr = w) (fun _ iv _ => 8 - (intOf iv).toNat)
  case atStart => exact ⟨0, Nat.zero_le _, rfl, rfl, rfl⟩
  case round =>
    obtain ⟨i, hi, rfl, rfl, rfl⟩ := hrel
    have hp := E.pTo_lt x y ha i hi
    by_cases hlt : i < 8
    · have HM : Hid (E.pTo x y (i + 1) = if y / 2 ^ i % 2 = 1 then E.pTo x y i ^^^ (x * 2 ^ i) else E.pTo x y i) := rfl
      have h2 : (2 : Nat) ^ i ≤ 2 ^ 7 := Nat.pow_le_pow_right (by decide) (by omega)
      have hxs := Nat.mul_le_mul (show x ≤ 255 by omega) h2
      have hy : (y : Int) / 2 ^ i = ((y / 2 ^ i : Nat) : Int) := by rw [pow8]; omega
      have hx : (x : Int) * 2 ^ i = ((x * 2 ^ i : Nat) : Int) := by rw [pow8]; simp
      have hq : y / 2 ^ i < 256 := Nat.lt_of_le_of_lt (Nat.div_le_self _ _) hb
      have hxor := xor64 (E.pTo x y i) (x * 2 ^ i) hp (by omega)
      generalize x * 2 ^ i = xs at *
      generalize y / 2 ^ i = q at *
      generalize E.pTo x y i = p at *
      have hs : (i : Int) < 8 := by omega
      by_cases h1 : q % 2 = 1
      · have HM' : Hid (E.pTo x y (i + 1) = p ^^^ xs) := by have := HM.out; rwa [if_pos h1] at this
        have h1' : ((q : Int) % 2) = 1 := by omega
        clear HM h2
        go_wp2
        go_roundw
        case rel => exact ⟨i + 1, by omega, by rw [HM'.out], by go_num, by first | rfl | trivial⟩
        case measure => simp [intOf]; omega
      · have HM' : Hid (E.pTo x y (i + 1) = p) := by have := HM.out; rwa [if_neg h1] at this
        have h1' : ¬ ((q : Int) % 2) = 1 := by omega
        clear HM h2
        go_wp2
        go_roundw
        case rel => exact ⟨i + 1, by omega, by rw [HM'.out], by go_num, by first | rfl | trivial⟩
        case measure => simp [intOf]; omega
    · obtain rfl : i = 8 := by omega
      generalize E.pTo x y 8 = P at *
      clear hi hlt
      go_wp2
      go_loopw [5, 7] (fun pv iv w2 => ∃ j : Nat, j ≤ 7 ∧ pv = .int .i64 ((E.redTo P j : Nat) : Int) ∧ iv = .int .i64 (14 - (j : Int)) ∧ w2 = wr) (fun _ iv _ => (intOf iv).toNat)
      case atStart => exact ⟨0, Nat.zero_le _, rfl, rfl, rfl⟩
      case round =>
        obtain ⟨j, hj, rfl, rfl, rfl⟩ := hrel
        have hr := E.redTo_lt P hp j hj
        by_cases hjl : j < 7
        · have HM : Hid (E.redTo P (j + 1) = if E.redTo P j / 2 ^ (14 - j) % 2 = 1 then E.redTo P j ^^^ (283 * 2 ^ (6 - j)) else E.redTo P j) := rfl
          have h2 : (2 : Nat) ^ (6 - j) ≤ 2 ^ 6 := Nat.pow_le_pow_right (by decide) (by omega)
          have hxs := Nat.mul_le_mul (Nat.le_refl 283) h2
          have hy : (E.redTo P j : Int) / 2 ^ (14 - j) = ((E.redTo P j / 2 ^ (14 - j) : Nat) : Int) := by rw [pow8]; omega
          have hx : (283 : Int) * 2 ^ (14 - j - 8) = ((283 * 2 ^ (6 - j) : Nat) : Int) := by rw [show 14 - j - 8 = 6 - j from by omega, pow8]; simp
          have hq : E.redTo P j / 2 ^ (14 - j) < 65536 := Nat.lt_of_le_of_lt (Nat.div_le_self _ _) hr
          have hxor := xor64 (E.redTo P j) (283 * 2 ^ (6 - j)) hr (by omega)
          generalize 283 * 2 ^ (6 - j) = xs at *
          generalize E.redTo P j / 2 ^ (14 - j) = q at *
          generalize E.redTo P j = p at *
          have hs : (8 : Int) ≤ 14 - j := by omega
          by_cases h1 : q % 2 = 1
          · have HM' : Hid (E.redTo P (j + 1) = p ^^^ xs) := by have := HM.out; rwa [if_pos h1] at this
            have h1' : ((q : Int) % 2) = 1 := by omega
            clear HM h2
            go_wp2
            go_roundw
            case rel => exact ⟨j + 1, by omega, by rw [HM'.out], by go_num, by first | rfl | trivial⟩
            case measure => simp [intOf]; omega
          · have HM' : Hid (E.redTo P (j + 1) = p) := by have := HM.out; rwa [if_neg h1] at this
            have h1' : ¬ ((q : Int) % 2) = 1 := by omega
            clear HM h2
            go_wp2
            go_roundw
            case rel => exact ⟨j + 1, by omega, by rw [HM'.out], by go_num, by first | rfl | trivial⟩
            case measure => simp [intOf]; omega
        · obtain rfl : j = 7 := by omega
          rw [HR.out] at *
          go_wp2
          go_ret
          exact ⟨ret8 (by omega), rfl⟩

theorem bit_le (c : Nat) (hc : c < 256) (k : Nat) : c / 2 ^ k < 256 := Nat.lt_of_le_of_lt (Nat.div_le_self _ _) hc

theorem drewN_below {B : Nat} {a w : World} (h : Below B a w) : ∀ n, Below B a (w.drewN n)
  | 0 => h
  | n + 1 => (drewN_below h n).drew

set_option maxHeartbeats 2000000 in
theorem refSub_any (a : UInt8) (w : World) :
    Calls Try.prog 31 #[.int .u8 (a.toNat : Int)] w fun e w' => e = .returned (.int .u8 ((E.sub a).toNat : Int)) ∧ Below w.heap.size w w' := by
  have HR : Hid (E.outTo (E.pwTo a 7).toNat 8 = (E.sub a).toNat) := by have := E.ref_sub a.toNat a.toNat_lt; rwa [UInt8.ofNat_toNat] at this
  go_enter Try.func31, Try.ntmps31
  go_wp2
  go_loopw [3, 4, 5] (fun pv sv iv wr => ∃ i : Nat, i ≤ 7 ∧ pv = .int .u8 ((E.pwTo a i).toNat : Int) ∧ sv = .int .u8 ((E.sqTo a i).toNat : Int) ∧ iv = .int .i64 ((i : Int) + 1) ∧ wr = w) (fun _ _ iv _ => 8 - (intOf iv).toNat)
  case atStart => exact ⟨0, Nat.zero_le _, rfl, rfl, rfl, rfl⟩
  case round =>
    obtain ⟨i, hi, rfl, rfl, rfl, rfl⟩ := hrel
    by_cases hlt : i < 7
    · have HS : Hid (E.sqTo a (i + 1) = E.mul (E.sqTo a i) (E.sqTo a i)) := rfl
      have HP : Hid (E.pwTo a (i + 1) = E.mul (E.pwTo a i) (E.sqTo a (i + 1))) := rfl
      have hs : (i : Int) + 1 < 8 := by omega
      go_wp2_with fail
      refine (refTimes_any _ _ _).mono ?_
      rintro e w1 ⟨rfl, rfl⟩
      rw [← HS.out]
      go_wp2_with fail
      refine (refTimes_any _ _ _).mono ?_
      rintro e w1 ⟨rfl, rfl⟩
      rw [← HP.out]
      go_wp2
      go_roundw
      case rel => exact ⟨i + 1, by omega, rfl, rfl, by go_num, by first | rfl | trivial⟩
      case measure => simp [intOf]; omega
    · obtain rfl : i = 7 := by omega
      have hc := (E.pwTo a 7).toNat_lt
      generalize (E.pwTo a 7).toNat = c at *
      have hr : (E.sub a).toNat < 256 := (E.sub a).toNat_lt
      clear hlt
      go_wp2
      go_loopw [7, 8, 9] (fun ov iv _ w2 => ∃ i : Nat, i ≤ 8 ∧ ov = .int .i64 ((E.outTo c i : Nat) : Int) ∧ iv = .int .i64 (i : Int) ∧ Below wr.heap.size wr w2) (fun _ iv _ _ => 8 - (intOf iv).toNat)
      case atStart => exact ⟨0, Nat.zero_le _, rfl, rfl, Below.refl _ _⟩
      case round =>
        obtain ⟨i, hi, rfl, rfl, hbl⟩ := hrel
        have ho := E.outTo_lt c i
        by_cases hlt : i < 8
        · have HM : Hid (E.outTo c (i + 1) = E.outTo c i + E.bitAt c i % 2 * 2 ^ i) := rfl
          have hpw : (2 : Nat) ^ i ≤ 2 ^ 8 := Nat.pow_le_pow_right (by decide) hi
          have ho' : (E.outTo c i : Int) < 256 := by omega
          have ho0 : (0 : Int) ≤ (E.outTo c i : Int) := by omega
          clear ho hpw
          generalize E.outTo c i = o at *
          obtain rfl | rfl | rfl | rfl | rfl | rfl | rfl | rfl : i = 0 ∨ i = 1 ∨ i = 2 ∨ i = 3 ∨ i = 4 ∨ i = 5 ∨ i = 6 ∨ i = 7 := by omega
          · go_wp2
            go_quiet (fail)
            go_wp2
            go_roundw
            case rel => exact ⟨1, by omega, by rw [HM.out]; exact congrArg (Value.int .i64) (by simp only [E.bitAt, Nat.reduceAdd, Nat.reduceMod, Nat.reducePow]; omega), rfl, drewN_below hbl _⟩
            case measure => simp [intOf]
          · go_wp2
            go_quiet (fail)
            go_wp2
            go_roundw
            case rel => exact ⟨2, by omega, by rw [HM.out]; exact congrArg (Value.int .i64) (by simp only [E.bitAt, Nat.reduceAdd, Nat.reduceMod, Nat.reducePow]; omega), rfl, drewN_below hbl _⟩
            case measure => simp [intOf]
          · go_wp2
            go_quiet (fail)
            go_wp2
            go_roundw
            case rel => exact ⟨3, by omega, by rw [HM.out]; exact congrArg (Value.int .i64) (by simp only [E.bitAt, Nat.reduceAdd, Nat.reduceMod, Nat.reducePow]; omega), rfl, drewN_below hbl _⟩
            case measure => simp [intOf]
          · go_wp2
            go_quiet (fail)
            go_wp2
            go_roundw
            case rel => exact ⟨4, by omega, by rw [HM.out]; exact congrArg (Value.int .i64) (by simp only [E.bitAt, Nat.reduceAdd, Nat.reduceMod, Nat.reducePow]; omega), rfl, drewN_below hbl _⟩
            case measure => simp [intOf]
          · go_wp2
            go_quiet (fail)
            go_wp2
            go_roundw
            case rel => exact ⟨5, by omega, by rw [HM.out]; exact congrArg (Value.int .i64) (by simp only [E.bitAt, Nat.reduceAdd, Nat.reduceMod, Nat.reducePow]; omega), rfl, drewN_below hbl _⟩
            case measure => simp [intOf]
          · go_wp2
            go_quiet (fail)
            go_wp2
            go_roundw
            case rel => exact ⟨6, by omega, by rw [HM.out]; exact congrArg (Value.int .i64) (by simp only [E.bitAt, Nat.reduceAdd, Nat.reduceMod, Nat.reducePow]; omega), rfl, drewN_below hbl _⟩
            case measure => simp [intOf]
          · go_wp2
            go_quiet (fail)
            go_wp2
            go_roundw
            case rel => exact ⟨7, by omega, by rw [HM.out]; exact congrArg (Value.int .i64) (by simp only [E.bitAt, Nat.reduceAdd, Nat.reduceMod, Nat.reducePow]; omega), rfl, drewN_below hbl _⟩
            case measure => simp [intOf]
          · go_wp2
            go_quiet (fail)
            go_wp2
            go_roundw
            case rel => exact ⟨8, by omega, by rw [HM.out]; exact congrArg (Value.int .i64) (by simp only [E.bitAt, Nat.reduceAdd, Nat.reduceMod, Nat.reducePow]; omega), rfl, drewN_below hbl _⟩
            case measure => simp [intOf]
        · obtain rfl : i = 8 := by omega
          rw [HR.out] at *
          go_wp2
          go_ret
          exact ⟨ret8 (by omega), hbl⟩

end Go.Proofs.Ytpkehhbjagmodaa
