/-
  Layer 5: the small functions on bytes: double, Times, RotateLeft8, spread.
-/
import Derived.Test.YtbkeodgiflfakaaRows
import Derived.Test.YtbkeodgiflfakaaAPlain
import Derived.Test.YtbkeodgiflfakaaSWordsPlain
import Derived.WalkKit
import Derived.WalkSpells
import Derived.WalkLawsBesides
import Derived.Laws.BitsAllLaws
import Derived.Deep.QuietTactic
import Derived.BigQuiet
import Derived.OwnWalk
import Derived.RegionTactic
import Derived.Lib.Hide
namespace Go.Proofs.Ytbkeodgiflfakaa
open Go.RowKit
set_option linter.unusedVariables false
set_option maxRecDepth 20000

theorem xor8 (a b : UInt8) : bits .xor .u8 (a.toNat : Int) (b.toNat : Int) = ((a ^^^ b).toNat : Int) := by
  rw [u8_xor_nat _ _ a.toNat_lt b.toNat_lt, UInt8.toNat_xor]
theorem byte_all {p : UInt8 → Prop} (h : ∀ n : Nat, n < 256 → p (UInt8.ofNat n)) (a : UInt8) : p a := by
  have := h a.toNat a.toNat_lt
  rwa [UInt8.ofNat_toNat] at this
theorem ret8 {k : IntKind} {a b : Int} (h : a = b) : Ending.returned (.int k a) = .returned (.int k b) := by rw [h]
theorem pow8 (k : Nat) : (2 : Int) ^ k = ((2 ^ k : Nat) : Int) := by simp

theorem dbl_is (a : UInt8) : bits .xor .u8 ((a.toNat : Int) * 2 % 256) ((a.toNat : Int) / 128 * 27) = ((E.dbl a).toNat : Int) := by
  refine byte_all (p := fun a => bits .xor .u8 ((a.toNat : Int) * 2 % 256) ((a.toNat : Int) / 128 * 27) = ((E.dbl a).toNat : Int)) ?_ a
  decide +kernel

set_option maxHeartbeats 400000 in
theorem double_any (a : UInt8) (w : World) :
    Calls Try.prog 86 #[.int .u8 (a.toNat : Int)] w fun e w' => e = .returned (.int .u8 ((E.dbl a).toNat : Int)) ∧ w' = w := by
  have hd := Lib.hid (dbl_is a)
  have ha := a.toNat_lt
  generalize (E.dbl a).toNat = d at *
  generalize a.toNat = x at *
  go_enter Try.func86, Try.ntmps86
  go_wp2
  go_ret
  exact ⟨ret8 hd.out, rfl⟩

theorem and1 (x : Nat) (hx : x < 256) : bits .and .u8 (x : Int) 1 = ((x % 2 : Nat) : Int) := by
  rw [show (1 : Int) = ((1 : Nat) : Int) from rfl, u8_and_nat _ _ hx (by decide), Nat.and_one_is_mod]

set_option maxHeartbeats 400000 in
theorem times_any (a b : UInt8) (w : World) :
    Calls Try.prog 87 #[.int .u8 (a.toNat : Int), .int .u8 (b.toNat : Int)] w fun e w' => e = .returned (.int .u8 ((E.mul a b).toNat : Int)) ∧ w' = w := by
  go_enter Try.func87, Try.ntmps87
  go_wp2
  go_loopw [0, 5, 6, 7] (fun av pv _ iv wr => ∃ i : Nat, i ≤ 8 ∧ av = .int .u8 ((E.dblN a i).toNat : Int) ∧ pv = .int .u8 ((E.mulTo a b i).toNat : Int) ∧ iv = .int .i64 i ∧ wr = w) (fun _ _ _ iv _ => 8 - (intOf iv).toNat)
  case atStart => exact ⟨0, Nat.zero_le _, rfl, rfl, rfl, rfl⟩
  case round =>
    obtain ⟨i, hi, rfl, rfl, rfl, rfl⟩ := hrel
    by_cases hlt : i < 8
    · have HM : Hid (E.mulTo a b (i + 1) = if b.toNat / 2 ^ i % 2 = 1 then E.mulTo a b i ^^^ E.dblN a i else E.mulTo a b i) := rfl
      have HD : Hid (E.dblN a (i + 1) = E.dbl (E.dblN a i)) := rfl
      have hx : (b.toNat : Int) / 2 ^ i = ((b.toNat / 2 ^ i : Nat) : Int) := by rw [pow8]; omega
      have hq : b.toNat / 2 ^ i < 256 := Nat.lt_of_le_of_lt (Nat.div_le_self _ _) b.toNat_lt
      have ha := and1 _ hq
      have hxor := xor8 (E.mulTo a b i) (E.dblN a i)
      generalize b.toNat / 2 ^ i = q at *
      have hs : (i : Int) < 8 := by omega
      by_cases h1 : q % 2 = 1
      · rw [h1] at ha
        have HM' : Hid (E.mulTo a b (i + 1) = E.mulTo a b i ^^^ E.dblN a i) := by have := HM.out; rwa [if_pos h1] at this
        go_wp2_with fail
        refine (double_any _ _).mono ?_
        rintro e w1 ⟨rfl, rfl⟩
        go_wp2
        go_roundw
        case rel => exact ⟨i + 1, by omega, by rw [HD.out], by rw [HM'.out] <;> first | rfl | rw [UInt8.toNat_xor], by go_num, by first | rfl | trivial⟩
        case measure => simp [intOf]; omega
      · have h0 : q % 2 = 0 := by omega
        rw [h0] at ha
        have HM' : Hid (E.mulTo a b (i + 1) = E.mulTo a b i) := by have := HM.out; rwa [if_neg h1] at this
        go_wp2_with fail
        refine (double_any _ _).mono ?_
        rintro e w1 ⟨rfl, rfl⟩
        go_wp2
        go_roundw
        case rel => exact ⟨i + 1, by omega, by rw [HD.out], by rw [HM'.out] <;> first | rfl | rw [UInt8.toNat_xor], by go_num, by first | rfl | trivial⟩
        case measure => simp [intOf]; omega
    · obtain rfl : i = 8 := by omega
      go_wp2
      go_ret
      exact ⟨rfl, rfl⟩

theorem mask7 (k : Nat) (h1 : 1 ≤ k) (h2 : k ≤ 4) : bits .and .u64 (k : Int) 7 = (k : Int) := by
  obtain rfl | rfl | rfl | rfl : k = 1 ∨ k = 2 ∨ k = 3 ∨ k = 4 := by omega
  all_goals decide +kernel
theorem rotl_is (c : UInt8) (k : Nat) (h1 : 1 ≤ k) (h2 : k ≤ 4) : bits .or .u8 ((c.toNat : Int) * 2 ^ k % 256) ((c.toNat : Int) / 2 ^ (8 - k)) = ((E.rotl c k).toNat : Int) := by
  have hc := c.toNat_lt
  have h3 : c.toNat / 2 ^ (8 - k) < 256 := Nat.lt_of_le_of_lt (Nat.div_le_self _ _) hc
  have e1 : (c.toNat : Int) * 2 ^ k % 256 = ((c.toNat * 2 ^ k % 256 : Nat) : Int) := by rw [pow8]; omega
  have e2 : (c.toNat : Int) / 2 ^ (8 - k) = ((c.toNat / 2 ^ (8 - k) : Nat) : Int) := by rw [pow8]; omega
  rw [e1, e2, u8_or_nat _ _ (Nat.mod_lt _ (by decide)) h3]
  unfold E.rotl
  have h4 : c.toNat * 2 ^ k % 256 ||| c.toNat / 2 ^ (8 - k) < 256 := Nat.or_lt_two_pow (n := 8) (Nat.mod_lt _ (by decide)) h3
  rw [UInt8.toNat_ofNat', Nat.mod_eq_of_lt h4]

set_option maxHeartbeats 400000 in
theorem rotl_any (c : UInt8) (k : Nat) (h1 : 1 ≤ k) (h2 : k ≤ 4) (w : World) :
    Calls Try.prog 101 #[.int .u8 (c.toNat : Int), .int .i64 (k : Int)] w fun e w' => e = .returned (.int .u8 ((E.rotl c k).toNat : Int)) ∧ w' = w := by
  have hm := mask7 k h1 h2
  have hr := Lib.hid (rotl_is c k h1 h2)
  have hc := c.toNat_lt
  generalize (E.rotl c k).toNat = r at *
  generalize c.toNat = x at *
  go_enter Try.func101, Try.ntmps101
  go_wp2
  go_ret
  exact ⟨ret8 hr.out, rfl⟩

set_option maxHeartbeats 400000 in
theorem spread_any (c : UInt8) (w : World) :
    Calls Try.prog 85 #[.int .u8 (c.toNat : Int)] w fun e w' => e = .returned (.int .u8 ((E.spread c).toNat : Int)) ∧ w' = w := by
  have h0 := xor8 c 99
  rw [show ((99 : UInt8).toNat : Int) = 99 from rfl] at h0
  go_enter Try.func85, Try.ntmps85
  go_wp2
  go_loopw [3, 4, 7] (fun ov _ iv wr => ∃ i : Nat, i ≤ 4 ∧ ov = .int .u8 ((E.spreadTo c i).toNat : Int) ∧ iv = .int .i64 i ∧ wr = w) (fun _ _ iv _ => 4 - (intOf iv).toNat)
  case atStart => exact ⟨0, Nat.zero_le _, by first | rfl | (rw [h0]; rfl), rfl, rfl⟩
  case round =>
    obtain ⟨i, hi, rfl, rfl, rfl⟩ := hrel
    by_cases hlt : i < 4
    · have HM : Hid (E.spreadTo c (i + 1) = E.spreadTo c i ^^^ E.rotl c (i + 1)) := rfl
      have hxor := xor8 (E.spreadTo c i) (E.rotl c (i + 1))
      have hs : (i : Int) < 4 := by omega
      go_wp2_with fail
      rw [show (i : Int) + 1 = ((i + 1 : Nat) : Int) from by omega]
      refine (rotl_any c (i + 1) (by omega) (by omega) _).mono ?_
      rintro e w1 ⟨rfl, rfl⟩
      go_wp2
      go_roundw
      case rel => exact ⟨i + 1, by omega, by rw [HM.out, UInt8.toNat_xor], by go_num, by first | rfl | trivial⟩
      case measure => simp [intOf]; omega
    · obtain rfl : i = 4 := by omega
      go_wp2
      go_ret
      exact ⟨rfl, rfl⟩

end Go.Proofs.Ytbkeodgiflfakaa
