/-
  Layer 3: roots of primes, bit by bit.
-/
import Derived.Test.YtbkeodgiflfakaaSRoots
namespace Go.Proofs.Ytbkeodgiflfakaa
open Go.RowKit
set_option linter.unusedVariables false
set_option maxRecDepth 20000

theorem or_bit (n r : Nat) (h : r % (2 ^ n * 2) = 0) (hr : r < 18446744073709551616) (hb : 2 ^ n < 18446744073709551616 := by omega) : bits .or .u64 (r : Int) ((2 ^ n : Nat) : Int) = ((r + 2 ^ n : Nat) : Int) := by
  rw [u64_or_nat _ _ hr hb, nat_join (n + 1) r (2 ^ n) (by rw [Nat.pow_succ]; exact h) (Nat.pow_lt_pow_right (by decide) (by omega))]

set_option maxHeartbeats 1000000 in
theorem rootS_any (p : Nat) (hp : p ≤ 1000) (w : World) :
    Calls Try.prog 92 #[.int .u64 p, .func (.func 93) #[] #[]] w fun e w' => e = .returned (.int .u64 (S.rootN (S.fitS p) 36 : Nat)) ∧ w' = w := by
  go_enter Try.func92, Try.ntmps92
  go_wp2
  go_loop [5, 8] (fun rv iv => ∃ j : Nat, j ≤ 36 ∧ iv = .int .i64 j ∧ rv = .int .u64 (S.rootN (S.fitS p) j : Nat)) (fun _ iv => 36 - (intOf iv).toNat)
  case atStart => exact ⟨0, Nat.zero_le _, rfl, rfl⟩
  case round =>
    obtain ⟨j, hj, rfl, rfl⟩ := hrel
    by_cases hlt : j < 36
    · have h1 := S.rootN_lt (S.fitS p) j hj
      have HR : Hid (S.rootN (S.fitS p) (j + 1) = if S.fitS p (S.rootN (S.fitS p) j + 2 ^ (35 - j)) then S.rootN (S.fitS p) j + 2 ^ (35 - j) else S.rootN (S.fitS p) j) := rfl
      obtain ⟨n, hn⟩ : ∃ n, n = 35 - j := ⟨_, rfl⟩
      rw [← hn] at HR
      rw [show 36 - j = n + 1 from by omega, Nat.pow_succ] at h1
      have hB0 : 2 ^ n ≤ 34359738368 := Nat.pow_le_pow_right (n := 2) (by decide) (show n ≤ 35 by omega)
      have hj1 := h1.1
      have hor := or_bit n (S.rootN (S.fitS p) j) hj1 (by omega)
      have hle : S.rootN (S.fitS p) j + 2 ^ n < 68719476736 := by have := Nat.pow_pos (n := n) (show 0 < 2 by decide); omega
      have e1 : (35 : Int) - (j : Int) = (n : Int) := by omega
      have hn1 : n ≤ 35 := by omega
      have wB : IntKind.u64.wrap ((2 : Int) ^ n) = ((2 ^ n : Nat) : Int) := by
        rw [IntKind.wrap_u64, show (2 : Int) ^ n = ((2 ^ n : Nat) : Int) from by simp]; omega
      generalize S.rootN (S.fitS p) j = R at *
      generalize 2 ^ n = B at *
      obtain ⟨X, hX⟩ : ∃ X, X = R + B := ⟨_, rfl⟩
      rw [← hX] at HR hor hle
      clear hn h1 hj1 hX
      cases hf : S.fitS p X with
      | true =>
        have HR' : Hid (S.rootN (S.fitS p) (j + 1) = X) := by rw [HR.out, hf]; rfl
        have HF := Lib.hid hf
        clear HR hf
        go_wp2_with fail
        refine (squareFits_any X p hle hp _).mono ?_
        rintro e w' ⟨rfl, rfl⟩
        rw [HF.out]
        go_wp2
        go_round
        case rel => exact ⟨j + 1, by omega, by go_num, by rw [HR'.out]⟩
        case measure => simp [intOf]; omega
      | false =>
        have HR' : Hid (S.rootN (S.fitS p) (j + 1) = R) := by rw [HR.out, hf]; rfl
        have HF := Lib.hid hf
        clear HR hf
        go_wp2_with fail
        refine (squareFits_any X p hle hp _).mono ?_
        rintro e w' ⟨rfl, rfl⟩
        rw [HF.out]
        go_wp2
        go_round
        case rel => exact ⟨j + 1, by omega, by go_num, by rw [HR'.out]⟩
        case measure => simp [intOf]; omega
    · obtain rfl : j = 36 := by omega
      go_wp2
      go_ret
      exact ⟨rfl, rfl⟩

set_option maxHeartbeats 1000000 in
theorem rootC_any (p : Nat) (hp : p ≤ 1000) (w : World) :
    Calls Try.prog 92 #[.int .u64 p, .func (.func 94) #[] #[]] w fun e w' => e = .returned (.int .u64 (S.rootN (S.fitC p) 36 : Nat)) ∧ w' = w := by
  go_enter Try.func92, Try.ntmps92
  go_wp2
  go_loop [5, 8] (fun rv iv => ∃ j : Nat, j ≤ 36 ∧ iv = .int .i64 j ∧ rv = .int .u64 (S.rootN (S.fitC p) j : Nat)) (fun _ iv => 36 - (intOf iv).toNat)
  case atStart => exact ⟨0, Nat.zero_le _, rfl, rfl⟩
  case round =>
    obtain ⟨j, hj, rfl, rfl⟩ := hrel
    by_cases hlt : j < 36
    · have h1 := S.rootN_lt (S.fitC p) j hj
      have HR : Hid (S.rootN (S.fitC p) (j + 1) = if S.fitC p (S.rootN (S.fitC p) j + 2 ^ (35 - j)) then S.rootN (S.fitC p) j + 2 ^ (35 - j) else S.rootN (S.fitC p) j) := rfl
      obtain ⟨n, hn⟩ : ∃ n, n = 35 - j := ⟨_, rfl⟩
      rw [← hn] at HR
      rw [show 36 - j = n + 1 from by omega, Nat.pow_succ] at h1
      have hB0 : 2 ^ n ≤ 34359738368 := Nat.pow_le_pow_right (n := 2) (by decide) (show n ≤ 35 by omega)
      have hj1 := h1.1
      have hor := or_bit n (S.rootN (S.fitC p) j) hj1 (by omega)
      have hle : S.rootN (S.fitC p) j + 2 ^ n < 68719476736 := by have := Nat.pow_pos (n := n) (show 0 < 2 by decide); omega
      have e1 : (35 : Int) - (j : Int) = (n : Int) := by omega
      have hn1 : n ≤ 35 := by omega
      have wB : IntKind.u64.wrap ((2 : Int) ^ n) = ((2 ^ n : Nat) : Int) := by
        rw [IntKind.wrap_u64, show (2 : Int) ^ n = ((2 ^ n : Nat) : Int) from by simp]; omega
      generalize S.rootN (S.fitC p) j = R at *
      generalize 2 ^ n = B at *
      obtain ⟨X, hX⟩ : ∃ X, X = R + B := ⟨_, rfl⟩
      rw [← hX] at HR hor hle
      clear hn h1 hj1 hX
      cases hf : S.fitC p X with
      | true =>
        have HR' : Hid (S.rootN (S.fitC p) (j + 1) = X) := by rw [HR.out, hf]; rfl
        have HF := Lib.hid hf
        clear HR hf
        go_wp2_with fail
        refine (cubeFits_any X p hle hp _).mono ?_
        rintro e w' ⟨rfl, rfl⟩
        rw [HF.out]
        go_wp2
        go_round
        case rel => exact ⟨j + 1, by omega, by go_num, by rw [HR'.out]⟩
        case measure => simp [intOf]; omega
      | false =>
        have HR' : Hid (S.rootN (S.fitC p) (j + 1) = R) := by rw [HR.out, hf]; rfl
        have HF := Lib.hid hf
        clear HR hf
        go_wp2_with fail
        refine (cubeFits_any X p hle hp _).mono ?_
        rintro e w' ⟨rfl, rfl⟩
        rw [HF.out]
        go_wp2
        go_round
        case rel => exact ⟨j + 1, by omega, by go_num, by rw [HR'.out]⟩
        case measure => simp [intOf]; omega
    · obtain rfl : j = 36 := by omega
      go_wp2
      go_ret
      exact ⟨rfl, rfl⟩

end Go.Proofs.Ytbkeodgiflfakaa
