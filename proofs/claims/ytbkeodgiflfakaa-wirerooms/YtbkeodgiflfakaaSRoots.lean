/-
  Layer 3: roots, bit by bit; the constants.
-/
import Derived.Test.YtbkeodgiflfakaaSPrimes
import Derived.Test.YtbkeodgiflfakaaShelf
import Derived.Test.YtbkeodgiflfakaaSBits
namespace Go.Proofs.Ytbkeodgiflfakaa
open Go.RowKit
set_option linter.unusedVariables false
set_option maxRecDepth 20000

theorem ret_bool {a b : Bool} (h : a = b) : Ending.returned (.bool a) = .returned (.bool b) := by rw [h]

/-- bits.Mul64, its two words by names. -/
theorem mul_any (x y : Nat) (hx : x < 18446744073709551616) (hy : y < 18446744073709551616) (w : World) :
    Calls Try.prog 51 #[.int .u64 x, .int .u64 y] w fun e w' => ∃ H L : Nat, Hid (x * y = H * 18446744073709551616 + L) ∧ L < 18446744073709551616 ∧ H < 18446744073709551616 ∧ e = .returned (.tuple #[.int .u64 (H : Int), .int .u64 (L : Int)]) ∧ w' = w := by
  refine (Try.bits_Mul64 x y hx hy w).mono ?_
  rintro e w' ⟨rfl, rfl⟩
  refine ⟨_, _, ?_, Nat.mod_lt _ (by decide), Nat.div_lt_of_lt_mul (Nat.mul_lt_mul_of_lt_of_lt hx hy), rfl, rfl⟩
  show x * y = _
  have := Nat.div_add_mod (x * y) 18446744073709551616
  omega

set_option maxHeartbeats 400000 in
theorem squareFits_any (r p : Nat) (hr : r < 68719476736) (hp : p ≤ 1000) (w : World) :
    Calls Try.prog 93 #[.int .u64 r, .int .u64 p] w fun e w' => e = .returned (.bool (S.fitS p r)) ∧ w' = w := by
  obtain ⟨b, hb⟩ : ∃ b, b = S.fitS p r := ⟨_, rfl⟩
  rw [← hb]
  have HB := Lib.hid hb
  clear hb
  go_enter Try.func93, Try.ntmps93
  go_wp2_with fail
  refine (mul_any _ _ (by omega) (by omega) _).mono ?_
  rintro e w' ⟨H, L, HX, hL, hH, rfl, rfl⟩
  have HB' : Hid (b = decide (H * 18446744073709551616 + L ≤ p * 18446744073709551616)) := by
    have := HB.out
    unfold S.fitS at this
    rw [HX.out] at this
    exact this
  clear HB HX
  by_cases c1 : H < p
  · have d1 : Hid (b = true) := by rw [HB'.out]; exact decide_eq_true (by omega)
    go_wp2
    go_ret
    exact ⟨ret_bool d1.out.symm, rfl⟩
  · by_cases c2 : H = p
    · subst c2
      by_cases c3 : L = 0
      · subst c3
        have d1 : Hid (b = true) := by rw [HB'.out]; exact decide_eq_true (by omega)
        go_wp2
        go_ret
        exact ⟨ret_bool d1.out.symm, rfl⟩
      · have d1 : Hid (b = false) := by rw [HB'.out]; exact decide_eq_false (by omega)
        have c4 : ((L : Int) == 0) = false := by rw [beq_eq_false_iff_ne]; omega
        clear c3
        go_wp2
        go_ret
        exact ⟨ret_bool d1.out.symm, rfl⟩
    · have d1 : Hid (b = false) := by rw [HB'.out]; exact decide_eq_false (by omega)
      have c4 : ((H : Int) == (p : Int)) = false := by rw [beq_eq_false_iff_ne]; omega
      clear c2
      go_wp2
      go_ret
      exact ⟨ret_bool d1.out.symm, rfl⟩

theorem high_lt {r H L : Nat} (hr : r < 68719476736) (h : r * r = H * 18446744073709551616 + L) : H < 256 := by
  have e1 : r * r < 68719476736 * 68719476736 := Nat.mul_lt_mul_of_lt_of_lt hr hr
  rw [h] at e1
  omega
theorem carry_lt {r L C X : Nat} (hr : r < 68719476736) (hL : L < 18446744073709551616) (h : L * r = C * 18446744073709551616 + X) : C < 68719476736 := by
  have e1 : L * r < 18446744073709551616 * 68719476736 := Nat.mul_lt_mul_of_lt_of_lt hL hr
  rw [h] at e1
  omega
theorem fitC_of {r p H L C X : Nat} (h1 : r * r = H * 18446744073709551616 + L) (h2 : L * r = C * 18446744073709551616 + X) (hX : X < 18446744073709551616) :
    S.fitC p r = decide (H * r + C < p * 4294967296 ∨ (H * r + C = p * 4294967296 ∧ X = 0)) := by
  have h3 : r * r * r = (H * r + C) * 18446744073709551616 + X := by
    rw [h1, Nat.add_mul, h2, Nat.mul_right_comm]; omega
  unfold S.fitC
  rw [h3, decide_eq_decide]
  generalize H * r + C = Y
  omega
theorem mul_int (H r : Nat) : (H : Int) * r = ((H * r : Nat) : Int) := by simp

set_option maxHeartbeats 1000000 in
theorem cubeFits_any (r p : Nat) (hr : r < 68719476736) (hp : p ≤ 1000) (w : World) :
    Calls Try.prog 94 #[.int .u64 r, .int .u64 p] w fun e w' => e = .returned (.bool (S.fitC p r)) ∧ w' = w := by
  obtain ⟨b, hb⟩ : ∃ b, b = S.fitC p r := ⟨_, rfl⟩
  rw [← hb]
  have HB := Lib.hid hb
  clear hb
  go_enter Try.func94, Try.ntmps94
  go_wp2_with fail
  refine (mul_any _ _ (by omega) (by omega) _).mono ?_
  rintro e w' ⟨H, L, HX, hL, hH, rfl, rfl⟩
  have hH2 := high_lt hr HX.out
  go_wp2_with fail
  refine (mul_any _ _ hL (by omega) _).mono ?_
  rintro e w' ⟨C, X, HY, hX, hC, rfl, rfl⟩
  have hC2 := carry_lt hr hL HY.out
  have HB' : Hid (b = decide (H * r + C < p * 4294967296 ∨ (H * r + C = p * 4294967296 ∧ X = 0))) := HB.out.trans (fitC_of HX.out HY.out hX)
  have m1 : H * r ≤ 256 * 68719476736 := Nat.mul_le_mul (by omega) (by omega)
  have m2 : (0 : Int) ≤ (H : Int) * r := by rw [mul_int]; omega
  have m3 : (H : Int) * r ≤ 17592186044416 := by rw [mul_int]; omega
  obtain ⟨Y, hY⟩ : ∃ Y : Nat, Y = H * r + C := ⟨_, rfl⟩
  obtain ⟨Q, hQ⟩ : ∃ Q : Nat, Q = p * 4294967296 := ⟨_, rfl⟩
  rw [← hY, ← hQ] at HB'
  have yb : (Y : Int) ≤ 18446744073709551615 := by omega
  have qb : (Q : Int) ≤ 18446744073709551615 := by omega
  have eY : (H : Int) * r + C = (Y : Int) := by rw [mul_int]; omega
  have eQ : (p : Int) * 4294967296 = (Q : Int) := by omega
  clear HB HX HY m1 hY hQ
  by_cases c1 : Y < Q
  · have d1 : Hid (b = true) := by rw [HB'.out]; exact decide_eq_true (.inl c1)
    clear HB'
    go_wp2
    go_ret
    exact ⟨ret_bool d1.out.symm, rfl⟩
  · by_cases c2 : Y = Q
    · subst c2
      by_cases c3 : X = 0
      · subst c3
        have d1 : Hid (b = true) := by rw [HB'.out]; exact decide_eq_true (.inr ⟨rfl, rfl⟩)
        clear HB'
        go_wp2
        go_ret
        exact ⟨ret_bool d1.out.symm, rfl⟩
      · have d1 : Hid (b = false) := by rw [HB'.out]; exact decide_eq_false (by rintro (h | ⟨_, h⟩); exact c1 h; exact c3 h)
        have c4 : ((X : Int) == 0) = false := by rw [beq_eq_false_iff_ne]; omega
        clear c3 HB'
        go_wp2
        go_ret
        exact ⟨ret_bool d1.out.symm, rfl⟩
    · have d1 : Hid (b = false) := by rw [HB'.out]; exact decide_eq_false (by rintro (h | ⟨h, _⟩); exact c1 h; exact c2 h)
      have c4 : ((Y : Int) == (Q : Int)) = false := by rw [beq_eq_false_iff_ne]; omega
      clear c2 HB'
      go_wp2
      go_ret
      exact ⟨ret_bool d1.out.symm, rfl⟩

end Go.Proofs.Ytbkeodgiflfakaa
