/-
  P2.3: RealWholes answers true, at every input.
-/
import Derived.Test.YtajpgjbdemadgabDoorRWhole
import Derived.Test.YtajpgjbdemadgabDoorRText
namespace Go.Proofs.YtajpgjbdemadgabDoor.RealWholesW
open Go.RowKit
set_option linter.unusedVariables false
set_option linter.unusedSimpArgs false
set_option exponentiation.threshold 2000

set_option maxHeartbeats 2000000 in
theorem core (a b : Nat) (n most X Y c : Int) (w : World) (n0 : 0 ≤ n) (n1 : n ≤ 18446744073709551615)
    (A : Hid (Calls Tryd.prog 5 #[] w fun e w' => e = .returned (.bool true) ∧ Below w.heap.size w w'))
    (W1 : Hid (∀ v, Calls Tryd.prog 8 #[.float .f64 a, .int .u64 most] v fun e w' => e = .returned (.int .u64 X) ∧ w' = v))
    (W2 : Hid (∀ v, Calls Tryd.prog 8 #[.float .f64 b, .int .u64 most] v fun e w' => e = .returned (.int .u64 Y) ∧ w' = v))
    (C : Hid (∀ v, Calls Tryd.prog 7 #[.float .f64 a, .float .f64 b] v fun e w' => e = .returned (.int .i64 c) ∧ w' = v))
    (W3 : Hid (∀ v, Calls Tryd.prog 8 #[.float .f64 (floatOfInt .f64 (n % 9007199254740992)), .int .u64 18446744073709551615] v fun e w' => e = .returned (.int .u64 (n % 9007199254740992)) ∧ w' = v))
    (h1 : Hid (0 < c ∨ X ≤ Y)) (h2 : X ≤ most)
    (h3 : Hid (X = 0 ∨ (X ≠ 0 ∧ (FloatKind.f64.format.order (floatOfInt .f64 X) a == some Ordering.lt || FloatKind.f64.format.order (floatOfInt .f64 X) a == some Ordering.eq) = true))) :
    Calls Tryd.prog 4 #[.float .f64 a, .float .f64 b, .int .u64 n, .int .u64 most] w fun e w' => e = .returned (.bool true) ∧ Below w.heap.size w w' := by
  have hc : (0 < c) ∨ (¬ 0 < c ∧ X ≤ Y) := by
    by_cases h : 0 < c
    · exact .inl h
    · exact .inr ⟨h, h1.out.resolve_left h⟩
  have HC := Lib.hid hc
  clear hc h1
  go_enter Tryd.func4, Tryd.ntmps4
  go_wp2_with fail
  refine A.out.mono ?_
  rintro e w1 ⟨rfl, hb⟩
  go_wp2_with fail
  refine (W1.out _).mono ?_
  rintro e w' ⟨rfl, rfl⟩
  go_wp2_with fail
  refine (W2.out _).mono ?_
  rintro e w' ⟨rfl, rfl⟩
  go_wp2_with fail
  refine (C.out _).mono ?_
  rintro e w' ⟨rfl, rfl⟩
  rcases HC.out with g | ⟨g, g'⟩
  all_goals
    go_wp2_with fail
    refine (W3.out _).mono ?_
    rintro e w' ⟨rfl, rfl⟩
    rcases h3.out with rfl | ⟨hx, ho⟩
    · go_wp2_with fail
      go_ret
      exact ⟨rfl, hb⟩
    · have hx' : (X == 0) = false := by simpa using hx
      clear hx
      go_wp2_with fail
      go_ret
      exact ⟨rfl, hb⟩

theorem near_of (n : Nat) (hn : n < 18446744073709551616) : floatOfInt .f64 (n : Int) = Ieee.double.nearest false n 0 := by
  show Ieee.double.nearest (decide ((n : Int) < 0)) ((n : Int).natAbs) 0 = _
  rw [decide_eq_false (by omega), Int.natAbs_natCast]

/-- The word of a whole number that is not 0. -/
theorem word_of_whole (n : Nat) (h0 : 0 < n) (hn : n < 18446744073709551616) : ∃ r, floatOfInt .f64 (n : Int) = r ∧ r < 9218868437227405312 ∧ R.M (r - 1) < n * R.U ∧ 0 < r ∧ (n < 9007199254740992 → R.M r = n * R.U) ∧ R.rung r = r ∧ R.sgn r = false ∧ R.nan r = false ∧ R.v r = r := by
  obtain ⟨r, hr, h1, h2, h3, h4⟩ := R.near_low n h0 hn
  have hru : R.rung r = r := by unfold R.rung; omega
  have hsg : R.sgn r = false := by rw [R.sgn_eq r (by omega)]; exact decide_eq_false (by omega)
  refine ⟨r, by rw [near_of n hn]; exact hr, h1, h3, h2, h4, hru, hsg, ?_, ?_⟩
  · unfold R.nan; rw [hru]; exact decide_eq_false (by omega)
  · unfold R.v; rw [hsg, if_neg (by decide), hru]

theorem M_one : R.M 4607182418800017408 = 1 * R.U := by
  rw [show (4607182418800017408 : Nat) = 1022 * 4503599627370496 + 4503599627370496 from by decide, R.M_form _ _ (by decide) (by decide)]
  unfold R.U
  rw [show (4503599627370496 : Nat) = 2 ^ 52 from by decide, ← Nat.pow_add]
theorem M_bey : R.M 4895412794951729152 = 18446744073709551616 * R.U := by
  rw [show (4895412794951729152 : Nat) = 1086 * 4503599627370496 + 4503599627370496 from by decide, R.M_form _ _ (by decide) (by decide)]
  unfold R.U
  rw [show (4503599627370496 : Nat) = 2 ^ 52 from by decide, show (18446744073709551616 : Nat) = 2 ^ 64 from by decide, ← Nat.pow_add]

/-- Of a whole number of up to 53 bits it is that number. -/
theorem whole_of (n : Nat) (hn : n < 9007199254740992) : wholeV (floatOfInt .f64 (n : Int)) 18446744073709551615 = n := by
  rcases Nat.eq_zero_or_pos n with h0 | h0
  · subst h0; decide +kernel
  · obtain ⟨r, hr, h1, h2, h3, h4, h5, h6, h7, h8⟩ := word_of_whole n h0 (by omega)
    have hM := h4 hn
    rw [hr]
    have g1 : 4607182418800017408 ≤ r := by
      rcases Nat.lt_or_ge r 4607182418800017408 with h | h
      · exfalso
        have := R.M_lt _ _ h
        rw [M_one, hM] at this
        have := Nat.lt_of_mul_lt_mul_right this
        omega
      · exact h
    have g2 : r < 4895412794951729152 := by
      rcases Nat.lt_or_ge r 4895412794951729152 with h | h
      · exact h
      · exfalso
        have := R.M_le _ _ h
        rw [M_bey, hM] at this
        have := Nat.le_of_mul_le_mul_right this R.U_pos
        omega
    unfold wholeV
    rw [h7, if_neg (by decide), h8, if_neg (by omega), if_neg (by omega), h5]
    unfold R.flo
    rw [hM, Nat.mul_div_cancel _ R.U_pos]
    omega

/-- What stands ahead of the point is never more than the number. -/
theorem whole_le (a most : Nat) (ha : a < 18446744073709551616) (hm : most < 18446744073709551616) (h0 : 0 < wholeV a most) :
    (FloatKind.f64.format.order (floatOfInt .f64 ((wholeV a most : Nat) : Int)) a == some Ordering.lt || FloatKind.f64.format.order (floatOfInt .f64 ((wholeV a most : Nat) : Int)) a == some Ordering.eq) = true := by
  have hle := R.whole_most a most
  obtain ⟨r, hr, h1, h2, h3, h4, h5, h6, h7, h8⟩ := word_of_whole (wholeV a most) h0 (by omega)
  have hna : R.nan a = false := by
    cases h : R.nan a with
    | false => rfl
    | true => unfold wholeV at h0; rw [h, if_pos rfl] at h0; omega
  have hva : 4607182418800017408 ≤ R.v a := by
    rcases Int.lt_or_le (R.v a) 4607182418800017408 with h | h
    · unfold wholeV at h0; rw [hna, if_neg (by decide), if_pos h] at h0; omega
    · exact h
  have hsa : R.sgn a = false := by
    cases h : R.sgn a with
    | false => rfl
    | true => unfold R.v at hva; rw [h, if_pos rfl] at hva; omega
  have hv : R.v a = (R.rung a : Int) := by unfold R.v; rw [hsa, if_neg (by decide)]
  have hWU : wholeV a most * R.U ≤ R.M (R.rung a) := by
    by_cases hb : 4895412794951729152 ≤ R.v a
    · have := R.M_le 4895412794951729152 (R.rung a) (by omega)
      rw [M_bey] at this
      exact Nat.le_trans (Nat.mul_le_mul_right R.U (by omega)) this
    · have : wholeV a most ≤ R.flo (R.rung a) := by
        unfold wholeV; rw [hna, if_neg (by decide), if_neg (by omega), if_neg hb]; exact Nat.min_le_left _ _
      exact Nat.le_trans (Nat.mul_le_mul_right R.U this) (Nat.div_mul_le_self _ _)
  have hfin : r ≤ R.rung a := by
    rcases Nat.lt_or_ge (R.rung a) r with h | h
    · exfalso
      have := R.M_le (R.rung a) (r - 1) (by omega)
      omega
    · exact h
  rw [hr, R.ord r a h7 hna, h8, hv]
  rcases Nat.lt_or_eq_of_le hfin with h | h
  · rw [Int.compare_eq_lt.2 (by omega)]; rfl
  · rw [Int.compare_eq_eq.2 (by omega)]; rfl

theorem walk (a0 a1 : Nat) (a2 a3 : Int) (w : World) (htab : Tab w ∧ Pow10T w) (w0 : (Lit.float .f64 a0).wf = true) (w1 : (Lit.float .f64 a1).wf = true) (w2 : (Lit.int .u64 a2).wf = true) (w3 : (Lit.int .u64 a3).wf = true) :
    Calls Tryd.prog 4 #[.float .f64 a0, .float .f64 a1, .int .u64 a2, .int .u64 a3] w fun e w' => e = .returned (.bool true) ∧ Below w.heap.size w w' := by
  have h0 : a0 < 18446744073709551616 := by simpa [Lit.wf] using w0
  have h1 : a1 < 18446744073709551616 := by simpa [Lit.wf] using w1
  have h2 : 0 ≤ a2 ∧ a2 ≤ 18446744073709551615 := by simpa [Lit.wf, IntKind.min, IntKind.max, IntKind.signed, IntKind.bits] using w2
  have h3 : 0 ≤ a3 ∧ a3 ≤ 18446744073709551615 := by simpa [Lit.wf, IntKind.min, IntKind.max, IntKind.signed, IntKind.bits] using w3
  obtain ⟨n, rfl⟩ := Int.eq_ofNat_of_zero_le h2.1
  obtain ⟨most, rfl⟩ := Int.eq_ofNat_of_zero_le h3.1
  have hnm : ((n : Int) % 9007199254740992) = ((n % 9007199254740992 : Nat) : Int) := by omega
  have hF : floatOfInt .f64 ((n % 9007199254740992 : Nat) : Int) < 18446744073709551616 := by
    have := floatOfInt_wf .f64 ((n % 9007199254740992 : Nat) : Int)
    simpa [Lit.wf] using this
  have W3 := fun v => whole_any (floatOfInt .f64 ((n % 9007199254740992 : Nat) : Int)) 18446744073709551615 hF v
  rw [whole_of _ (Nat.mod_lt _ (by decide))] at W3
  refine core a0 a1 n most _ _ _ w h2.1 h2.2 (awake2_any w htab.1 htab.2) (fun v => whole_any a0 most h0 v) (fun v => whole_any a1 most h1 v) (fun v => cmp_any a0 a1 h0 h1 v) (by rw [hnm]; exact W3) ?_ (by have := R.whole_most a0 most; omega) ?_
  · rcases Int.lt_or_le (R.rank a1) (R.rank a0) with h | h
    · left; rw [R.cmpI_pos]; exact h
    · right; have := R.whole_rises a0 a1 most h; omega
  · rcases Nat.eq_zero_or_pos (wholeV a0 most) with h | h
    · left; omega
    · right; exact ⟨by omega, whole_le a0 most h0 (by omega) h⟩

end Go.Proofs.YtajpgjbdemadgabDoor.RealWholesW
