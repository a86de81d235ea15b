/-
  Layer 1: the walk of WordSizes: it answers true at every two numbers and size, where the library's table of powers of ten lies as the program's text lays it.
-/
import Derived.Test.YtiocibllmaakkabDoorAwake
import Derived.Test.YtiocibllmaakkabDoorGet
import Derived.Test.YtiocibllmaakkabDoorFormat
import Derived.Test.YtiocibllmaakkabDoorSizesPlain
import Derived.OpenShut
namespace Go.Proofs.YtiocibllmaakkabDoor.WordSizesW
open Go.RowKit
set_option linter.unusedVariables false

theorem size_of (s : ByteArray) : s.size = s.data.toList.length := by simp

/-- word.Digits, its text told by its bytes. -/
theorem digits_is (u : Nat) (hu64 : u < 18446744073709551616) (w : World) (htab : Pow10 w) :
    Calls Tryd.prog 5 #[.int .u64 u] w fun e w' => ∃ x : ByteArray, e = .returned (.string x) ∧ x.data.toList = Lib.decDigits u ∧ Below w.heap.size w w' :=
  (digits_any u hu64 w htab).mono fun e w' h => ⟨_, h.1, by simp, h.2⟩

/-- word.Put, its text told by its bytes. -/
theorem put_is (a k : Nat) (ha : a ≤ 18446744073709551615) (hk : k ≤ 8) (w : World) :
    Calls Tryd.prog 6 #[.int .u64 a, .int .i64 k] w fun e w' => ∃ x : ByteArray, e = .returned (.string x) ∧ x.data.toList = W.putL a k ∧ Below w.heap.size w w' :=
  (put_any a k (by omega) (by omega) w).mono fun e w' h => ⟨_, h.1, by rw [W.clamp_mid hk]; simp, h.2⟩

theorem fits_int (a k : Nat) : (((a % 256 ^ k : Nat) : Int) == (a : Int)) = (((a : Int) / 2 ^ (8 * k)) == 0) := by
  have e1 : (2 : Int) ^ (8 * k) = ((256 ^ k : Nat) : Int) := by
    have : (2 : Nat) ^ (8 * k) = 256 ^ k := by rw [Nat.pow_mul]
    rw [← this]; simp
  have h := W.fits a k
  rw [Bool.eq_iff_iff, beq_iff_eq, beq_iff_eq] at h
  rw [e1, Bool.eq_iff_iff, beq_iff_eq, beq_iff_eq]
  generalize 256 ^ k = M at *
  constructor
  · intro hh
    have := h.1 (by omega)
    omega
  · intro hh
    have := h.2 (by omega)
    omega

theorem nd20 (u : Nat) (h : u < 18446744073709551616) : Lib.nDigits u ≤ 20 := by
  by_cases h0 : u = 0
  · subst h0; rw [Lib.nDigits_small (by decide)]; decide
  · have := Lib.numDigits_eq u (by omega) h; split at this <;> omega

set_option maxHeartbeats 4000000 in
theorem core (a b k : Nat) (sz : Int) (ha : a ≤ 18446744073709551615) (hb : b ≤ 18446744073709551615) (hk : k ≤ 8) (s0 : 0 ≤ sz) (s1 : sz ≤ 255) (hsz : sz % 9 = (k : Int)) (w : World) (htab : Pow10 w) :
    Calls Tryd.prog 3 #[.int .u64 a, .int .u64 b, .int .u8 sz] w fun e w' => e = .returned (.bool true) ∧ Below w.heap.size w w' := by
  go_enter Tryd.func3, Tryd.ntmps3
  go_wp2_with fail
  refine (awake_any _).mono ?_
  rintro e w1 ⟨rfl, hb1⟩
  have T1 := htab.below hb1
  have HT := Lib.hid T1
  clear T1 htab
  go_wp2_with fail
  refine (digits_is a (by omega) _ HT.out).mono ?_
  rintro e w2 ⟨x, rfl, hx, hb2⟩
  have HT2 := Lib.hid (HT.out.below hb2)
  have HX := Lib.hid hx
  clear hx
  go_wp2_with fail
  refine (digits_is b (by omega) _ HT2.out).mono ?_
  rintro e w3 ⟨y, rfl, hy, hb3⟩
  have HY := Lib.hid hy
  have hb4 : Below w.heap.size w w3 := (hb1.trans (hb2.mono hb1.size)).trans (hb3.mono (Nat.le_trans hb1.size hb2.size))
  have sx : x.size = Lib.nDigits a := by rw [size_of, HX.out, Lib.decDigits_length]
  have sy : y.size = Lib.nDigits b := by rw [size_of, HY.out, Lib.decDigits_length]
  have m1 := W.nDigits_mono a b
  have m2 := W.nDigits_mono b a
  have hxl : x.size ≤ 20 := by rw [sx]; exact nd20 a (by omega)
  have hyl : y.size ≤ 20 := by rw [sy]; exact nd20 b (by omega)
  clear hy HT HT2 hb1 hb2 hb3
  have HL : Hid (x.size = y.size → Op.bytesLess x.toList y.toList = decide (a < b)) := fun h => by
    rw [ByteArray.toList_eq, ByteArray.toList_eq, HX.out, HY.out, W.less_dec a b (by omega)]
  by_cases c1 : x.size < y.size
  · have hab : a < b := by omega
    clear m1 m2 sx sy
    go_wp2_with fail
    refine (put_is a k ha hk _).mono ?_
    rintro e w4 ⟨t, rfl, ht, hb5⟩
    have st : t.size = k := by rw [size_of, ht, W.putL_length]
    have hb6 := hb4.trans (hb5.mono hb4.size)
    have st1 : ((t.size : Int) == (k : Int)) = true := by rw [beq_iff_eq]; omega
    have hg := W.get_put a k
    rw [← ht] at hg
    have HT := Lib.hid ht
    have HG := Lib.hid hg
    clear ht hg hb5
    by_cases k0 : k = 0
    · subst k0
      have f0 := fits_int a 0
      have st2 : t.size = 0 := st
      go_wp2_with fail
      refine (get_short t st _).mono ?_
      rintro e w5 ⟨rfl, rfl⟩
      clear st
      go_wp2
      go_ret
      exact ⟨rfl, hb6⟩
    · have hp : (0 : Int) < (k : Int) := by omega
      have hz : ((k : Int) == 0) = false := by rw [beq_eq_false_iff_ne]; omega
      have hm := get_mid t (by omega) (by omega)
      rw [HG.out] at hm
      have HM := Lib.hid hm
      clear hm
      by_cases k8 : k = 8
      · subst k8
        have e8 : ((a % 256 ^ 8 : Nat) : Int) = (a : Int) := by
          have : (256 : Nat) ^ 8 = 18446744073709551616 := by decide
          rw [this, Nat.mod_eq_of_lt (by omega)]
        have st8 : ((t.size : Int) == 8) = true := by rw [beq_iff_eq]; omega
        clear st
        go_wp2_with fail
        refine (HM.out _).mono ?_
        rintro e w5 ⟨rfl, rfl⟩
        rw [e8]
        clear e8
        go_wp2
        go_ret
        exact ⟨rfl, hb6⟩
      · have n8 : ((k : Int) == 8) = false := by rw [beq_eq_false_iff_ne]; omega
        have f1 := fits_int a k
        clear st
        generalize hq : a % 256 ^ k = q at *
        clear hq
        go_wp2_with fail
        refine (HM.out _).mono ?_
        rintro e w5 ⟨rfl, rfl⟩
        go_wp2
        go_ret
        exact ⟨rfl, hb6⟩
  · by_cases c2 : x.size = y.size
    · have hbl := HL.out c2
      have e2 : ((x.size : Int) == (y.size : Int)) = true := by rw [beq_iff_eq]; omega
      clear m1 m2 sx sy c2 HL
      go_wp2_with fail
      refine (put_is a k ha hk _).mono ?_
      rintro e w4 ⟨t, rfl, ht, hb5⟩
      have st : t.size = k := by rw [size_of, ht, W.putL_length]
      have hb6 := hb4.trans (hb5.mono hb4.size)
      have st1 : ((t.size : Int) == (k : Int)) = true := by rw [beq_iff_eq]; omega
      have hg := W.get_put a k
      rw [← ht] at hg
      have HT := Lib.hid ht
      have HG := Lib.hid hg
      clear ht hg hb5
      by_cases k0 : k = 0
      · subst k0
        have f0 := fits_int a 0
        have st2 : t.size = 0 := st
        go_wp2_with fail
        refine (get_short t st _).mono ?_
        rintro e w5 ⟨rfl, rfl⟩
        clear st
        go_wp2
        go_ret
        exact ⟨rfl, hb6⟩
      · have hp : (0 : Int) < (k : Int) := by omega
        have hz : ((k : Int) == 0) = false := by rw [beq_eq_false_iff_ne]; omega
        have hm := get_mid t (by omega) (by omega)
        rw [HG.out] at hm
        have HM := Lib.hid hm
        clear hm
        by_cases k8 : k = 8
        · subst k8
          have e8 : ((a % 256 ^ 8 : Nat) : Int) = (a : Int) := by
            have : (256 : Nat) ^ 8 = 18446744073709551616 := by decide
            rw [this, Nat.mod_eq_of_lt (by omega)]
          have st8 : ((t.size : Int) == 8) = true := by rw [beq_iff_eq]; omega
          clear st
          go_wp2_with fail
          refine (HM.out _).mono ?_
          rintro e w5 ⟨rfl, rfl⟩
          rw [e8]
          clear e8
          go_wp2
          go_ret
          exact ⟨rfl, hb6⟩
        · have n8 : ((k : Int) == 8) = false := by rw [beq_eq_false_iff_ne]; omega
          have f1 := fits_int a k
          clear st
          generalize hq : a % 256 ^ k = q at *
          clear hq
          go_wp2_with fail
          refine (HM.out _).mono ?_
          rintro e w5 ⟨rfl, rfl⟩
          go_wp2
          go_ret
          exact ⟨rfl, hb6⟩
    · have hab : ¬ a < b := by intro h; have := m1 (by omega); omega
      have e2 : ((x.size : Int) == (y.size : Int)) = false := by rw [beq_eq_false_iff_ne]; omega
      clear m1 m2 sx sy c2 HL
      go_wp2_with fail
      refine (put_is a k ha hk _).mono ?_
      rintro e w4 ⟨t, rfl, ht, hb5⟩
      have st : t.size = k := by rw [size_of, ht, W.putL_length]
      have hb6 := hb4.trans (hb5.mono hb4.size)
      have st1 : ((t.size : Int) == (k : Int)) = true := by rw [beq_iff_eq]; omega
      have hg := W.get_put a k
      rw [← ht] at hg
      have HT := Lib.hid ht
      have HG := Lib.hid hg
      clear ht hg hb5
      by_cases k0 : k = 0
      · subst k0
        have f0 := fits_int a 0
        have st2 : t.size = 0 := st
        go_wp2_with fail
        refine (get_short t st _).mono ?_
        rintro e w5 ⟨rfl, rfl⟩
        clear st
        go_wp2
        go_ret
        exact ⟨rfl, hb6⟩
      · have hp : (0 : Int) < (k : Int) := by omega
        have hz : ((k : Int) == 0) = false := by rw [beq_eq_false_iff_ne]; omega
        have hm := get_mid t (by omega) (by omega)
        rw [HG.out] at hm
        have HM := Lib.hid hm
        clear hm
        by_cases k8 : k = 8
        · subst k8
          have e8 : ((a % 256 ^ 8 : Nat) : Int) = (a : Int) := by
            have : (256 : Nat) ^ 8 = 18446744073709551616 := by decide
            rw [this, Nat.mod_eq_of_lt (by omega)]
          have st8 : ((t.size : Int) == 8) = true := by rw [beq_iff_eq]; omega
          clear st
          go_wp2_with fail
          refine (HM.out _).mono ?_
          rintro e w5 ⟨rfl, rfl⟩
          rw [e8]
          clear e8
          go_wp2
          go_ret
          exact ⟨rfl, hb6⟩
        · have n8 : ((k : Int) == 8) = false := by rw [beq_eq_false_iff_ne]; omega
          have f1 := fits_int a k
          clear st
          generalize hq : a % 256 ^ k = q at *
          clear hq
          go_wp2_with fail
          refine (HM.out _).mono ?_
          rintro e w5 ⟨rfl, rfl⟩
          go_wp2
          go_ret
          exact ⟨rfl, hb6⟩

theorem walk (a0 : Int) (a1 : Int) (a2 : Int) (w : World) (htab : Pow10 w) (w0 : (Lit.int .u64 a0).wf = true) (w1 : (Lit.int .u64 a1).wf = true) (w2 : (Lit.int .u8 a2).wf = true) :
    Calls Tryd.prog 3 #[.int .u64 a0, .int .u64 a1, .int .u8 a2] w fun e w' => e = .returned (.bool true) ∧ Below w.heap.size w w' := by
  obtain ⟨p0, q0⟩ := bounds_u64 w0
  obtain ⟨p1, q1⟩ := bounds_u64 w1
  obtain ⟨p2, q2⟩ := bounds_u8 w2
  obtain ⟨a, rfl⟩ := Int.eq_ofNat_of_zero_le p0
  obtain ⟨b, rfl⟩ := Int.eq_ofNat_of_zero_le p1
  exact core a b (a2 % 9).toNat a2 (by omega) (by omega) (by omega) p2 q2 (by omega) w htab

end Go.Proofs.YtiocibllmaakkabDoor.WordSizesW
