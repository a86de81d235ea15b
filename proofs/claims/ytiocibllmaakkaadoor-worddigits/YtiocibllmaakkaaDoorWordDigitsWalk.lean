/-
  Layer 1: the walk of WordDigits: it answers true at every number and text, where the library's table of powers of ten lies as the program's text lays it.
-/
import Derived.Test.YtiocibllmaakkaaDoorAwake
import Derived.Test.YtiocibllmaakkaaDoorFormat
import Derived.Test.YtiocibllmaakkaaDoorNumber
import Derived.Test.YtiocibllmaakkaaDoorRefNumber
import Derived.Test.YtiocibllmaakkaaDoorHex
import Derived.Test.YtiocibllmaakkaaDoorRefHex
import Derived.Test.YtiocibllmaakkaaDoorRefDigits
import Derived.Test.YtiocibllmaakkaaDoorUnhex
import Derived.Test.YtiocibllmaakkaaDoorRefUnhex
import Derived.OpenShut
namespace Go.Proofs.YtiocibllmaakkaaDoor.WordDigitsW
open Go.RowKit
set_option linter.unusedVariables false

theorem size_of (s : ByteArray) : s.size = s.data.toList.length := by simp
theorem eq_of (x y : ByteArray) (h : x.data.toList = y.data.toList) : (x.toList == y.toList) = true := by
  rw [beq_iff_eq, ByteArray.toList_eq, ByteArray.toList_eq, h]

theorem digits_is (u : Nat) (hu64 : u < 18446744073709551616) (w : World) (htab : Pow10 w) :
    Calls Tryd.prog 5 #[.int .u64 u] w fun e w' => ∃ x : ByteArray, e = .returned (.string x) ∧ Hid (x.data.toList = Lib.decDigits u) ∧ Below w.heap.size w w' :=
  (digits_any u hu64 w htab).mono fun e w' h => ⟨_, h.1, by simp [Hid], h.2⟩
theorem refDigits_is (u : Nat) (hu64 : u < 18446744073709551616) (w : World) :
    Calls Tryd.prog 11 #[.int .u64 u] w fun e w' => ∃ x : ByteArray, e = .returned (.string x) ∧ Hid (x.data.toList = Lib.decDigits u) ∧ Below w.heap.size w w' :=
  (refDigits_any u hu64 w).mono fun e w' h => ⟨_, h.1, by simp [Hid], h.2⟩
theorem hex_is (s : ByteArray) (hs : s.size ≤ 70368744177664) (w : World) :
    Calls Tryd.prog 8 #[.string s] w fun e w' => ∃ x : ByteArray, e = .returned (.string x) ∧ Hid (x.data.toList = W.hexL s.data.toList) ∧ Below w.heap.size w w' :=
  (hex_any s hs w).mono fun e w' h => ⟨_, h.1, by simp [Hid], h.2⟩
theorem unhex_is (s : ByteArray) (hs : s.size ≤ 1000) (w : World) :
    Calls Tryd.prog 9 #[.string s] w fun e w' => ∃ (x : ByteArray) (er : Int), e = .returned (.tuple #[.string x, .int .i64 er]) ∧ Hid (x.data.toList = unX s.data.toList) ∧ Hid (er = unE s.data.toList) ∧ Below w.heap.size w w' :=
  (unhex_any s hs w).mono fun e w' h => ⟨_, _, h.1, by simp [Hid], rfl, h.2⟩
theorem refUnhex_is (s : ByteArray) (hs : s.size ≤ 1000) (w : World) :
    Calls Tryd.prog 10 #[.string s] w fun e w' => ∃ (x : ByteArray) (ok : Bool), e = .returned (.tuple #[.string x, .bool ok]) ∧ Hid (x.data.toList = unX s.data.toList) ∧ Hid (ok = (W.unhexL s.data.toList).isSome) ∧ Below w.heap.size w w' :=
  (refUnhex_any s hs w).mono fun e w' h => ⟨_, _, h.1, by simp [Hid, unT, unX], rfl, h.2⟩
theorem number_is (s : ByteArray) (hs : s.size ≤ 1000) (w : World) :
    Calls Tryd.prog 6 #[.string s] w fun e w' => ∃ v er : Int, e = .returned (.tuple #[.int .u64 v, .int .i64 er]) ∧ Hid (v = numV s.data.toList) ∧ Hid (er = numE s.data.toList) ∧ w' = w :=
  (number_any s hs w).mono fun e w' h => ⟨_, _, h.1, rfl, rfl, h.2⟩
theorem refNumber_is (s : ByteArray) (hs : s.size ≤ 1000) (w : World) :
    Calls Tryd.prog 7 #[.string s] w fun e w' => ∃ v er : Int, e = .returned (.tuple #[.int .u64 v, .int .i64 er]) ∧ Hid (v = numV s.data.toList) ∧ Hid (er = numE s.data.toList) ∧ w' = w :=
  (refNumber_any s hs w).mono fun e w' h => ⟨_, _, h.1, rfl, rfl, h.2⟩

set_option maxHeartbeats 8000000 in
theorem core (u : Nat) (s : ByteArray) (hu : u < 18446744073709551616) (hs : s.size ≤ 100) (w : World) (htab : Pow10 w) :
    Calls Tryd.prog 3 #[.int .u64 u, .string s] w fun e w' => e = .returned (.bool true) ∧ Below w.heap.size w w' := by
  go_enter Tryd.func3, Tryd.ntmps3
  go_wp2_with fail
  refine (awake_any _).mono ?_
  rintro e w1 ⟨rfl, hb1⟩
  have T1 := Lib.hid (htab.below hb1)
  clear htab
  go_wp2_with fail
  refine (digits_is u hu _ T1.out).mono ?_
  rintro e w2 ⟨t, rfl, HT, hb2⟩
  have T2 := Lib.hid (T1.out.below hb2)
  have bw2 : Below w.heap.size w w2 := hb1.trans (hb2.mono hb1.size)
  have st : t.size ≤ 20 := by rw [size_of, HT.out, Lib.decDigits_length]; exact nd20' u hu
  clear T1 hb1 hb2
  go_wp2_with fail
  refine (number_is t (by omega) _).mono ?_
  rintro e w3 ⟨v1, e1, rfl, HV1, HE1, rfl⟩
  obtain rfl : v1 = (u : Int) := by rw [HV1.out, HT.out, numV, if_pos ⟨W.isDec_dec u, by rw [W.val_dec]; omega⟩, W.val_dec]
  obtain rfl : e1 = 0 := by rw [HE1.out, HT.out, numE, if_pos (W.isDec_dec u), if_pos (by rw [W.val_dec]; omega)]
  clear HV1 HE1
  go_wp2_with fail
  refine (number_is s (by omega) _).mono ?_
  rintro e w4 ⟨v2, e2, rfl, HV2, HE2, rfl⟩
  go_wp2_with fail
  refine (refNumber_is s (by omega) _).mono ?_
  rintro e w5 ⟨v3, e3, rfl, HV3, HE3, rfl⟩
  obtain rfl : v3 = v2 := by rw [HV3.out, HV2.out]
  obtain rfl : e3 = e2 := by rw [HE3.out, HE2.out]
  clear HV3 HE3
  go_wp2_with fail
  refine (hex_is s (by omega) _).mono ?_
  rintro e w6 ⟨h, rfl, HH, hb6⟩
  have T3 := Lib.hid (T2.out.below hb6)
  have bw6 := bw2.trans (hb6.mono bw2.size)
  have sh : h.size ≤ 200 := by rw [size_of, HH.out, W.hexL_length, ← size_of]; omega
  clear T2 bw2 hb6
  go_wp2_with fail
  refine (unhex_is h (by omega) _).mono ?_
  rintro e w7 ⟨y, e4, rfl, HY, HE4, hb7⟩
  obtain rfl : e4 = 0 := by rw [HE4.out, HH.out, unE, W.unhex_hex]; rfl
  have f3 := eq_of y s (by rw [HY.out, HH.out, unX, W.unhex_hex]; rfl)
  have T4 := Lib.hid (T3.out.below hb7)
  have bw7 := bw6.trans (hb7.mono bw6.size)
  clear T3 bw6 hb7 HY HE4
  go_wp2_with fail
  refine (unhex_is s (by omega) _).mono ?_
  rintro e w8 ⟨p, e5, rfl, HP, HE5, hb8⟩
  have T5 := Lib.hid (T4.out.below hb8)
  have bw8 := bw7.trans (hb8.mono bw7.size)
  clear T4 bw7 hb8
  go_wp2_with fail
  refine (refUnhex_is s (by omega) _).mono ?_
  rintro e w9 ⟨q, ok, rfl, HQ, HOK, hb9⟩
  have T6 := Lib.hid (T5.out.below hb9)
  have bw9 := bw8.trans (hb9.mono bw8.size)
  have f4 := eq_of p q (by rw [HP.out, HQ.out])
  clear T5 bw8 hb9 HP HQ
  have hok : (ok = true ∧ e5 = 0) ∨ (ok = false ∧ e5 = 4) := by
    rw [HOK.out, HE5.out, unE]
    cases (W.unhexL s.data.toList).isSome
    · exact .inr ⟨rfl, rfl⟩
    · exact .inl ⟨rfl, rfl⟩
  clear HOK HE5
  go_wp2_with fail
  refine (refDigits_is u hu _).mono ?_
  rintro e w10 ⟨t2, rfl, HT2, hb10⟩
  have T7 := Lib.hid (T6.out.below hb10)
  have bw10 := bw9.trans (hb10.mono bw9.size)
  have f1 := eq_of t t2 (by rw [HT.out, HT2.out])
  clear T6 bw9 hb10 HT HT2
  by_cases c : e3 = 0
  · subst c
    have hd : W.isDec s.data.toList = true ∧ W.val s.data.toList ≤ 18446744073709551615 := by
      have := HE2.out
      unfold numE at this
      by_cases h1 : W.isDec s.data.toList = true
      · rw [if_pos h1] at this
        by_cases h2 : W.val s.data.toList ≤ 18446744073709551615
        · exact ⟨h1, h2⟩
        · rw [if_neg h2] at this; cases this
      · rw [if_neg h1] at this; cases this
    obtain rfl : v3 = (W.val s.data.toList : Int) := by rw [HV2.out, numV, if_pos hd]
    have HD := Lib.hid (W.dec_of_isDec s.data.toList hd.1)
    obtain ⟨hd1, hd2⟩ := hd
    generalize W.val s.data.toList = v at *
    clear HV2 HE2 hd1
    go_wp2_with fail
    refine (digits_is v (by omega) _ T7.out).mono ?_
    rintro e w11 ⟨t3, rfl, HT3, hb11⟩
    have bw11 := bw10.trans (hb11.mono bw10.size)
    have f5 := eq_of t3 s (by rw [HT3.out, HD.out])
    clear T7 bw10 hb11 HT3 HD
    go_wp2_with fail
    refine (refHex_any s (by omega) _).mono ?_
    rintro e w12 ⟨h2, rfl, hh2, hb12⟩
    have bw12 := bw11.trans (hb12.mono bw11.size)
    have f6 := eq_of h h2 (by rw [HH.out, hh2])
    clear bw11 hb12 HH hh2
    rcases hok with ⟨rfl, rfl⟩ | ⟨rfl, rfl⟩
    · go_wp2
      go_ret
      exact ⟨rfl, bw12⟩
    · go_wp2
      go_ret
      exact ⟨rfl, bw12⟩
  · have c' : (e3 != 0) = true := by rw [bne_iff_ne]; exact c
    clear HV2 HE2 T7
    go_wp2_with fail
    refine (refHex_any s (by omega) _).mono ?_
    rintro e w12 ⟨h2, rfl, hh2, hb12⟩
    have bw12 := bw10.trans (hb12.mono bw10.size)
    have f6 := eq_of h h2 (by rw [HH.out, hh2])
    clear bw10 hb12 HH hh2
    rcases hok with ⟨rfl, rfl⟩ | ⟨rfl, rfl⟩
    · go_wp2
      go_ret
      exact ⟨rfl, bw12⟩
    · go_wp2
      go_ret
      exact ⟨rfl, bw12⟩

theorem walk (a0 : Int) (a1 : ByteArray) (w : World) (htab : Pow10 w) (w0 : (Lit.int .u64 a0).wf = true) (w1 : a1.size ≤ maxLen) :
    Calls Tryd.prog 3 #[.int .u64 a0, .string a1] w fun e w' => e = .returned (.bool true) ∧ Below w.heap.size w w' := by
  obtain ⟨p0, q0⟩ := bounds_u64 w0
  obtain ⟨a, rfl⟩ := Int.eq_ofNat_of_zero_le p0
  by_cases h : a1.size ≤ 100
  · exact core a a1 (by omega) h w htab
  · unfold maxLen at w1
    clear htab
    go_enter Tryd.func3, Tryd.ntmps3
    go_wp2_with fail
    refine (awake_any _).mono ?_
    rintro e w1 ⟨rfl, hb1⟩
    go_wp2
    go_ret
    exact ⟨rfl, hb1⟩

end Go.Proofs.YtiocibllmaakkaaDoor.WordDigitsW
