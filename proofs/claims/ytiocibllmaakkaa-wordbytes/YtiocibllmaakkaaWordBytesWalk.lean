/-
  Layer 1: the walk of WordBytes: it answers true at every two numbers, size and text.
-/
import Derived.Test.YtiocibllmaakkaaAwake
import Derived.Test.YtiocibllmaakkaaGet
import Derived.Test.YtiocibllmaakkaaRefPut
import Derived.OpenShut
namespace Go.Proofs.Ytiocibllmaakkaa.WordBytesW
open Go.RowKit
set_option linter.unusedVariables false

theorem sub_is {n m : Int} (h : ¬ n < m) : (subV n m == n - m) = true := by rw [beq_iff_eq]; unfold subV; rw [if_neg h]
theorem sub_no {n m : Int} (h : n < m) : (subV n m == 0) = true := by rw [beq_iff_eq]; unfold subV; rw [if_pos h]

theorem nil_of_size {s : ByteArray} (h : s.size = 0) : s = ⟨#[]⟩ := by
  apply ByteArray.ext
  exact Array.eq_empty_of_size_eq_zero h
theorem not_nil_of_size {s : ByteArray} (h : ¬ s.size = 0) : s.toList.isEmpty = false := by
  rw [ByteArray.toList_eq]
  cases hl : s.data.toList with
  | nil => exact absurd (by rw [← ByteArray.size_data, ← Array.length_toList, hl]; rfl) h
  | cons => rfl

set_option maxHeartbeats 2000000 in
theorem core (n m size : Int) (s : ByteArray) (h0 : 0 ≤ n) (h1 : n ≤ 18446744073709551615) (g0 : 0 ≤ m) (g1 : m ≤ 18446744073709551615) (hs : s.size ≤ maxLen) (w : World) :
    Calls Try.prog 3 #[.int .u64 n, .int .u64 m, .int .i64 size, .string s] w fun e w' => e = .returned (.bool true) ∧ Below w.heap.size w w' := by
  unfold maxLen at hs
  go_enter Try.func3, Try.ntmps3
  go_wp2_with fail
  refine (awake_any _).mono ?_
  rintro e w1 ⟨rfl, hb1⟩
  by_cases hL : 100 < s.size
  · go_wp2
    go_ret
    exact ⟨rfl, hb1⟩
  · by_cases c1 : s.size = 0
    · have t1 : s.toList.isEmpty = true := by rw [nil_of_size c1, ByteArray.toList_eq]; rfl
      go_wp2_with fail
      refine (get_short s c1 _).mono ?_
      rintro e w2 ⟨rfl, rfl⟩
      by_cases hnm : n < m
      · have hsub := sub_no hnm
        go_wp2_with fail
        refine (put_any n size h0 h1 _).mono ?_
        rintro e w3 ⟨rfl, hb3⟩
        go_wp2_with fail
        refine (refPut_any n size h0 h1 _).mono ?_
        rintro e w4 ⟨rfl, hb4⟩
        have hb5 : Below w.heap.size w w4 := (hb1.trans (hb3.mono hb1.size)).trans (hb4.mono (Nat.le_trans hb1.size hb3.size))
        clear hb3 hb4
        go_wp2_with fail
        refine (add_any n m h0 h1 g0 g1 _).mono ?_
        rintro e w5 ⟨rfl, rfl⟩
        go_wp2_with fail
        refine (later_any n m h0 h1 g0 g1 _).mono ?_
        rintro e w6 ⟨rfl, rfl⟩
        go_wp2_with fail
        refine (sub_any n m h0 h1 g0 g1 _).mono ?_
        rintro e w7 ⟨rfl, rfl⟩
        go_wp2
        go_ret
        exact ⟨rfl, hb5⟩
      · have hsub := sub_is hnm
        go_wp2_with fail
        refine (put_any n size h0 h1 _).mono ?_
        rintro e w3 ⟨rfl, hb3⟩
        go_wp2_with fail
        refine (refPut_any n size h0 h1 _).mono ?_
        rintro e w4 ⟨rfl, hb4⟩
        have hb5 : Below w.heap.size w w4 := (hb1.trans (hb3.mono hb1.size)).trans (hb4.mono (Nat.le_trans hb1.size hb3.size))
        clear hb3 hb4
        go_wp2_with fail
        refine (add_any n m h0 h1 g0 g1 _).mono ?_
        rintro e w5 ⟨rfl, rfl⟩
        go_wp2_with fail
        refine (later_any n m h0 h1 g0 g1 _).mono ?_
        rintro e w6 ⟨rfl, rfl⟩
        go_wp2_with fail
        refine (sub_any n m h0 h1 g0 g1 _).mono ?_
        rintro e w7 ⟨rfl, rfl⟩
        go_wp2
        go_ret
        exact ⟨rfl, hb5⟩
    · have t1 : s.toList.isEmpty = false := not_nil_of_size c1
      by_cases c2 : 8 < s.size
      · go_wp2_with fail
        refine (get_long s c2 _).mono ?_
        rintro e w2 ⟨rfl, rfl⟩
        by_cases hnm : n < m
        · have hsub := sub_no hnm
          go_wp2_with fail
          refine (put_any n size h0 h1 _).mono ?_
          rintro e w3 ⟨rfl, hb3⟩
          go_wp2_with fail
          refine (refPut_any n size h0 h1 _).mono ?_
          rintro e w4 ⟨rfl, hb4⟩
          have hb5 : Below w.heap.size w w4 := (hb1.trans (hb3.mono hb1.size)).trans (hb4.mono (Nat.le_trans hb1.size hb3.size))
          clear hb3 hb4
          go_wp2_with fail
          refine (add_any n m h0 h1 g0 g1 _).mono ?_
          rintro e w5 ⟨rfl, rfl⟩
          go_wp2_with fail
          refine (later_any n m h0 h1 g0 g1 _).mono ?_
          rintro e w6 ⟨rfl, rfl⟩
          go_wp2_with fail
          refine (sub_any n m h0 h1 g0 g1 _).mono ?_
          rintro e w7 ⟨rfl, rfl⟩
          go_wp2
          go_ret
          exact ⟨rfl, hb5⟩
        · have hsub := sub_is hnm
          go_wp2_with fail
          refine (put_any n size h0 h1 _).mono ?_
          rintro e w3 ⟨rfl, hb3⟩
          go_wp2_with fail
          refine (refPut_any n size h0 h1 _).mono ?_
          rintro e w4 ⟨rfl, hb4⟩
          have hb5 : Below w.heap.size w w4 := (hb1.trans (hb3.mono hb1.size)).trans (hb4.mono (Nat.le_trans hb1.size hb3.size))
          clear hb3 hb4
          go_wp2_with fail
          refine (add_any n m h0 h1 g0 g1 _).mono ?_
          rintro e w5 ⟨rfl, rfl⟩
          go_wp2_with fail
          refine (later_any n m h0 h1 g0 g1 _).mono ?_
          rintro e w6 ⟨rfl, rfl⟩
          go_wp2_with fail
          refine (sub_any n m h0 h1 g0 g1 _).mono ?_
          rintro e w7 ⟨rfl, rfl⟩
          go_wp2
          go_ret
          exact ⟨rfl, hb5⟩
      · go_wp2_with fail
        refine (get_mid s (by omega) (by omega) _).mono ?_
        rintro e w2 ⟨rfl, rfl⟩
        go_wp2_with fail
        refine (refGet_any s (by omega) _).mono ?_
        rintro e w3 ⟨rfl, rfl⟩
        by_cases hnm : n < m
        · have hsub := sub_no hnm
          go_wp2_with fail
          refine (put_any n size h0 h1 _).mono ?_
          rintro e w3 ⟨rfl, hb3⟩
          go_wp2_with fail
          refine (refPut_any n size h0 h1 _).mono ?_
          rintro e w4 ⟨rfl, hb4⟩
          have hb5 : Below w.heap.size w w4 := (hb1.trans (hb3.mono hb1.size)).trans (hb4.mono (Nat.le_trans hb1.size hb3.size))
          clear hb3 hb4
          go_wp2_with fail
          refine (add_any n m h0 h1 g0 g1 _).mono ?_
          rintro e w5 ⟨rfl, rfl⟩
          go_wp2_with fail
          refine (later_any n m h0 h1 g0 g1 _).mono ?_
          rintro e w6 ⟨rfl, rfl⟩
          go_wp2_with fail
          refine (sub_any n m h0 h1 g0 g1 _).mono ?_
          rintro e w7 ⟨rfl, rfl⟩
          go_wp2
          go_ret
          exact ⟨rfl, hb5⟩
        · have hsub := sub_is hnm
          go_wp2_with fail
          refine (put_any n size h0 h1 _).mono ?_
          rintro e w3 ⟨rfl, hb3⟩
          go_wp2_with fail
          refine (refPut_any n size h0 h1 _).mono ?_
          rintro e w4 ⟨rfl, hb4⟩
          have hb5 : Below w.heap.size w w4 := (hb1.trans (hb3.mono hb1.size)).trans (hb4.mono (Nat.le_trans hb1.size hb3.size))
          clear hb3 hb4
          go_wp2_with fail
          refine (add_any n m h0 h1 g0 g1 _).mono ?_
          rintro e w5 ⟨rfl, rfl⟩
          go_wp2_with fail
          refine (later_any n m h0 h1 g0 g1 _).mono ?_
          rintro e w6 ⟨rfl, rfl⟩
          go_wp2_with fail
          refine (sub_any n m h0 h1 g0 g1 _).mono ?_
          rintro e w7 ⟨rfl, rfl⟩
          go_wp2
          go_ret
          exact ⟨rfl, hb5⟩

theorem walk (a0 : Int) (a1 : Int) (a2 : Int) (a3 : ByteArray) (w : World) (w0 : (Lit.int .u64 a0).wf = true) (w1 : (Lit.int .u64 a1).wf = true) (w2 : (Lit.int .i64 a2).wf = true) (w3 : a3.size ≤ maxLen) :
    Calls Try.prog 3 #[.int .u64 a0, .int .u64 a1, .int .i64 a2, .string a3] w fun e w' => e = .returned (.bool true) ∧ Below w.heap.size w w' := by
  obtain ⟨p0, q0⟩ := bounds_u64 w0
  obtain ⟨p1, q1⟩ := bounds_u64 w1
  exact core a0 a1 a2 a3 p0 q0 p1 q1 w3 w

end Go.Proofs.Ytiocibllmaakkaa.WordBytesW
