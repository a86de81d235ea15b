/-
  Layer 1: the walk of WordOrder: it answers true at every three numbers.
-/
import Derived.Test.YtiocibllmaakkaaAwake
import Derived.Test.YtiocibllmaakkaaGet
import Derived.OpenShut
namespace Go.Proofs.Ytiocibllmaakkaa.WordOrderW
open Go.RowKit
set_option linter.unusedVariables false

theorem sat_comm (a b : Int) : (satV a b == satV b a) = true := by
  rw [beq_iff_eq]; unfold satV; rw [Int.add_comm]
theorem sat_bd (a b : Int) (a0 : 0 ≤ a) (b0 : 0 ≤ b) : 0 ≤ satV a b ∧ satV a b ≤ 18446744073709551615 := by
  unfold satV; split <;> omega
theorem sat_assoc (a b c : Int) (a0 : 0 ≤ a) (_b0 : 0 ≤ b) (c0 : 0 ≤ c) : (satV (satV a b) c == satV a (satV b c)) = true := by
  rw [beq_iff_eq]; unfold satV; repeat (first | omega | split)
theorem sub_back (a b : Int) (a0 : 0 ≤ a) (b0 : 0 ≤ b) (h : a + b ≤ 18446744073709551615) : (subV (satV a b) b == a) = true := by
  rw [beq_iff_eq]; unfold satV subV; repeat (first | omega | split)
theorem sub_self (a : Int) : (subV a a == 0) = true := by
  rw [beq_iff_eq]; unfold subV; split <;> omega
theorem less_put (a b : Nat) (ha : a ≤ 18446744073709551615) (hb : b ≤ 18446744073709551615) : Op.bytesLess (W.putL a (W.clamp 8)) (W.putL b (W.clamp 8)) = decide (a < b) := by
  rw [show W.clamp 8 = 8 from rfl, W.bytesLess_putL]
  have e : (256 : Nat) ^ 8 = 18446744073709551616 := by decide
  rw [e, Nat.mod_eq_of_lt (by omega), Nat.mod_eq_of_lt (by omega)]

set_option maxHeartbeats 1000000 in
theorem core (a b c : Nat) (ha : a ≤ 18446744073709551615) (hb : b ≤ 18446744073709551615) (hc : c ≤ 18446744073709551615) (w : World) :
    Calls Try.prog 5 #[.int .u64 a, .int .u64 b, .int .u64 c] w fun e w' => e = .returned (.bool true) ∧ Below w.heap.size w w' := by
  have f1 := less_put a b ha hb
  have f2 := sat_comm a b
  have f3 := sat_assoc a b c (by omega) (by omega) (by omega)
  have f5 := sub_self a
  obtain ⟨b1, b2⟩ := sat_bd a b (by omega) (by omega)
  obtain ⟨b3, b4⟩ := sat_bd b c (by omega) (by omega)
  go_enter Try.func5, Try.ntmps5
  go_wp2_with fail
  refine (awake_any _).mono ?_
  rintro e w1 ⟨rfl, hb1⟩
  go_wp2_with fail
  refine (add_any a b (by omega) (by omega) (by omega) (by omega) _).mono ?_
  rintro e w2 ⟨rfl, rfl⟩
  go_wp2_with fail
  refine (put_any a 8 (by omega) (by omega) _).mono ?_
  rintro e w3 ⟨rfl, hb3⟩
  go_wp2_with fail
  refine (put_any b 8 (by omega) (by omega) _).mono ?_
  rintro e w4 ⟨rfl, hb4⟩
  have hb5 : Below w.heap.size w w4 := (hb1.trans (hb3.mono hb1.size)).trans (hb4.mono (Nat.le_trans hb1.size hb3.size))
  clear hb1 hb3 hb4
  go_wp2_with fail
  refine (add_any b a (by omega) (by omega) (by omega) (by omega) _).mono ?_
  rintro e w5 ⟨rfl, rfl⟩
  go_wp2_with fail
  refine (add_any (satV a b) c b1 b2 (by omega) (by omega) _).mono ?_
  rintro e w6 ⟨rfl, rfl⟩
  go_wp2_with fail
  refine (add_any b c (by omega) (by omega) (by omega) (by omega) _).mono ?_
  rintro e w7 ⟨rfl, rfl⟩
  go_wp2_with fail
  refine (add_any a (satV b c) (by omega) (by omega) b3 b4 _).mono ?_
  rintro e w8 ⟨rfl, rfl⟩
  by_cases hov : a + b ≤ 18446744073709551615
  · have f4 := sub_back a b (by omega) (by omega) (by omega)
    go_wp2_with fail
    refine (sub_any (satV a b) b b1 b2 (by omega) (by omega) _).mono ?_
    rintro e w9 ⟨rfl, rfl⟩
    go_wp2_with fail
    refine (sub_any a a (by omega) (by omega) (by omega) (by omega) _).mono ?_
    rintro e w10 ⟨rfl, rfl⟩
    go_wp2
    go_ret
    exact ⟨rfl, hb5⟩
  · have hw : IntKind.u64.wrap ((a : Int) + b) < a := by rw [wrap_over (by omega) (by omega)]; omega
    go_wp2_with fail
    refine (sub_any a a (by omega) (by omega) (by omega) (by omega) _).mono ?_
    rintro e w10 ⟨rfl, rfl⟩
    go_wp2
    go_ret
    exact ⟨rfl, hb5⟩

theorem walk (a0 : Int) (a1 : Int) (a2 : Int) (w : World) (w0 : (Lit.int .u64 a0).wf = true) (w1 : (Lit.int .u64 a1).wf = true) (w2 : (Lit.int .u64 a2).wf = true) :
    Calls Try.prog 5 #[.int .u64 a0, .int .u64 a1, .int .u64 a2] w fun e w' => e = .returned (.bool true) ∧ Below w.heap.size w w' := by
  obtain ⟨p0, q0⟩ := bounds_u64 w0
  obtain ⟨p1, q1⟩ := bounds_u64 w1
  obtain ⟨p2, q2⟩ := bounds_u64 w2
  obtain ⟨a, rfl⟩ := Int.eq_ofNat_of_zero_le p0
  obtain ⟨b, rfl⟩ := Int.eq_ofNat_of_zero_le p1
  obtain ⟨c, rfl⟩ := Int.eq_ofNat_of_zero_le p2
  exact core a b c (by omega) (by omega) (by omega) w

end Go.Proofs.Ytiocibllmaakkaa.WordOrderW
