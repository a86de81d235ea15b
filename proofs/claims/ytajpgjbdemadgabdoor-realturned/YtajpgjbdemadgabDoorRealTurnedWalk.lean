/-
  P2.1: RealTurned answers true, at every input.
-/
import Derived.Test.YtajpgjbdemadgabDoorRLaws
import Derived.Test.YtajpgjbdemadgabDoorRText
namespace Go.Proofs.YtajpgjbdemadgabDoor.RealTurnedW
open Go.RowKit
set_option linter.unusedVariables false
set_option linter.unusedSimpArgs false

theorem core (a0 : Nat) (a1 : Nat) (k m kn c e cn : Int) (w : World)
    (A : Hid (Calls Tryd.prog 5 #[] w fun e w' => e = .returned (.bool true) ∧ Below w.heap.size w w'))
    (K0 : Hid (∀ x, Calls Tryd.prog 6 #[.float .f64 a0] x fun e w' => e = .returned (.int .i64 k) ∧ w' = x))
    (K1 : Hid (∀ x, Calls Tryd.prog 6 #[.float .f64 a1] x fun e w' => e = .returned (.int .i64 m) ∧ w' = x))
    (KN : Hid (∀ x, Calls Tryd.prog 6 #[.float .f64 (a0 ^^^ 9223372036854775808)] x fun e w' => e = .returned (.int .i64 kn) ∧ w' = x))
    (C : Hid (∀ x, Calls Tryd.prog 7 #[.float .f64 a0, .float .f64 a1] x fun e' w' => e' = .returned (.int .i64 c) ∧ w' = x))
    (D : Hid (∀ x, Calls Tryd.prog 7 #[.float .f64 a1, .float .f64 a0] x fun e' w' => e' = .returned (.int .i64 e) ∧ w' = x))
    (CN : Hid (∀ x, Calls Tryd.prog 7 #[.float .f64 (a0 ^^^ 9223372036854775808), .float .f64 (a1 ^^^ 9223372036854775808)] x fun e' w' => e' = .returned (.int .i64 cn) ∧ w' = x))
    (hk0 : 0 ≤ k) (hk1 : k ≤ 6) (hm0 : 0 ≤ m) (hm1 : m ≤ 6)
    (h : (k = 0 ∧ m = 0 ∧ c = 0 ∧ kn = 0) ∨ (k = 0 ∧ 0 < m ∧ c = -1 ∧ kn = 0) ∨ (0 < k ∧ m = 0 ∧ c = 1) ∨ (0 < k ∧ 0 < m ∧ cn = e ∧ kn = 7 - k)) :
    Calls Tryd.prog 3 #[.float .f64 a0, .float .f64 a1] w fun e w' => e = .returned (.bool true) ∧ Below w.heap.size w w' := by
  go_enter Tryd.func3, Tryd.ntmps3
  go_wp2_with (first
    | (go_at_call 5; refine A.out.mono ?_; rintro e w1 ⟨rfl, hb⟩))
  refine (K0.out _).mono ?_
  rintro e w' ⟨rfl, rfl⟩
  go_wp2_with fail
  refine (K1.out _).mono ?_
  rintro e w' ⟨rfl, rfl⟩
  rcases h with ⟨rfl, rfl, rfl, rfl⟩ | ⟨rfl, hm, rfl, rfl⟩ | ⟨hk, rfl, rfl⟩ | ⟨hk, hm, rfl, rfl⟩
  · have m1 : min (0 : Int) 1 = 0 := by decide
    go_wp2_with (first
      | (go_at_call 7; refine (C.out _).mono ?_; rintro e w' ⟨rfl, rfl⟩)
      | (go_at_call 6; refine (KN.out _).mono ?_; rintro e w' ⟨rfl, rfl⟩))
    go_ret
    exact ⟨rfl, hb⟩
  · have m1 : min (0 : Int) 1 = 0 := by decide
    have m2 : min m 1 = 1 := by omega
    go_wp2_with (first
      | (go_at_call 7; refine (C.out _).mono ?_; rintro e w' ⟨rfl, rfl⟩)
      | (go_at_call 6; refine (KN.out _).mono ?_; rintro e w' ⟨rfl, rfl⟩))
    go_ret
    exact ⟨rfl, hb⟩
  · have m1 : min (0 : Int) 1 = 0 := by decide
    have m2 : min k 1 = 1 := by omega
    have hk' : ¬ k = 0 := by omega
    go_wp2_with (first
      | (go_at_call 7; refine (C.out _).mono ?_; rintro e w' ⟨rfl, rfl⟩))
    go_ret
    exact ⟨rfl, hb⟩
  · have hk' : (k == 0) = false := by simp; omega
    have hm' : (m == 0) = false := by simp; omega
    go_wp2_with fail
    refine (CN.out _).mono ?_
    rintro e w' ⟨rfl, rfl⟩
    go_wp2_with fail
    refine (D.out _).mono ?_
    rintro e w' ⟨rfl, rfl⟩
    go_wp2_with fail
    refine (KN.out _).mono ?_
    rintro e w' ⟨rfl, rfl⟩
    go_wp2_with fail
    go_ret
    exact ⟨rfl, hb⟩

theorem walk (a0 : Nat) (a1 : Nat) (w : World) (htab : Tab w ∧ Pow10T w) (w0 : (Lit.float .f64 a0).wf = true) (w1 : (Lit.float .f64 a1).wf = true) :
    Calls Tryd.prog 3 #[.float .f64 a0, .float .f64 a1] w fun e w' => e = .returned (.bool true) ∧ Below w.heap.size w w' := by
  have h0 : a0 < 18446744073709551616 := by simpa [Lit.wf] using w0
  have h1 : a1 < 18446744073709551616 := by simpa [Lit.wf] using w1
  have n0 : a0 ^^^ 9223372036854775808 < 18446744073709551616 := by rw [R.xor_top a0 h0]; exact R.neg_lt a0 h0
  have n1 : a1 ^^^ 9223372036854775808 < 18446744073709551616 := by rw [R.xor_top a1 h1]; exact R.neg_lt a1 h1
  refine core a0 a1 _ _ _ _ _ _ w (awake2_any w htab.1 htab.2) (fun x => kind_any a0 h0 x) (fun x => kind_any a1 h1 x) (fun x => kind_any _ n0 x) (fun x => cmp_any a0 a1 h0 h1 x) (fun x => cmp_any a1 a0 h1 h0 x) (fun x => cmp_any _ _ n0 n1 x) (R.kind_range _).1 (R.kind_range _).2 (R.kind_range _).1 (R.kind_range _).2 ?_
  rw [R.xor_top a0 h0, R.xor_top a1 h1]
  cases e0 : R.nan a0 with
  | true =>
    have hn : R.kind (R.neg a0) = 0 := R.kind_nan (by rw [R.nan_neg a0 h0]; exact e0)
    cases e1 : R.nan a1 with
    | true => left; exact ⟨R.kind_nan e0, R.kind_nan e1, by rw [R.rank_nan e0, R.rank_nan e1, R.cmpI_self], hn⟩
    | false =>
      have r1 := R.rank_num e1
      have k1 := R.kind_num e1
      right; left; exact ⟨R.kind_nan e0, by omega, R.cmpI_lt (by rw [R.rank_nan e0]; omega), hn⟩
  | false =>
    have r0 := R.rank_num e0
    have k0 := R.kind_num e0
    cases e1 : R.nan a1 with
    | true => right; right; left; exact ⟨by omega, R.kind_nan e1, R.cmpI_gt (by rw [R.rank_nan e1]; omega)⟩
    | false =>
      have k1 := R.kind_num e1
      right; right; right; exact ⟨by omega, by omega, by rw [R.rank_neg h0 e0, R.rank_neg h1 e1, R.cmpI_flip], R.kind_neg h0 e0⟩

end Go.Proofs.YtajpgjbdemadgabDoor.RealTurnedW
