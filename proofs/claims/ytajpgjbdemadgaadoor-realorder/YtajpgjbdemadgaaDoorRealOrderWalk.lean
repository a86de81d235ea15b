/-
  P2.1: RealOrder answers true, at every input.
-/
import Derived.Test.YtajpgjbdemadgaaDoorRRef
import Derived.Test.YtajpgjbdemadgaaDoorRText
namespace Go.Proofs.YtajpgjbdemadgaaDoor.RealOrderW
open Go.RowKit
set_option linter.unusedVariables false
set_option linter.unusedSimpArgs false

set_option maxHeartbeats 1000000 in
theorem core (a b c : Nat) (k x y z n : Int) (w : World)
    (A : Hid (Calls Tryd.prog 8 #[] w fun e w' => e = .returned (.bool true) ∧ Below w.heap.size w w'))
    (C0 : Hid (∀ q, Calls Tryd.prog 9 #[.float .f64 a, .float .f64 b] q fun e' w' => e' = .returned (.int .i64 x) ∧ w' = q))
    (C1 : Hid (∀ q, Calls Tryd.prog 9 #[.float .f64 b, .float .f64 c] q fun e' w' => e' = .returned (.int .i64 y) ∧ w' = q))
    (C2 : Hid (∀ q, Calls Tryd.prog 9 #[.float .f64 a, .float .f64 c] q fun e' w' => e' = .returned (.int .i64 z) ∧ w' = q))
    (C3 : Hid (∀ q, Calls Tryd.prog 9 #[.float .f64 b, .float .f64 a] q fun e' w' => e' = .returned (.int .i64 n) ∧ w' = q))
    (C4 : Hid (∀ q, Calls Tryd.prog 9 #[.float .f64 a, .float .f64 a] q fun e' w' => e' = .returned (.int .i64 0) ∧ w' = q))
    (K : Hid (∀ q, Calls Tryd.prog 10 #[.float .f64 a] q fun e' w' => e' = .returned (.int .i64 k) ∧ w' = q))
    (RK : Hid (∀ q, Calls Tryd.prog 11 #[.float .f64 a] q fun e' w' => e' = .returned (.int .i64 k) ∧ w' = q))
    (RC : Hid (∀ q, Calls Tryd.prog 12 #[.float .f64 a, .float .f64 b] q fun e' w' => e' = .returned (.int .i64 x) ∧ w' = q))
    (S : Hid (∀ q, Calls Tryd.prog 13 #[.float .f64 a, .float .f64 b] q fun e' w' => e' = .returned (.bool (x == 0)) ∧ w' = q))
    (hn0 : -1 ≤ n) (hn1 : n ≤ 1) (hx : x = -n) (h : 0 < x ∨ 0 < y ∨ z ≤ 0) :
    Calls Tryd.prog 3 #[.float .f64 a, .float .f64 b, .float .f64 c] w fun e w' => e = .returned (.bool true) ∧ Below w.heap.size w w' := by
  subst hx
  go_enter Tryd.func3, Tryd.ntmps3
  go_wp2_with fail
  refine A.out.mono ?_
  rintro e w1 ⟨rfl, hb⟩
  go_wp2_with fail
  refine (C0.out _).mono ?_
  rintro e w' ⟨rfl, rfl⟩
  go_wp2_with fail
  refine (C1.out _).mono ?_
  rintro e w' ⟨rfl, rfl⟩
  go_wp2_with fail
  refine (C2.out _).mono ?_
  rintro e w' ⟨rfl, rfl⟩
  go_wp2_with fail
  refine (K.out _).mono ?_
  rintro e w' ⟨rfl, rfl⟩
  go_wp2_with fail
  refine (RK.out _).mono ?_
  rintro e w' ⟨rfl, rfl⟩
  go_wp2_with fail
  refine (RC.out _).mono ?_
  rintro e w' ⟨rfl, rfl⟩
  go_wp2_with fail
  refine (S.out _).mono ?_
  rintro e w' ⟨rfl, rfl⟩
  go_wp2_with fail
  refine (C3.out _).mono ?_
  rintro e w' ⟨rfl, rfl⟩
  by_cases h1 : 0 < -n
  · go_wp2_with fail
    refine (C4.out _).mono ?_
    rintro e w' ⟨rfl, rfl⟩
    go_wp2_with fail
    go_ret
    exact ⟨rfl, hb⟩
  · by_cases h2 : 0 < y
    · go_wp2_with fail
      refine (C4.out _).mono ?_
      rintro e w' ⟨rfl, rfl⟩
      go_wp2_with fail
      go_ret
      exact ⟨rfl, hb⟩
    · have h3 : z ≤ 0 := by omega
      clear h
      go_wp2_with fail
      refine (C4.out _).mono ?_
      rintro e w' ⟨rfl, rfl⟩
      go_wp2_with fail
      go_ret
      exact ⟨rfl, hb⟩

theorem walk (a0 a1 a2 : Nat) (w : World) (htab : Tab w ∧ Pow10T w) (w0 : (Lit.float .f64 a0).wf = true) (w1 : (Lit.float .f64 a1).wf = true) (w2 : (Lit.float .f64 a2).wf = true) :
    Calls Tryd.prog 3 #[.float .f64 a0, .float .f64 a1, .float .f64 a2] w fun e w' => e = .returned (.bool true) ∧ Below w.heap.size w w' := by
  have h0 : a0 < 18446744073709551616 := by simpa [Lit.wf] using w0
  have h1 : a1 < 18446744073709551616 := by simpa [Lit.wf] using w1
  have h2 : a2 < 18446744073709551616 := by simpa [Lit.wf] using w2
  have hs := fun q => cmp_any a0 a0 h0 h0 q
  rw [R.cmpI_self] at hs
  refine core a0 a1 a2 _ _ _ _ _ w (awake2_any w htab.1 htab.2) (fun q => cmp_any a0 a1 h0 h1 q) (fun q => cmp_any a1 a2 h1 h2 q) (fun q => cmp_any a0 a2 h0 h2 q) (fun q => cmp_any a1 a0 h1 h0 q) hs (fun q => kind_any a0 h0 q) (fun q => refKind_any a0 h0 q) (fun q => refCmp_any a0 a1 h0 h1 q) (fun q => same_any a0 a1 h0 h1 q) (R.cmpI_range _ _).1 (R.cmpI_range _ _).2 (R.cmpI_swap _ _) ?_
  rw [R.cmpI_pos, R.cmpI_pos]
  by_cases e : R.rank a1 < R.rank a0
  · exact .inl e
  · by_cases f : R.rank a2 < R.rank a1
    · exact .inr (.inl f)
    · right; right
      have := R.cmpI_pos (R.rank a0) (R.rank a2)
      omega

end Go.Proofs.YtajpgjbdemadgaaDoor.RealOrderW
