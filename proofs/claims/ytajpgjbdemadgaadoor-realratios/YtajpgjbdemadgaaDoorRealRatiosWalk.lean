/-
  P2.3: RealRatios answers true, at every input.
-/
import Derived.Test.YtajpgjbdemadgaaDoorRQuo
import Derived.Test.YtajpgjbdemadgaaDoorRText
namespace Go.Proofs.YtajpgjbdemadgaaDoor.RealRatiosW
open Go.RowKit
set_option linter.unusedVariables false
set_option linter.unusedSimpArgs false

set_option maxHeartbeats 2000000 in
theorem core (a b q qn : Nat) (k kq : Int) (w : World)
    (A : Hid (Calls Tryd.prog 8 #[] w fun e w' => e = .returned (.bool true) ∧ Below w.heap.size w w'))
    (R0 : Hid (∀ v, Calls Tryd.prog 27 #[.float .f64 a, .float .f64 b] v fun e w' => e = .returned (.float .f64 q) ∧ Below v.heap.size v w'))
    (K : Hid (∀ v, Calls Tryd.prog 10 #[.float .f64 a] v fun e' w' => e' = .returned (.int .i64 k) ∧ w' = v))
    (KQ : Hid (∀ v, Calls Tryd.prog 10 #[.float .f64 q] v fun e' w' => e' = .returned (.int .i64 kq) ∧ w' = v))
    (RA : Hid ((k = 2 ∨ k = 5) → ∀ v, Calls Tryd.prog 27 #[.float .f64 a, .float .f64 a] v fun e w' => e = .returned (.float .f64 4607182418800017408) ∧ Below v.heap.size v w'))
    (hkq : kq ≠ 0)
    (h : Hid (Ieee.double.div a b = none ∨ (Ieee.double.div a b = some q ∧ R.nan q = false ∧
      (∀ v, Calls Tryd.prog 27 #[.float .f64 (a ^^^ 9223372036854775808), .float .f64 b] v fun e w' => e = .returned (.float .f64 qn) ∧ Below v.heap.size v w') ∧
      (∀ v, Calls Tryd.prog 27 #[.float .f64 a, .float .f64 (b ^^^ 9223372036854775808)] v fun e w' => e = .returned (.float .f64 qn) ∧ Below v.heap.size v w') ∧
      (∀ v, Calls Tryd.prog 13 #[.float .f64 qn, .float .f64 (q ^^^ 9223372036854775808)] v fun e w' => e = .returned (.bool true) ∧ w' = v)))) :
    Calls Tryd.prog 7 #[.float .f64 a, .float .f64 b] w fun e w' => e = .returned (.bool true) ∧ Below w.heap.size w w' := by
  have hkq' : (kq == 0) = false := by simpa using hkq
  clear hkq
  have o1 : FloatKind.f64.format.order 4607182418800017408 4607182418800017408 = some .eq := by kernel_rfl
  -- behind the first test
  have tail : ∀ v, Below w.heap.size w v → Hid (Below w.heap.size w v) := fun v hv => hv
  clear tail
  go_enter Tryd.func7, Tryd.ntmps7
  go_wp2_with fail
  refine A.out.mono ?_
  rintro e w1 ⟨rfl, hb⟩
  go_wp2_with fail
  refine (R0.out _).mono ?_
  rintro e w2 ⟨rfl, hb2⟩
  replace hb2 := hb.trans (hb2.mono hb.size)
  clear hb
  go_wp2_with fail
  refine (K.out _).mono ?_
  rintro e w' ⟨rfl, rfl⟩
  go_wp2_with fail
  refine (KQ.out _).mono ?_
  rintro e w' ⟨rfl, rfl⟩
  by_cases hk : k = 2 ∨ k = 5
  · have RA' := Lib.hid (RA.out hk)
    have hkk : ((k == 2) = true) ∨ ((k == 2) = false ∧ (k == 5) = true) := by
      rcases hk with rfl | rfl
      · exact .inl rfl
      · exact .inr ⟨rfl, rfl⟩
    clear RA hk
    rcases hkk with h2 | ⟨h2, h5⟩
    all_goals
      go_wp2_with fail
      refine (RA'.out _).mono ?_
      rintro e w3 ⟨rfl, hb3⟩
      replace hb3 := hb2.trans (hb3.mono hb2.size)
      clear hb2
      rcases h.out with hd | ⟨hd, hq, N1, N2, S⟩
      · have qr := run_quo_none a b hd
        have o2 := R.ord_nl (nanR a b w3) (nanR a b w3.drew) (nanR_nan a b w3)
        clear hd
        go_wp2_with fail
        go_ret
        exact ⟨rfl, hb3.drew.drew⟩
      · have qr := run_quo_some a b q hd
        have o2 : FloatKind.f64.format.order q q = some .eq := by rw [R.ord q q hq hq, Int.compare_eq_eq.2 rfl]
        have M1 := Lib.hid N1
        have M2 := Lib.hid N2
        have MS := Lib.hid S
        clear hd hq N1 N2 S
        go_wp2_with fail
        refine (M1.out _).mono ?_
        rintro e w4 ⟨rfl, hb4⟩
        replace hb4 := hb3.trans (hb4.mono hb3.size)
        clear hb3
        go_wp2_with fail
        refine (MS.out _).mono ?_
        rintro e w' ⟨rfl, rfl⟩
        go_wp2_with fail
        refine (M2.out _).mono ?_
        rintro e w5 ⟨rfl, hb5⟩
        replace hb5 := hb4.trans (hb5.mono hb4.size)
        clear hb4
        go_wp2_with fail
        refine (MS.out _).mono ?_
        rintro e w' ⟨rfl, rfl⟩
        go_wp2_with fail
        go_ret
        exact ⟨rfl, hb5⟩
  · have h2 : (k == 2) = false := by simp; omega
    have h5 : (k == 5) = false := by simp; omega
    clear RA hk
    rcases h.out with hd | ⟨hd, hq, N1, N2, S⟩
    · have qr := run_quo_none a b hd
      have o2 := R.ord_nl (nanR a b w') (nanR a b w'.drew) (nanR_nan a b w')
      clear hd
      go_wp2_with fail
      go_ret
      exact ⟨rfl, hb2.drew.drew⟩
    · have qr := run_quo_some a b q hd
      have o2 : FloatKind.f64.format.order q q = some .eq := by rw [R.ord q q hq hq, Int.compare_eq_eq.2 rfl]
      have M1 := Lib.hid N1
      have M2 := Lib.hid N2
      have MS := Lib.hid S
      clear hd hq N1 N2 S
      go_wp2_with fail
      refine (M1.out _).mono ?_
      rintro e w4 ⟨rfl, hb4⟩
      replace hb4 := hb2.trans (hb4.mono hb2.size)
      clear hb2
      go_wp2_with fail
      refine (MS.out _).mono ?_
      rintro e w' ⟨rfl, rfl⟩
      go_wp2_with fail
      refine (M2.out _).mono ?_
      rintro e w5 ⟨rfl, hb5⟩
      replace hb5 := hb4.trans (hb5.mono hb4.size)
      clear hb4
      go_wp2_with fail
      refine (MS.out _).mono ?_
      rintro e w' ⟨rfl, rfl⟩
      go_wp2_with fail
      go_ret
      exact ⟨rfl, hb5⟩

theorem walk (a0 : Nat) (a1 : Nat) (w : World) (htab : Tab w ∧ Pow10T w) (w0 : (Lit.float .f64 a0).wf = true) (w1 : (Lit.float .f64 a1).wf = true) :
    Calls Tryd.prog 7 #[.float .f64 a0, .float .f64 a1] w fun e w' => e = .returned (.bool true) ∧ Below w.heap.size w w' := by
  have h0 : a0 < 18446744073709551616 := by simpa [Lit.wf] using w0
  have h1 : a1 < 18446744073709551616 := by simpa [Lit.wf] using w1
  have hql : R.qv a0 a1 < 18446744073709551616 := by
    unfold R.qv
    cases h : Ieee.double.div a0 a1 with
    | none => decide
    | some r => have := Ieee.double.div_lt h; rw [show Ieee.double.width = 64 from rfl] at this; simpa using this
  have hqn : R.nan (R.qv a0 a1) = false := by
    unfold R.qv
    cases h : Ieee.double.div a0 a1 with
    | none => decide
    | some r => exact R.div_num h
  refine core a0 a1 (R.qv a0 a1) (R.neg (R.qv a0 a1)) (R.kind a0) (R.kind (R.qv a0 a1)) w (awake2_any w htab.1 htab.2) (fun v => ratio_any a0 a1 v) (fun v => kind_any a0 h0 v) (fun v => kind_any _ hql v) ?_ (by have := R.kind_num hqn; omega) ?_
  · intro hk v
    have hr := ratio_any a0 a0 v
    have hd : Ieee.double.div a0 a0 = some 4607182418800017408 := by
      have hkk : R.nan a0 = false ∧ R.v a0 ≠ 0 ∧ R.v a0 ≠ 9218868437227405312 ∧ R.v a0 ≠ -9218868437227405312 := by
        unfold R.kind at hk
        cases hn : R.nan a0 with
        | true => simp [hn] at hk
        | false =>
          simp [hn] at hk
          refine ⟨rfl, ?_, ?_, ?_⟩ <;> intro e <;> simp [e] at hk <;> (split at hk <;> simp at hk)
      obtain ⟨hn, hv, hi, hj⟩ := hkk
      have hrn := R.nan_false hn
      exact R.div_self a0 (by unfold R.v at hv; split at hv <;> omega) (by unfold R.v at hi hj; split at hi <;> simp_all <;> omega)
    unfold R.qv at hr
    rw [hd] at hr
    exact hr
  · cases hd : Ieee.double.div a0 a1 with
    | none => exact .inl rfl
    | some r =>
      have hq : R.qv a0 a1 = r := by unfold R.qv; rw [hd]; rfl
      rw [hq] at hql hqn ⊢
      refine .inr ⟨rfl, hqn, ?_, ?_, ?_⟩
      · intro v
        have := ratio_any (R.neg a0) a1 v
        unfold R.qv at this
        rw [R.div_neg_left h0 hd] at this
        rw [R.xor_top a0 h0]; exact this
      · intro v
        have := ratio_any a0 (R.neg a1) v
        unfold R.qv at this
        rw [R.div_neg_right h1 hd] at this
        rw [R.xor_top a1 h1]; exact this
      · intro v
        have := same_any (R.neg r) (R.neg r) (R.neg_lt r hql) (R.neg_lt r hql) v
        rw [R.cmpI_self] at this
        rw [R.xor_top r hql]; exact this

end Go.Proofs.YtajpgjbdemadgaaDoor.RealRatiosW
