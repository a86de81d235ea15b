/-
  P2.3: RealHeld answers true, at every input.
-/
import Derived.Test.YtajpgjbdemadgaaDoorRFar
import Derived.Test.YtajpgjbdemadgaaDoorRText
namespace Go.Proofs.YtajpgjbdemadgaaDoor.RealHeldW
open Go.RowKit
set_option linter.unusedVariables false
set_option linter.unusedSimpArgs false

theorem fl_below {w v : World} {a : Option Addr} {len cap : Nat} {zs : List Nat} (h : IsFl w a len cap zs) (hb : Below w.heap.size w v) : IsFl v a len cap zs := by
  rcases h with h | ⟨x, h1, h2, h3, h4, h5, h6⟩
  · exact .inl h
  · refine .inr ⟨x, h1, h2, h3, h4, fun i hi => ?_, h6⟩
    have := h5 i hi
    rw [hb.cell (World.block_lt_of_cell? _ _ this)]; exact this

theorem fl_two (w : World) (x : Nat) (hx : x < 18446744073709551616) (T : TypeId) : IsFl (w.alloc (.cells #[.float .f64 x, .float .f64 x] T)) (some ⟨w.heap.size, 0, none⟩) 2 2 [x, x] := by
  refine .inr ⟨_, rfl, Nat.le_refl _, by decide, rfl, fun i hi => ?_, fun n hn => ?_⟩
  · match i, hi with
    | 0, _ => simp [Addr.add]
    | 1, _ => simp [Addr.add]
  · simp at hn; omega

set_option maxHeartbeats 4000000 in
set_option maxRecDepth 10000 in
theorem core (x low high : Nat) (a : Option Addr) (len cap : Nat) (zs : List Nat) (h h2 : Nat) (c0 c1 c2 c3 c4 : Int) (b1 : Bool) (w : World)
    (A : Hid (Calls Tryd.prog 8 #[] w fun e w' => e = .returned (.bool true) ∧ Below w.heap.size w w'))
    (C0 : Hid (∀ v, Calls Tryd.prog 9 #[.float .f64 low, .float .f64 high] v fun e w' => e = .returned (.int .i64 c0) ∧ w' = v))
    (HX : Hid (∀ v, Calls Tryd.prog 24 #[.float .f64 x, .float .f64 low, .float .f64 high] v fun e w' => e = .returned (.float .f64 h) ∧ w' = v))
    (C1 : Hid (∀ v, Calls Tryd.prog 9 #[.float .f64 low, .float .f64 h] v fun e w' => e = .returned (.int .i64 c1) ∧ w' = v))
    (C2 : Hid (∀ v, Calls Tryd.prog 9 #[.float .f64 h, .float .f64 high] v fun e w' => e = .returned (.int .i64 c2) ∧ w' = v))
    (C3 : Hid (∀ v, Calls Tryd.prog 9 #[.float .f64 x, .float .f64 low] v fun e w' => e = .returned (.int .i64 c3) ∧ w' = v))
    (C4 : Hid (∀ v, Calls Tryd.prog 9 #[.float .f64 x, .float .f64 high] v fun e w' => e = .returned (.int .i64 c4) ∧ w' = v))
    (S1 : Hid (∀ v, Calls Tryd.prog 13 #[.float .f64 h, .float .f64 x] v fun e w' => e = .returned (.bool b1) ∧ w' = v))
    (L : Hid (∀ v, Below w.heap.size w v → Calls Tryd.prog 22 #[.slice a len cap] v fun e w' => ∃ m, e = .returned (.float .f64 m) ∧ w' = v ∧ Ext (-1) zs m))
    (M : Hid (∀ v, Below w.heap.size w v → Calls Tryd.prog 23 #[.slice a len cap] v fun e w' => ∃ m, e = .returned (.float .f64 m) ∧ w' = v ∧ Ext 1 zs m))
    (PQ : Hid (∀ p q, Ext (-1) zs p → Ext 1 zs q → ∀ v, Calls Tryd.prog 9 #[.float .f64 p, .float .f64 q] v fun e w' => ∃ c : Int, e = .returned (.int .i64 c) ∧ c ≤ 0 ∧ w' = v))
    (H2 : Hid (∀ v, Calls Tryd.prog 24 #[.float .f64 h, .float .f64 low, .float .f64 high] v fun e w' => e = .returned (.float .f64 h2) ∧ w' = v))
    (S2 : Hid (c0 ≤ 0 → ∀ v, Calls Tryd.prog 13 #[.float .f64 h2, .float .f64 h] v fun e w' => e = .returned (.bool true) ∧ w' = v))
    (LX : Hid (∀ v : World, Calls Tryd.prog 22 #[.slice (some ⟨v.heap.size, 0, none⟩) 2 2] (v.alloc (.cells #[.float .f64 x, .float .f64 x] 22)) fun e w' => e = .returned (.float .f64 x) ∧ w' = v.alloc (.cells #[.float .f64 x, .float .f64 x] 22)))
    (S3 : Hid (∀ v, Calls Tryd.prog 13 #[.float .f64 x, .float .f64 x] v fun e w' => e = .returned (.bool true) ∧ w' = v))
    (hc : Hid (c0 ≤ 0 → c1 ≤ 0 ∧ c2 ≤ 0 ∧ (c3 < 0 ∨ 0 < c4 ∨ b1 = true))) :
    Calls Tryd.prog 6 #[.float .f64 x, .float .f64 low, .float .f64 high, .slice a len cap] w fun e w' => e = .returned (.bool true) ∧ Below w.heap.size w w' := by
  by_cases hl : (50 : Int) < (len : Int)
  · go_enter Tryd.func6, Tryd.ntmps6
    go_wp2_with fail
    refine A.out.mono ?_
    rintro e w1 ⟨rfl, hb⟩
    go_wp2_with fail
    go_ret
    exact ⟨rfl, hb⟩
  by_cases h0 : 0 < c0
  · go_enter Tryd.func6, Tryd.ntmps6
    go_wp2_with fail
    refine A.out.mono ?_
    rintro e w1 ⟨rfl, hb⟩
    go_wp2_with fail
    refine (C0.out _).mono ?_
    rintro e w' ⟨rfl, rfl⟩
    go_wp2_with fail
    go_ret
    exact ⟨rfl, hb⟩
  obtain ⟨g1, g2, g3⟩ := hc.out (by omega)
  have G3 := Lib.hid g3
  clear hc g3
  go_enter Tryd.func6, Tryd.ntmps6
  go_wp2_with fail
  refine A.out.mono ?_
  rintro e w1 ⟨rfl, hb⟩
  go_wp2_with fail
  refine (C0.out _).mono ?_
  rintro e w' ⟨rfl, rfl⟩
  go_wp2_with fail
  refine (HX.out _).mono ?_
  rintro e w' ⟨rfl, rfl⟩
  go_wp2_with fail
  refine (C1.out _).mono ?_
  rintro e w' ⟨rfl, rfl⟩
  go_wp2_with fail
  refine (C2.out _).mono ?_
  rintro e w' ⟨rfl, rfl⟩
  go_wp2_with fail
  refine (C3.out _).mono ?_
  rintro e w' ⟨rfl, rfl⟩
  have fin : True := trivial
  by_cases k1 : c3 < 0
  · go_wp2_with fail
    refine (L.out _ hb).mono ?_
    rintro e w' ⟨p, rfl, rfl, hp⟩
    have Hp := Lib.hid hp
    clear hp
    go_wp2_with fail
    refine (M.out _ hb).mono ?_
    rintro e w' ⟨q, rfl, rfl, hq⟩
    have Hq := Lib.hid hq
    clear hq
    go_wp2_with fail
    refine (H2.out _).mono ?_
    rintro e w' ⟨rfl, rfl⟩
    go_wp2_with fail
    refine (S2.out (by omega) _).mono ?_
    rintro e w' ⟨rfl, rfl⟩
    go_wp2_with fail
    refine (PQ.out p q Hp.out Hq.out _).mono ?_
    rintro e w' ⟨c, rfl, hcc, rfl⟩
    go_wp2_with fail
    refine (LX.out _).mono ?_
    rintro e w' ⟨rfl, rfl⟩
    go_wp2_with fail
    refine (S3.out _).mono ?_
    rintro e w' ⟨rfl, rfl⟩
    go_wp2_with fail
    go_ret
    exact ⟨rfl, hb.alloc hb.size _⟩
  · go_wp2_with fail
    refine (C4.out _).mono ?_
    rintro e w' ⟨rfl, rfl⟩
    by_cases k2 : 0 < c4
    · go_wp2_with fail
      refine (L.out _ hb).mono ?_
      rintro e w' ⟨p, rfl, rfl, hp⟩
      have Hp := Lib.hid hp
      clear hp
      go_wp2_with fail
      refine (M.out _ hb).mono ?_
      rintro e w' ⟨q, rfl, rfl, hq⟩
      have Hq := Lib.hid hq
      clear hq
      go_wp2_with fail
      refine (H2.out _).mono ?_
      rintro e w' ⟨rfl, rfl⟩
      go_wp2_with fail
      refine (S2.out (by omega) _).mono ?_
      rintro e w' ⟨rfl, rfl⟩
      go_wp2_with fail
      refine (PQ.out p q Hp.out Hq.out _).mono ?_
      rintro e w' ⟨c, rfl, hcc, rfl⟩
      go_wp2_with fail
      refine (LX.out _).mono ?_
      rintro e w' ⟨rfl, rfl⟩
      go_wp2_with fail
      refine (S3.out _).mono ?_
      rintro e w' ⟨rfl, rfl⟩
      go_wp2_with fail
      go_ret
      exact ⟨rfl, hb.alloc hb.size _⟩
    · obtain rfl : b1 = true := by
        rcases G3.out with h | h | h
        · omega
        · omega
        · exact h
      go_wp2_with fail
      refine (S1.out _).mono ?_
      rintro e w' ⟨rfl, rfl⟩
      go_wp2_with fail
      refine (L.out _ hb).mono ?_
      rintro e w' ⟨p, rfl, rfl, hp⟩
      have Hp := Lib.hid hp
      clear hp
      go_wp2_with fail
      refine (M.out _ hb).mono ?_
      rintro e w' ⟨q, rfl, rfl, hq⟩
      have Hq := Lib.hid hq
      clear hq
      go_wp2_with fail
      refine (H2.out _).mono ?_
      rintro e w' ⟨rfl, rfl⟩
      go_wp2_with fail
      refine (S2.out (by omega) _).mono ?_
      rintro e w' ⟨rfl, rfl⟩
      go_wp2_with fail
      refine (PQ.out p q Hp.out Hq.out _).mono ?_
      rintro e w' ⟨c, rfl, hcc, rfl⟩
      go_wp2_with fail
      refine (LX.out _).mono ?_
      rintro e w' ⟨rfl, rfl⟩
      go_wp2_with fail
      refine (S3.out _).mono ?_
      rintro e w' ⟨rfl, rfl⟩
      go_wp2_with fail
      go_ret
      exact ⟨rfl, hb.alloc hb.size _⟩

theorem walk (a0 a1 a2 : Nat) (a3 : Option Addr) (len3 cap3 : Nat) (z3 : List Nat) (w : World) (htab : Tab w ∧ Pow10T w) (w0 : (Lit.float .f64 a0).wf = true) (w1 : (Lit.float .f64 a1).wf = true) (w2 : (Lit.float .f64 a2).wf = true) (w3 : IsFl w a3 len3 cap3 z3) :
    Calls Tryd.prog 6 #[.float .f64 a0, .float .f64 a1, .float .f64 a2, .slice a3 len3 cap3] w fun e w' => e = .returned (.bool true) ∧ Below w.heap.size w w' := by
  have h0 : a0 < 18446744073709551616 := by simpa [Lit.wf] using w0
  have h1 : a1 < 18446744073709551616 := by simpa [Lit.wf] using w1
  have h2 : a2 < 18446744073709551616 := by simpa [Lit.wf] using w2
  have hv : ∀ y, y < 18446744073709551616 → holdV y a1 a2 < 18446744073709551616 := fun y hy => by
    unfold holdV
    split
    · exact h1
    · split
      · exact h2
      · exact hy
  have hh := hv a0 h0
  have hh2 := hv _ hh
  have S3 := fun v => same_any a0 a0 h0 h0 v
  rw [R.cmpI_self] at S3
  have inside : R.rank a1 ≤ R.rank a2 → R.rank a1 ≤ R.rank (holdV a0 a1 a2) ∧ R.rank (holdV a0 a1 a2) ≤ R.rank a2 ∧ (R.rank a0 < R.rank a1 ∨ R.rank a2 < R.rank a0 ∨ holdV a0 a1 a2 = a0) := fun hord => by
    unfold holdV
    split
    · next h => exact ⟨by omega, by omega, .inl h⟩
    · split
      · next h => exact ⟨by omega, by omega, .inr (.inl h)⟩
      · exact ⟨by omega, by omega, .inr (.inr rfl)⟩
  have le0 : ∀ a b, R.cmpI a b ≤ 0 ↔ a ≤ b := fun a b => by have := R.cmpI_pos a b; omega
  refine core a0 a1 a2 a3 len3 cap3 z3 (holdV a0 a1 a2) (holdV (holdV a0 a1 a2) a1 a2) _ _ _ _ _ _ w (awake2_any w htab.1 htab.2) (fun v => cmp_any a1 a2 h1 h2 v) (fun v => hold_any a0 a1 a2 h0 h1 h2 v) (fun v => cmp_any a1 _ h1 hh v) (fun v => cmp_any _ a2 hh h2 v) (fun v => cmp_any a0 a1 h0 h1 v) (fun v => cmp_any a0 a2 h0 h2 v) (fun v => same_any _ a0 hh h0 v)
    (fun v hv => least_fl a3 len3 cap3 z3 v (fl_below w3 hv)) (fun v hv => most_fl a3 len3 cap3 z3 v (fl_below w3 hv)) ?_ (fun v => hold_any _ a1 a2 hh h1 h2 v) ?_ ?_ S3 ?_
  · intro p q hp hq v
    refine (cmp_any p q hp.1 hq.1 v).mono ?_
    rintro e w' ⟨rfl, rfl⟩
    refine ⟨_, rfl, ?_, rfl⟩
    by_cases hz : z3 = []
    · rw [hp.2.1 hz, hq.2.1 hz, R.cmpI_self]; decide
    · have h3 := hq.2.2.2 p (hp.2.2.1 hz)
      have := R.cmpI_range (R.rank p) (R.rank q)
      omega
  · intro hc v
    have hi := inside ((le0 _ _).1 hc)
    have hsame : holdV (holdV a0 a1 a2) a1 a2 = holdV a0 a1 a2 := by
      have e : ∀ y, R.rank a1 ≤ R.rank y → R.rank y ≤ R.rank a2 → holdV y a1 a2 = y := fun y p q => by unfold holdV; rw [if_neg (by omega), if_neg (by omega)]
      exact e _ hi.1 hi.2.1
    rw [hsame]
    have := same_any (holdV a0 a1 a2) (holdV a0 a1 a2) hh hh v
    rw [R.cmpI_self] at this
    exact this
  · intro v
    refine (least_fl (some ⟨v.heap.size, 0, none⟩) 2 2 [a0, a0] _ (fl_two v a0 h0 _)).mono ?_
    rintro e w' ⟨m, rfl, rfl, hm⟩
    have := hm.2.2.1 (by simp)
    simp at this
    rw [this]
    exact ⟨rfl, rfl⟩
  · intro hc
    have hi := inside ((le0 _ _).1 hc)
    refine ⟨(le0 _ _).2 hi.1, (le0 _ _).2 hi.2.1, ?_⟩
    rw [R.cmpI_neg, R.cmpI_pos]
    rcases hi.2.2 with h | h | h
    · exact .inl h
    · exact .inr (.inl h)
    · right; right; rw [h, R.cmpI_self]; rfl

end Go.Proofs.YtajpgjbdemadgaaDoor.RealHeldW
