/-
  Layer 2: what real.Least, real.Most and real.Hold come to.
-/
import Derived.Test.YtajpgjbdemadgaaDoorRRef
import Derived.Test.YtajpgjbdemadgaaDoorROf
namespace Go.Proofs.YtajpgjbdemadgaaDoor
open Go.RowKit
set_option linter.unusedVariables false
set_option linter.unusedSimpArgs false

/-- A slice of floats, as it came in. -/
def IsFl (w : World) (a : Option Addr) (len cap : Nat) (zs : List Nat) : Prop :=
  (a = none ∧ len = 0 ∧ cap = 0 ∧ zs = []) ∨
  ∃ x : Addr, a = some x ∧ len ≤ cap ∧ cap ≤ maxLen ∧ zs.length = len ∧ (∀ i, i < len → w.cell? (x.add i) = some (.float .f64 (zs.getD i 0))) ∧ ∀ n ∈ zs, n < 18446744073709551616

/-- No number of the first k stands on that side of m. -/
def Far (side : Int) (zs : List Nat) (k m : Nat) : Prop := ∀ j, j < k → R.cmpI (R.rank (zs.getD j 0)) (R.rank m) ≠ side

theorem far_keep {side : Int} {zs : List Nat} {k m : Nat} (h : Far side zs k m) (hk : R.cmpI (R.rank (zs.getD k 0)) (R.rank m) ≠ side) : Far side zs (k + 1) m := fun j hj => by
  by_cases e : j = k
  · subst e; exact hk
  · exact h j (by omega)
theorem far_take {side : Int} (hs : side = 1 ∨ side = -1) {zs : List Nat} {k m : Nat} (h : Far side zs k m) (hk : R.cmpI (R.rank (zs.getD k 0)) (R.rank m) = side) : Far side zs (k + 1) (zs.getD k 0) := fun j hj => by
  by_cases e : j = k
  · subst e; rw [R.cmpI_self]; rcases hs with rfl | rfl <;> decide
  · have := h j (by omega)
    generalize R.rank (zs.getD j 0) = a at *
    generalize R.rank (zs.getD k 0) = b at *
    generalize R.rank m = c at *
    unfold R.cmpI at *
    rcases hs with rfl | rfl
    · split at hk
      · omega
      · split at hk
        · repeat' split
          all_goals (try omega)
        · omega
    · split at hk
      · repeat' split
        all_goals (try omega)
      · split at hk <;> omega

set_option maxHeartbeats 1000000 in
theorem furthest_any (side : Int) (hs : side = 1 ∨ side = -1) (x : Addr) (len cap : Nat) (zs : List Nat) (h0 : 0 < len) (hl : zs.length = len) (hm : len ≤ maxLen) (w : World)
    (hc : ∀ i, i < len → w.cell? (x.add i) = some (.float .f64 (zs.getD i 0))) (hw : ∀ n ∈ zs, n < 18446744073709551616) :
    Calls Tryd.prog 41 #[.int .i64 side, .slice (some x) len cap] w fun e w' => ∃ m, e = .returned (.float .f64 m) ∧ w' = w ∧ m ∈ zs ∧ Far side zs len m := by
  have hc0 := hc 0 h0
  rw [Addr.add_zero'] at hc0
  have h0' : (0 : Int) < (len : Int) := by omega
  have hmem : ∀ i, i < len → zs.getD i 0 ∈ zs := fun i hi => by
    rw [List.getD_eq_getElem?_getD, List.getElem?_eq_getElem (by omega)]; exact List.getElem_mem _
  have HC := Lib.hid hc
  have HW := Lib.hid hw
  have HM := Lib.hid hmem
  have hm' : (len : Int) ≤ 9223372036854775807 := by unfold maxLen at hm; omega
  have hne : ((len : Int) == 0) = false := by simp; omega
  clear hc hw hmem hm hl
  go_enter Tryd.func41, Tryd.ntmps41
  go_wp2_with fail
  go_loop [5, 16] (fun fv iv => ∃ (m k : Nat), fv = .float .f64 m ∧ iv = .int .i64 k ∧ k ≤ len ∧ m ∈ zs ∧ Hid (Far side zs k m)) (fun _ iv => len - (intOf iv).toNat)
  case atStart => exact ⟨_, 0, rfl, rfl, Nat.zero_le _, HM.out 0 h0, fun j hj => by omega⟩
  case round =>
    obtain ⟨m, k, rfl, rfl, hk, hmz, hF⟩ := hrel
    by_cases hlt : k < len
    · have hck := HC.out k hlt
      have C := Lib.hid fun v => cmp_any (zs.getD k 0) m (HW.out _ (HM.out k hlt)) (HW.out _ hmz) v
      have hzk := HM.out k hlt
      generalize hz : zs.getD k 0 = z at *
      have HZ := Lib.hid hz
      clear hz
      by_cases hd : R.cmpI (R.rank z) (R.rank m) = side
      · have HD := Lib.hid hd
        rw [hd] at C
        clear hd
        go_wp2_with fail
        refine (C.out _).mono ?_
        rintro e w' ⟨rfl, rfl⟩
        go_wp2_with fail
        go_round
        case rel => exact ⟨z, k + 1, rfl, by go_num, by omega, hzk, by have := far_take hs hF.out (by rw [HZ.out]; exact HD.out); rw [HZ.out] at this; exact this⟩
        case measure => simp [intOf]; omega
      · have HD := Lib.hid hd
        have hd' : (R.cmpI (R.rank z) (R.rank m) == side) = false := by simpa using hd
        clear hd
        go_wp2_with fail
        refine (C.out _).mono ?_
        rintro e w' ⟨rfl, rfl⟩
        go_wp2_with fail
        go_round
        case rel => exact ⟨m, k + 1, rfl, by go_num, by omega, hmz, far_keep hF.out (by rw [HZ.out]; exact HD.out)⟩
        case measure => simp [intOf]; omega
    · obtain rfl : k = len := by omega
      go_wp2_with fail
      go_ret
      exact ⟨m, rfl, rfl, hmz, hF.out⟩

theorem furthest_none (side : Int) (a : Option Addr) (cap : Nat) (w : World) :
    Calls Tryd.prog 41 #[.int .i64 side, .slice a 0 cap] w fun e w' => e = .returned (.float .f64 9221120237041090561) ∧ w' = w := by
  have N := Lib.hid nanF
  go_enter Tryd.func41, Tryd.ntmps41
  go_wp2_with fail
  refine (N.out _).mono ?_
  rintro e w' ⟨rfl, rfl⟩
  go_wp2_with fail
  go_ret
  exact ⟨rfl, rfl⟩

/-- What the first, and the last, of some numbers is. -/
def Ext (side : Int) (zs : List Nat) (m : Nat) : Prop := m < 18446744073709551616 ∧ (zs = [] → m = 9221120237041090561) ∧ (zs ≠ [] → m ∈ zs) ∧ ∀ z ∈ zs, R.cmpI (R.rank z) (R.rank m) ≠ side

theorem furthest_fl (side : Int) (hs : side = 1 ∨ side = -1) (a : Option Addr) (len cap : Nat) (zs : List Nat) (w : World) (h : IsFl w a len cap zs) :
    Calls Tryd.prog 41 #[.int .i64 side, .slice a len cap] w fun e w' => ∃ m, e = .returned (.float .f64 m) ∧ w' = w ∧ Ext side zs m := by
  have none : len = 0 → zs = [] → Calls Tryd.prog 41 #[.int .i64 side, .slice a len cap] w fun e w' => ∃ m, e = .returned (.float .f64 m) ∧ w' = w ∧ Ext side zs m := fun h0 hz => by
    subst h0 hz
    refine (furthest_none side a cap w).mono ?_
    rintro e w' ⟨rfl, rfl⟩
    exact ⟨_, rfl, rfl, by decide, fun _ => rfl, fun h => absurd rfl h, fun z hz => by cases hz⟩
  rcases h with ⟨rfl, rfl, rfl, rfl⟩ | ⟨x, rfl, h1, h2, h3, h4, h5⟩
  · exact none rfl rfl
  · by_cases h0 : len = 0
    · exact none h0 (List.length_eq_zero_iff.1 (by omega))
    · refine (furthest_any side hs x len cap zs (by omega) h3 (by omega) w h4 h5).mono ?_
      rintro e w' ⟨m, rfl, rfl, hm, hF⟩
      refine ⟨m, rfl, rfl, h5 m hm, fun e => (by rw [e] at h3; simp at h3; omega), fun _ => hm, fun z hz => ?_⟩
      obtain ⟨j, hj⟩ := List.getElem?_of_mem hz
      have hjl := (List.getElem?_eq_some_iff.1 hj).1
      have := hF j (by omega)
      rwa [List.getD_eq_getElem?_getD, hj] at this

theorem least_fl (a : Option Addr) (len cap : Nat) (zs : List Nat) (w : World) (h : IsFl w a len cap zs) :
    Calls Tryd.prog 22 #[.slice a len cap] w fun e w' => ∃ m, e = .returned (.float .f64 m) ∧ w' = w ∧ Ext (-1) zs m := by
  have F := Lib.hid (furthest_fl (-1) (.inr rfl) a len cap zs w h)
  clear h
  go_enter Tryd.func22, Tryd.ntmps22
  go_wp2_with fail
  refine F.out.mono ?_
  rintro e w' ⟨m, rfl, rfl, hm⟩
  have HM := Lib.hid hm
  clear hm
  go_wp2_with fail
  go_ret
  exact ⟨m, rfl, rfl, HM.out⟩
theorem most_fl (a : Option Addr) (len cap : Nat) (zs : List Nat) (w : World) (h : IsFl w a len cap zs) :
    Calls Tryd.prog 23 #[.slice a len cap] w fun e w' => ∃ m, e = .returned (.float .f64 m) ∧ w' = w ∧ Ext 1 zs m := by
  have F := Lib.hid (furthest_fl 1 (.inl rfl) a len cap zs w h)
  clear h
  go_enter Tryd.func23, Tryd.ntmps23
  go_wp2_with fail
  refine F.out.mono ?_
  rintro e w' ⟨m, rfl, rfl, hm⟩
  have HM := Lib.hid hm
  clear hm
  go_wp2_with fail
  go_ret
  exact ⟨m, rfl, rfl, HM.out⟩

/-- A number held between two. -/
def holdV (x low high : Nat) : Nat := if R.rank x < R.rank low then low else if R.rank high < R.rank x then high else x
theorem hold_any (x low high : Nat) (hx : x < 18446744073709551616) (hl : low < 18446744073709551616) (hh : high < 18446744073709551616) (w : World) :
    Calls Tryd.prog 24 #[.float .f64 x, .float .f64 low, .float .f64 high] w fun e w' => e = .returned (.float .f64 (holdV x low high)) ∧ w' = w := by
  have C1 := Lib.hid fun v => cmp_any x low hx hl v
  have C2 := Lib.hid fun v => cmp_any x high hx hh v
  unfold holdV
  by_cases h1 : R.rank x < R.rank low
  · rw [if_pos h1]
    rw [R.cmpI_lt h1] at C1
    clear h1
    go_enter Tryd.func24, Tryd.ntmps24
    go_wp2_with fail
    refine (C1.out _).mono ?_
    rintro e w' ⟨rfl, rfl⟩
    go_wp2_with fail
    go_ret
    exact ⟨rfl, rfl⟩
  · rw [if_neg h1]
    have c1 : ¬ R.cmpI (R.rank x) (R.rank low) < 0 := by rw [R.cmpI_neg]; exact h1
    by_cases h2 : R.rank high < R.rank x
    · rw [if_pos h2]
      rw [R.cmpI_gt h2] at C2
      clear h1 h2
      go_enter Tryd.func24, Tryd.ntmps24
      go_wp2_with fail
      refine (C1.out _).mono ?_
      rintro e w' ⟨rfl, rfl⟩
      go_wp2_with fail
      refine (C2.out _).mono ?_
      rintro e w' ⟨rfl, rfl⟩
      go_wp2_with fail
      go_ret
      exact ⟨rfl, rfl⟩
    · rw [if_neg h2]
      have c2 : ¬ 0 < R.cmpI (R.rank x) (R.rank high) := by rw [R.cmpI_pos]; exact h2
      clear h1 h2
      go_enter Tryd.func24, Tryd.ntmps24
      go_wp2_with fail
      refine (C1.out _).mono ?_
      rintro e w' ⟨rfl, rfl⟩
      go_wp2_with fail
      refine (C2.out _).mono ?_
      rintro e w' ⟨rfl, rfl⟩
      go_wp2_with fail
      go_ret
      exact ⟨rfl, rfl⟩

end Go.Proofs.YtajpgjbdemadgaaDoor
