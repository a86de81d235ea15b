/-
  Layer 11: nextRow.
-/
import Derived.Test.YtekpbfbipkjibaaNBase
namespace Go.Proofs.Ytekpbfbipkjibaa
open Go.RowKit
set_option linter.unusedVariables false
set_option maxRecDepth 20000

set_option maxHeartbeats 1000000 in
theorem next_yes (g cap wd ht y n : Nat) (hw : 1 ≤ wd) (hw2 : wd ≤ 80) (hh : ht ≤ 24) (hy : y + 1 < ht) (hn : n = wd * ht) (w : World) :
    Calls Try.prog 34 #[.slice (some ⟨g, 0, none⟩) n cap, .int .i64 wd, .int .i64 y] w fun e w' => e = .returned (.int .i64 ((y + 1 : Nat) : Int)) ∧ w' = w := by
  have hm := (N11.next_lt (w := wd) (h := ht) (y := y) hw).2 hy
  obtain ⟨m, hmm⟩ : ∃ m, m = (y + 1) * wd := ⟨_, rfl⟩
  obtain ⟨z, hz⟩ : ∃ z, z = y + 1 := ⟨_, rfl⟩
  have hms : m ≤ 1920 := by
    have := Nat.mul_le_mul (show y + 1 ≤ 24 by omega) hw2
    omega
  have e1 : (y : Int) + 1 = (z : Int) := by omega
  have w1 : IntKind.i64.wrap (z : Int) = (z : Int) := by rw [IntKind.wrap_i64]; omega
  have e2 : (z : Int) * (wd : Int) = (m : Int) := by rw [hmm, hz]; simp
  have w2 : IntKind.i64.wrap (m : Int) = (m : Int) := by rw [IntKind.wrap_i64]; omega
  have hlt : (m : Int) < (n : Int) := by rw [← hmm, ← hn] at hm; omega
  rw [← hz]
  clear hm hmm hz hn hy
  go_enter Try.func34, Try.ntmps34
  go_wp2
  go_ret
  exact ⟨rfl, rfl⟩

set_option maxHeartbeats 2000000 in
theorem next_no2 (g cap wd ht y : Nat) (l : List UInt8) (hw : 1 ≤ wd) (hw2 : wd ≤ 80) (hh : ht ≤ 24) (hy : y + 1 = ht) (hn : l.length = wd * ht) (hc : l.length ≤ cap) (hcw : ¬ cap = wd) (w : World) (h : Bs w g l) :
    Calls Try.prog 34 #[.slice (some ⟨g, 0, none⟩) l.length cap, .int .i64 wd, .int .i64 y] w fun e w' => e = .returned (.int .i64 (y : Int)) ∧ Bs w' g (l.drop wd ++ List.replicate wd 32) ∧ But g w w' := by
  obtain ⟨m, hmm⟩ : ∃ m, m = (y + 1) * wd := ⟨_, rfl⟩
  obtain ⟨z, hz⟩ : ∃ z, z = y + 1 := ⟨_, rfl⟩
  obtain ⟨n, hnn⟩ : ∃ n, n = l.length := ⟨_, rfl⟩
  have hmn : m = n := by rw [hmm, hnn, hn, hy, Nat.mul_comm]
  have hwl : wd ≤ n := by
    have := Nat.mul_le_mul_left wd (show 1 ≤ ht by omega)
    omega
  have hms : n ≤ 1920 := by
    have := Nat.mul_le_mul hw2 hh
    omega
  have e1 : (y : Int) + 1 = (z : Int) := by omega
  have w1 : IntKind.i64.wrap (z : Int) = (z : Int) := by rw [IntKind.wrap_i64]; omega
  have e2 : (z : Int) * (wd : Int) = (m : Int) := by rw [hmm, hz]; simp
  have w2 : IntKind.i64.wrap (m : Int) = (m : Int) := by rw [IntKind.wrap_i64]; omega
  have hlt : ¬ (m : Int) < (n : Int) := by omega
  obtain ⟨w1', hrun, hb1, hoth, hsz, hbel⟩ := h.moved (P := Try.prog) 46 46 3 5 Try.underlying46 infoU8size wd wd cap (cap - wd) (by omega) (by omega)
  have hl1 : (l.drop wd ++ l.drop (l.length - wd)).length = n := by simp; omega
  obtain ⟨d, hd⟩ : ∃ d, d = n - wd := ⟨_, rfl⟩
  have hrun' : (Builtin.copy_ #[46, 46] 3 #[.slice (some ⟨g, 0, none⟩) n cap, .slice (some ⟨g, wd, none⟩) d (cap - wd)]).run Try.prog w = .ok (.int .i64 (d : Int)) w1' := by
    rw [hd, hnn]; exact hrun
  have hfin : (l.drop wd ++ l.drop (l.length - wd)).take d ++ List.replicate wd 32 = l.drop wd ++ List.replicate wd 32 := by
    rw [List.take_left' (by simp; omega)]
  have hbut : But g w w1' := ⟨(hbel _ (Nat.zero_le _)).os, (hbel _ (Nat.zero_le _)).tape, (hbel _ (Nat.zero_le _)).output, by omega, fun k hk hkg => hoth k hk hkg⟩
  have CF : Hid (∀ c, Calls Try.prog 33 #[.slice (some ⟨g, d, none⟩) wd c] w1' fun e w' => e = .returned (.tuple #[]) ∧ Bs w' g ((l.drop wd ++ l.drop (l.length - wd)).take d ++ List.replicate wd 32) ∧ But g w1' w') := fun c =>
    fill_any g d wd c _ w1' (by rw [hl1]; omega) (by rw [hl1]; omega) hb1
  rw [hfin] at CF
  have HB := Lib.hid hbut
  have g1 : ¬ (n : Int) < (wd : Int) := by omega
  have g2 : ¬ (n : Int) < (d : Int) := by omega
  have e3 : n - d = wd := by omega
  have e4 : n - wd = d := by omega
  have g5 : ¬ d = cap := by omega
  have g6 : ¬ wd = cap := by omega
  rw [← hnn] at hc ⊢
  clear hrun hb1 hoth hsz hbel hbut hl1 hfin hmm hnn hd hn h hmn hy hz
  go_enter Try.func34, Try.ntmps34
  go_wp2_with fail
  refine (CF.out _).mono ?_
  rintro e w2 ⟨rfl, b2, k2⟩
  go_wp2
  go_ret
  exact ⟨rfl, b2, HB.out.trans k2⟩

set_option maxHeartbeats 2000000 in
theorem next_no1 (g wd ht y : Nat) (l : List UInt8) (hw : 1 ≤ wd) (hw2 : wd ≤ 80) (hh : ht ≤ 24) (hy : y + 1 = ht) (hn : l.length = wd * ht) (hlw : l.length = wd) (w : World) (h : Bs w g l) :
    Calls Try.prog 34 #[.slice (some ⟨g, 0, none⟩) l.length wd, .int .i64 wd, .int .i64 y] w fun e w' => e = .returned (.int .i64 (y : Int)) ∧ Bs w' g (l.drop wd ++ List.replicate wd 32) ∧ But g w w' := by
  obtain ⟨m, hmm⟩ : ∃ m, m = (y + 1) * wd := ⟨_, rfl⟩
  obtain ⟨z, hz⟩ : ∃ z, z = y + 1 := ⟨_, rfl⟩
  obtain ⟨n, hnn⟩ : ∃ n, n = l.length := ⟨_, rfl⟩
  have hmn : m = n := by rw [hmm, hnn, hn, hy, Nat.mul_comm]
  have hwl : wd ≤ n := by
    have := Nat.mul_le_mul_left wd (show 1 ≤ ht by omega)
    omega
  have hms : n ≤ 1920 := by
    have := Nat.mul_le_mul hw2 hh
    omega
  have e1 : (y : Int) + 1 = (z : Int) := by omega
  have w1 : IntKind.i64.wrap (z : Int) = (z : Int) := by rw [IntKind.wrap_i64]; omega
  have e2 : (z : Int) * (wd : Int) = (m : Int) := by rw [hmm, hz]; simp
  have w2 : IntKind.i64.wrap (m : Int) = (m : Int) := by rw [IntKind.wrap_i64]; omega
  have hlt : ¬ (m : Int) < (n : Int) := by omega
  obtain ⟨w1', hrun, hb1, hoth, hsz, hbel⟩ := h.moved (P := Try.prog) 46 46 3 5 Try.underlying46 infoU8size wd 0 wd (wd - wd) (by omega) (by omega)
  have hl1 : (l.drop wd ++ l.drop (l.length - wd)).length = n := by simp; omega
  obtain ⟨d, hd⟩ : ∃ d, d = n - wd := ⟨_, rfl⟩
  have hrun' : (Builtin.copy_ #[46, 46] 3 #[.slice (some ⟨g, 0, none⟩) n wd, .slice (some ⟨g, 0, none⟩) d (wd - wd)]).run Try.prog w = .ok (.int .i64 (d : Int)) w1' := by
    rw [hd, hnn]; exact hrun
  have hfin : (l.drop wd ++ l.drop (l.length - wd)).take d ++ List.replicate wd 32 = l.drop wd ++ List.replicate wd 32 := by
    rw [List.take_left' (by simp; omega)]
  have hbut : But g w w1' := ⟨(hbel _ (Nat.zero_le _)).os, (hbel _ (Nat.zero_le _)).tape, (hbel _ (Nat.zero_le _)).output, by omega, fun k hk hkg => hoth k hk hkg⟩
  have CF : Hid (∀ c, Calls Try.prog 33 #[.slice (some ⟨g, d, none⟩) wd c] w1' fun e w' => e = .returned (.tuple #[]) ∧ Bs w' g ((l.drop wd ++ l.drop (l.length - wd)).take d ++ List.replicate wd 32) ∧ But g w1' w') := fun c =>
    fill_any g d wd c _ w1' (by rw [hl1]; omega) (by rw [hl1]; omega) hb1
  rw [hfin] at CF
  have HB := Lib.hid hbut
  have hd0 : d = 0 := by omega
  have hnw : n = wd := by omega
  rw [← hnn]
  clear hd hmm hmn
  subst hd0 hnw
  have hwl0 : n - n = 0 := by omega
  have g1 : ¬ (n : Int) < 0 := by omega
  have g5 : ¬ n = 0 := by omega
  have g7 : ¬ 0 = n := by omega
  rw [hwl0] at hrun'
  clear hrun hb1 hoth hsz hbel hbut hl1 hfin hnn hn h hy hz hlw
  go_enter Try.func34, Try.ntmps34
  go_wp2_with fail
  refine (CF.out _).mono ?_
  rintro e w2 ⟨rfl, b2, k2⟩
  go_wp2
  go_ret
  exact ⟨rfl, b2, HB.out.trans k2⟩

theorem next_no (g cap wd ht y : Nat) (l : List UInt8) (hw : 1 ≤ wd) (hw2 : wd ≤ 80) (hh : ht ≤ 24) (hy : y + 1 = ht) (hn : l.length = wd * ht) (hc : l.length ≤ cap) (w : World) (h : Bs w g l) :
    Calls Try.prog 34 #[.slice (some ⟨g, 0, none⟩) l.length cap, .int .i64 wd, .int .i64 y] w fun e w' => e = .returned (.int .i64 (y : Int)) ∧ Bs w' g (l.drop wd ++ List.replicate wd 32) ∧ But g w w' := by
  by_cases hcw : cap = wd
  · have : wd ≤ l.length := by
      have := Nat.mul_le_mul_left wd (show 1 ≤ ht by omega)
      omega
    subst hcw
    exact next_no1 g cap ht y l hw hw2 hh hy hn (by omega) w h
  · exact next_no2 g cap wd ht y l hw hw2 hh hy hn hc hcw w h

end Go.Proofs.Ytekpbfbipkjibaa
