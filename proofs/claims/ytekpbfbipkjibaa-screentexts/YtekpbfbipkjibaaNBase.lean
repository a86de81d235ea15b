/-
  Layer 11: sized, shown, fillBlank, nextRow.
-/
import Derived.Test.YtekpbfbipkjibaaNMem
import Derived.Test.YtekpbfbipkjibaaNPlain
namespace Go.Proofs.Ytekpbfbipkjibaa
open Go.RowKit
set_option linter.unusedVariables false

theorem infoU8size : (Try.prog.info? 5).map (·.size) = some 1 := by kernel_rfl

set_option maxHeartbeats 1000000 in
theorem sized_any (a b : Int) (w : World) : Calls Try.prog 30 #[.int .i64 a, .int .i64 b] w fun e w' => e = .returned (.bool (decide (1 ≤ a) && decide (a ≤ 80) && decide (1 ≤ b) && decide (b ≤ 24))) ∧ w' = w := by
  go_enter Try.func30, Try.ntmps30
  by_cases h1 : 1 ≤ a
  · by_cases h2 : a ≤ 80
    · by_cases h3 : 1 ≤ b
      · by_cases h4 : b ≤ 24
        · go_wp2
          go_ret
          exact ⟨by simp [*], rfl⟩
        · go_wp2
          go_ret
          exact ⟨by simp [*], rfl⟩
      · go_wp2
        go_ret
        exact ⟨by simp; omega, rfl⟩
    · go_wp2
      go_ret
      exact ⟨by simp; omega, rfl⟩
  · go_wp2
    go_ret
    exact ⟨by simp; omega, rfl⟩

set_option maxHeartbeats 1000000 in
theorem shown_any (b : UInt8) (w : World) : Calls Try.prog 32 #[.int .u8 (b.toNat : Int)] w fun e w' => e = .returned (.bool (N11.shown b)) ∧ w' = w := by
  unfold N11.shown
  generalize b.toNat = n
  go_enter Try.func32, Try.ntmps32
  by_cases h1 : 32 ≤ n
  · have g1 : (32 : Int) ≤ n := by omega
    by_cases h2 : n ≤ 126
    · have g2 : (n : Int) ≤ 126 := by omega
      go_wp2
      go_ret
      exact ⟨by simp [*], rfl⟩
    · have g2 : ¬ (n : Int) ≤ 126 := by omega
      go_wp2
      go_ret
      exact ⟨by simp [*], rfl⟩
  · have g1 : ¬ (32 : Int) ≤ n := by omega
    go_wp2
    go_ret
    exact ⟨by simp [*], rfl⟩

/-- Blanks from a place on, as many as have been laid. -/
def blanked (l : List UInt8) (o i : Nat) : List UInt8 := l.take o ++ List.replicate i 32 ++ l.drop (o + i)
theorem blanked_zero (l : List UInt8) (o : Nat) : blanked l o 0 = l := by simp [blanked]
theorem blanked_len {l : List UInt8} {o i : Nat} (h : o + i ≤ l.length) : (blanked l o i).length = l.length := by simp [blanked]; omega
theorem blanked_step {l : List UInt8} {o i : Nat} (h : o + i < l.length) : (blanked l o i).set (o + i) 32 = blanked l o (i + 1) := by
  unfold blanked
  rw [List.set_append_right _ _ (by simp; omega), List.drop_eq_getElem_cons h]
  have e : o + i - (l.take o ++ List.replicate i (32 : UInt8)).length = 0 := by simp; omega
  rw [e, List.set_cons_zero, List.replicate_succ', show o + (i + 1) = o + i + 1 by omega]
  simp
theorem blanked_all {l : List UInt8} {o : Nat} (h : o ≤ l.length) : blanked l o (l.length - o) = l.take o ++ List.replicate (l.length - o) 32 := by
  unfold blanked
  rw [show o + (l.length - o) = l.length by omega, List.drop_length, List.append_nil]

set_option maxHeartbeats 2000000 in
/-- From a place on blanks. -/
theorem fill_any (g o n cap : Nat) (l : List UInt8) (w : World) (hl : l.length ≤ 1920) (hn : o + n = l.length) (h : Bs w g l) :
    Calls Try.prog 33 #[.slice (some ⟨g, o, none⟩) n cap] w fun e w' => e = .returned (.tuple #[]) ∧ Bs w' g (l.take o ++ List.replicate n 32) ∧ But g w w' := by
  have HA := Lib.hid (blanked_all (l := l) (o := o) (by omega))
  rw [show l.length - o = n by omega] at HA
  have hn19 : n ≤ 1920 := by omega
  go_enter Try.func33, Try.ntmps33
  go_wp2
  go_loopw [2, 5] (fun _ iv wr => ∃ i : Nat, i ≤ n ∧ iv = .int .i64 i ∧ Bs wr g (blanked l o i) ∧ But g w wr) (fun _ iv _ => n - (intOf iv).toNat)
  case atStart => exact ⟨0, Nat.zero_le _, rfl, by rw [blanked_zero]; exact h, But.refl _ _⟩
  case round =>
    obtain ⟨i, hi, rfl, hb, hbut⟩ := hrel
    by_cases hlt : i < n
    · have hs : (i : Int) < n := by omega
      have hlen : o + i < (blanked l o i).length := by rw [blanked_len (by omega)]; omega
      have c0 := hb.cell (o + i) hlen
      have f0 := hb.free (o + i) hlen
      have hb' := hb.set hlen 32
      rw [blanked_step (by omega)] at hb'
      have hbut' := hbut.setCell (o + i) (.int .u8 32)
      clear hlen hn
      go_wp2
      go_roundw
      case rel => exact ⟨i + 1, by omega, by go_num, hb', hbut'⟩
      case measure => simp [intOf]; omega
    · obtain rfl : i = n := by omega
      rw [HA.out] at hb
      go_wp2
      refine bodyPost_end (results_none rfl _ _ _) rfl ?_
      exact ⟨rfl, hb, hbut⟩

end Go.Proofs.Ytekpbfbipkjibaa
