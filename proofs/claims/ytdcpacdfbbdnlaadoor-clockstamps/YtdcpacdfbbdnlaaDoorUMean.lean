/-
  Layer 14: means; the document's Since.
-/
import Derived.Test.YtdcpacdfbbdnlaaDoorUStamp
namespace Go.Proofs.YtdcpacdfbbdnlaaDoor
open Go.RowKit
set_option linter.unusedVariables false
set_option maxRecDepth 20000
set_option linter.unusedSimpArgs false
set_option maxRecDepth 20000

namespace R
/-- The sum of the first so many, each sum rounded. -/
def sumF (f : Nat → Nat) : Nat → Nat
  | 0 => 0
  | k + 1 => (Ieee.double.add (sumF f k) (floatOfInt .f64 ((f k : Nat) : Int))).getD 0
theorem sumF_pos (f : Nat → Nat) : ∀ k, Pos (sumF f k)
  | 0 => Nat.zero_le _
  | k + 1 => by
    obtain ⟨r, hr, hp⟩ := add_pos (sumF_pos f k) (whole_pos (f k))
    show Pos ((Ieee.double.add (sumF f k) (floatOfInt .f64 ((f k : Nat) : Int))).getD 0)
    rw [hr]; exact hp
theorem sumF_step (f : Nat → Nat) (k : Nat) : Ieee.double.add (sumF f k) (floatOfInt .f64 ((f k : Nat) : Int)) = some (sumF f (k + 1)) := by
  obtain ⟨r, hr, hp⟩ := add_pos (sumF_pos f k) (whole_pos (f k))
  show _ = some ((Ieee.double.add (sumF f k) (floatOfInt .f64 ((f k : Nat) : Int))).getD 0)
  rw [hr]; rfl
def meanF (f : Nat → Nat) (n : Nat) : Nat := (Ieee.double.div (sumF f n) (floatOfInt .f64 ((n : Nat) : Int))).getD 0
theorem meanF_is (f : Nat → Nat) (n : Nat) (h0 : 0 < n) (hn : n < 18446744073709551616) : Ieee.double.div (sumF f n) (floatOfInt .f64 ((n : Nat) : Int)) = some (meanF f n) ∧ Pos (meanF f n) := by
  obtain ⟨r, hr, hp⟩ := div_whole (sumF_pos f n) h0 hn
  unfold meanF
  rw [hr]; exact ⟨rfl, hp⟩
end R

theorem nanU (w : World) : Calls Tryd.prog 25 #[] w fun e w' => e = .returned (.float .f64 9221120237041090561) ∧ w' = w := by
  go_enter Tryd.func25, Tryd.ntmps25
  go_wp2_with (first | (go_at_call 31; go_in))
  go_ret
  exact ⟨rfl, rfl⟩

set_option maxHeartbeats 2000000 in
theorem mean_none (a : Option Addr) (cap : Nat) (w : World) :
    Calls Tryd.prog 11 #[.slice a 0 cap] w fun e w' => e = .returned (.float .f64 9221120237041090561) ∧ Below w.heap.size w w' := by
  have CN : Hid (∀ wx, Calls Tryd.prog 25 #[] wx fun e w' => e = .returned (.float .f64 9221120237041090561) ∧ w' = wx) := nanU
  go_enter Tryd.func11, Tryd.ntmps11
  go_wp2_with fail
  refine (CN.out _).mono ?_
  rintro e _ ⟨rfl, rfl⟩
  go_wp2
  go_ret
  exact ⟨rfl, Below.refl _ _⟩

set_option maxHeartbeats 2000000 in
theorem mean_some (a : Option Addr) (len cap : Nat) (f : Nat → Nat) (w : World) (hU : InU w a len f) (h0 : 0 < len) (hl : len ≤ 100) :
    Calls Tryd.prog 11 #[.slice a len cap] w fun e w' => e = .returned (.float .f64 (R.meanF f len)) ∧ Below w.heap.size w w' := by
  have HU := Lib.hid hU
  have HD : Hid (∀ wx : World, (binOp .quo 34 (.float .f64 (R.sumF f len)) (.float .f64 (floatOfInt .f64 (len : Int)))).run Tryd.prog wx = .ok (.float .f64 (R.meanF f len)) wx) := fun wx => run_quo_some _ _ _ (R.meanF_is f len h0 (by omega)).1 wx
  have HA : Hid (∀ (k : Nat) (wx : World), (binOp .add 34 (.float .f64 (R.sumF f k)) (.float .f64 (floatOfInt .f64 ((f k : Nat) : Int)))).run Tryd.prog wx = .ok (.float .f64 (R.sumF f (k + 1))) wx) := fun k wx => run_float_arith wx .add 34 .f64 _ _ _ (R.sumF_step f k)
  have g0 : ((len : Int) == 0) = false := by rw [beq_eq_false_iff_ne]; omega
  clear hU
  generalize R.meanF f len = mf at *
  go_enter Tryd.func11, Tryd.ntmps11
  go_wp2
  go_loopw [3, 12] (fun sv iv wr => ∃ (k s : Nat), k ≤ len ∧ iv = .int .i64 (k : Int) ∧ sv = .float .f64 s ∧ Hid (s = R.sumF f k) ∧ wr = w) (fun _ iv _ => len - (intOf iv).toNat)
  case atStart => exact ⟨0, 0, Nat.zero_le _, rfl, rfl, rfl, rfl⟩
  case round =>
    obtain ⟨k, s, hk, rfl, rfl, HS, rfl⟩ := hrel
    by_cases hlt : k < len
    · have hs : (k : Int) < len := by omega
      obtain ⟨bk, off, rfl, hbk, hcell⟩ := HU.out (by omega)
      obtain ⟨htb, c0⟩ := hcell k hlt
      have ha := HA.out k
      rw [← HS.out] at ha
      obtain ⟨s', hs'⟩ : ∃ s', s' = R.sumF f (k + 1) := ⟨_, rfl⟩
      rw [← hs'] at ha
      have HS' := Lib.hid hs'
      generalize f k = x at *
      clear hs' hcell HS
      go_wp2
      go_roundw
      case rel => exact ⟨k + 1, s', by omega, by go_num, rfl, HS'.out, by first | rfl | trivial⟩
      case measure => simp [intOf]; omega
    · have hkl : k = len := by omega
      have hs : ¬ (k : Int) < len := by omega
      have hd := HD.out
      rw [← hkl, ← HS.out, hkl] at hd
      clear hkl HS HA HU
      go_wp2
      go_ret
      exact ⟨rfl, Below.refl _ _⟩

set_option maxHeartbeats 2000000 in
theorem refSince14_any (now st : Nat) (hn : now ≤ 18446744073709551615) (hst : st < 65536) (w : World) : Calls Tryd.prog 14 #[.int .u64 (now : Int), .int .u16 (st : Int)] w fun e w' => e = .returned (.int .u64 (((now % 65536 + 65536 - st) % 65536 : Nat) : Int)) ∧ Below w.heap.size w w' := by
  obtain ⟨d, hd⟩ : ∃ d, d = (now % 65536 + 65536 - st) % 65536 := ⟨_, rfl⟩
  have hdb : d < 65536 := by omega
  have HD := Lib.hid hd
  rw [← hd]
  clear hd
  go_enter Tryd.func14, Tryd.ntmps14
  go_wp2
  go_loopw [5] (fun iv wr => ∃ i : Nat, i ≤ d ∧ iv = .int .u64 (i : Int) ∧ wr = w) (fun iv _ => d - (intOf iv).toNat)
  case atStart => exact ⟨0, Nat.zero_le _, rfl, rfl⟩
  case round =>
    obtain ⟨i, hi, rfl, rfl⟩ := hrel
    have hdd := HD.out
    obtain ⟨b, hb⟩ : ∃ b, b = (now + 18446744073709551616 - i) % 18446744073709551616 := ⟨_, rfl⟩
    obtain ⟨s, hs⟩ : ∃ s, s = b % 65536 := ⟨_, rfl⟩
    have h1 : IntKind.u64.wrap ((now : Int) - (i : Int)) = (b : Int) := by rw [IntKind.wrap_u64]; omega
    have h2 : (b : Int) % 65536 = (s : Int) := by omega
    have h3 : ((b : Int).tmod 65536) = (s : Int) := by rw [hs]; rfl
    have h4 : IntKind.u16.wrap (s : Int) = (s : Int) := by rw [IntKind.wrap_u16]; omega
    have hbb : b ≤ 18446744073709551615 := by omega
    have hsb : s < 65536 := by omega
    by_cases hlt : i < d
    · have hne : s ≠ st := by omega
      have h5 : ((s : Int) == (st : Int)) = false := by rw [beq_eq_false_iff_ne]; omega
      have h6 : ((s : Int) != (st : Int)) = true := by rw [bne_iff_ne]; omega
      have h7 : ¬ (s : Int) = (st : Int) := by omega
      clear hb hs hdd hne
      go_wp2
      go_roundw
      case rel => exact ⟨i + 1, by omega, by go_num, by first | rfl | trivial⟩
      case measure => simp [intOf]; omega
    · have hid : i = d := by omega
      have hse : s = st := by omega
      subst hid
      subst hse
      clear hb hs hdd
      go_wp2
      go_ret
      exact ⟨rfl, Below.refl _ _⟩

end Go.Proofs.YtdcpacdfbbdnlaaDoor
