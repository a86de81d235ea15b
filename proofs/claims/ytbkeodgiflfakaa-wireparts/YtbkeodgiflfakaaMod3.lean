/-
  Several texts in one module: XRoom, XCalls.
-/
import Derived.Test.YtbkeodgiflfakaaMod1
import Derived.Test.YtbkeodgiflfakaaMod2
import Derived.Deep.RegionHeld3
/-
  Layer 9: Room.
-/
namespace Go.Proofs.Ytbkeodgiflfakaa
open Go.RowKit
set_option linter.unusedVariables false
set_option maxRecDepth 20000

theorem room_any (w : World) : Calls Try.prog 17 #[] w fun e w' => e = .returned (.int .i64 466) ∧ w' = w := by
  go_enter Try.func17, Try.ntmps17
  go_wp2_with fail
  refine (size_any 14 (by decide) _).mono ?_
  rintro e w1 ⟨rfl, rfl⟩
  go_wp2
  go_ret
  exact ⟨rfl, rfl⟩

end Go.Proofs.Ytbkeodgiflfakaa

/-
  Layer 9: Room, what is wrong with a datagram or a part, their bytes.
-/
namespace Go.Proofs.Ytbkeodgiflfakaa
open Go.RowKit
set_option linter.unusedVariables false
set_option maxRecDepth 20000

theorem dFault_short (n : Int) (h : n < 32) (w : World) : Calls Try.prog 28 #[.int .i64 n] w fun e w' => e = .returned (.int .i64 3) ∧ w' = w := by
  go_enter Try.func28, Try.ntmps28
  go_wp2_with fail
  refine (size_any 0 (by decide) _).mono ?_
  rintro e w1 ⟨rfl, rfl⟩
  go_wp2
  go_ret
  exact ⟨rfl, rfl⟩
theorem dFault_long (n : Int) (h : 512 < n) (w : World) : Calls Try.prog 28 #[.int .i64 n] w fun e w' => e = .returned (.int .i64 5) ∧ w' = w := by
  have h1 : ¬ n < 32 := by omega
  go_enter Try.func28, Try.ntmps28
  go_wp2_with fail
  refine (size_any 0 (by decide) _).mono ?_
  rintro e w1 ⟨rfl, rfl⟩
  go_wp2
  go_ret
  exact ⟨rfl, rfl⟩
theorem dFault_ok (n : Int) (h : 32 ≤ n) (h' : n ≤ 512) (w : World) : Calls Try.prog 28 #[.int .i64 n] w fun e w' => e = .returned (.int .i64 0) ∧ w' = w := by
  have h1 : ¬ n < 32 := by omega
  have h2 : ¬ 512 < n := by omega
  go_enter Try.func28, Try.ntmps28
  go_wp2_with fail
  refine (size_any 0 (by decide) _).mono ?_
  rintro e w1 ⟨rfl, rfl⟩
  go_wp2
  go_ret
  exact ⟨rfl, rfl⟩
def dFaultE (n : Int) : Int := if n < 32 then 3 else if 512 < n then 5 else 0
theorem dFault_any (n : Int) (w : World) : Calls Try.prog 28 #[.int .i64 n] w fun e w' => e = .returned (.int .i64 (dFaultE n)) ∧ w' = w := by
  unfold dFaultE
  by_cases a : n < 32
  · rw [if_pos a]; exact dFault_short n a w
  · rw [if_neg a]
    by_cases b : 512 < n
    · rw [if_pos b]; exact dFault_long n b w
    · rw [if_neg b]; exact dFault_ok n (by omega) (by omega) w

/-- The cells of a datagram. -/
def dgC (id n : Nat) (s : ByteArray) : List Value := [.int .u64 (id : Int), .int .u64 (n : Int), .string s]

set_option maxHeartbeats 2000000 in
theorem dBytes_no (id n : Nat) (s : ByteArray) (hs : s.size < 16 ∨ 496 < s.size) (hm : s.size ≤ 281474976710656) (w : World) :
    Calls Try.prog 8 #[.agg #[.int .u64 (id : Int), .int .u64 (n : Int), .string s]] w fun e w' => e = .returned (.tuple #[.string ⟨#[]⟩, .int .i64 (if s.size < 16 then 3 else 5)]) ∧ Below w.heap.size w w' := by
  have hE : dFaultE (16 + (s.size : Int)) = if s.size < 16 then 3 else 5 := by unfold dFaultE; split <;> split <;> omega
  have hne : dFaultE (16 + (s.size : Int)) ≠ 0 := by rw [hE]; split <;> decide
  rw [← hE]
  have CF : Hid (∀ wx, Calls Try.prog 28 #[.int .i64 (16 + (s.size : Int))] wx fun e w' => e = .returned (.int .i64 (dFaultE (16 + (s.size : Int)))) ∧ w' = wx) := fun wx => dFault_any _ wx
  have b0 : Below w.heap.size w (w.alloc (.cells #[.int .u64 (id : Int), .int .u64 (n : Int), .string s] 25 (0, 0))) := (Below.refl _ _).alloc (Nat.le_refl _) _
  clear hE
  generalize dFaultE (16 + (s.size : Int)) = E at *
  go_enter Try.func8, Try.ntmps8
  go_wp2_with fail
  refine (CF.out _).mono ?_
  rintro e w1 ⟨rfl, rfl⟩
  go_wp2
  go_ret2
  exact ⟨rfl, b0⟩

end Go.Proofs.Ytbkeodgiflfakaa
