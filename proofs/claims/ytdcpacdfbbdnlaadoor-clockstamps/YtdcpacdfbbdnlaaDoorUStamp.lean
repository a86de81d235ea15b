/-
  Layer 14: stamps.
-/
import Derived.Test.YtdcpacdfbbdnlaaDoorURow
namespace Go.Proofs.YtdcpacdfbbdnlaaDoor
open Go.RowKit
set_option linter.unusedVariables false
set_option maxRecDepth 20000
set_option maxRecDepth 20000

set_option maxHeartbeats 1000000 in
theorem stamp_any (now : Nat) (w : World) : Calls Tryd.prog 13 #[.int .u64 (now : Int)] w fun e w' => e = .returned (.int .u16 ((now % 65536 : Nat) : Int)) ∧ Below w.heap.size w w' := by
  have h : IntKind.u16.wrap (now : Int) = ((now % 65536 : Nat) : Int) := by rw [IntKind.wrap_u16]; omega
  go_enter Tryd.func13, Tryd.ntmps13
  go_wp2
  go_ret
  exact ⟨by first | rfl | (rw [h] <;> rfl), Below.refl _ _⟩

set_option maxHeartbeats 1000000 in
theorem since14_any (now st : Nat) (hst : st < 65536) (w : World) : Calls Tryd.prog 12 #[.int .u64 (now : Int), .int .u16 (st : Int)] w fun e w' => e = .returned (.int .u64 (((now % 65536 + 65536 - st) % 65536 : Nat) : Int)) ∧ Below w.heap.size w w' := by
  obtain ⟨a, ha⟩ : ∃ a, a = now % 65536 := ⟨_, rfl⟩
  obtain ⟨d, hd⟩ : ∃ d, d = (now % 65536 + 65536 - st) % 65536 := ⟨_, rfl⟩
  have CP : Hid (∀ wx, Calls Tryd.prog 13 #[.int .u64 (now : Int)] wx fun e w' => e = .returned (.int .u16 (a : Int)) ∧ Below wx.heap.size wx w') := fun wx => by rw [ha]; exact stamp_any now wx
  have h1 : IntKind.u16.wrap ((a : Int) - (st : Int)) = (d : Int) := by rw [IntKind.wrap_u16]; omega
  have h2 : IntKind.u64.wrap (d : Int) = (d : Int) := by rw [IntKind.wrap_u64]; omega
  have h3 : d < 65536 := by omega
  rw [← hd]
  clear ha hd
  go_enter Tryd.func12, Tryd.ntmps12
  go_wp2_with fail
  refine (CP.out _).mono ?_
  rintro e w2 ⟨rfl, b2⟩
  go_wp2
  go_ret
  exact ⟨rfl, b2⟩

end Go.Proofs.YtdcpacdfbbdnlaaDoor
