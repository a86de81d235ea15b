/-
  Layer 1: the document's own Get.
-/
import Derived.Test.YtglfbmgnndebiaaGet
namespace Go.Proofs.Ytglfbmgnndebiaa
open Go.RowKit
set_option linter.unusedVariables false

set_option maxHeartbeats 400000 in
/-- The document's Get, of at most 8 bytes. -/
theorem refGet_any (s : ByteArray) (hs : s.size ≤ 8) (w : World) :
    Calls Try.prog 32 #[.string s] w fun e w' => e = .returned (.int .u64 (W.getN s.data.toList)) ∧ w' = w := by
  go_enter Try.func32, Try.ntmps32
  go_wp2
  go_loop [3, 4] (fun n i => ∃ k : Nat, k ≤ s.size ∧ i = .int .i64 k ∧ n = .int .u64 (W.getN (s.data.toList.take k))) (fun _ i => s.size - (intOf i).toNat)
  case atStart => exact ⟨0, Nat.zero_le _, rfl, rfl⟩
  case round =>
    obtain ⟨k, hk, rfl, rfl⟩ := hrel
    by_cases hlt : k < s.size
    · have hb := W.getN_take_lt s k (by omega)
      have HS : Hid (W.getN (s.data.toList.take (k + 1)) = W.getN (s.data.toList.take k) * 256 + s[k].toNat) := by rw [W.take_snoc s k hlt]; exact W.getN_snoc _ _
      have hu := s[k].toNat_lt
      go_wp2
      go_round
      case rel => exact ⟨k + 1, by omega, by go_num, by rw [HS.out]; go_num⟩
      case measure => simp [intOf]; omega
    · go_wp2
      go_ret
      exact ⟨retG_int (by rw [List.take_of_length_le (by simp; omega)]), rfl⟩

end Go.Proofs.Ytglfbmgnndebiaa
