/-
  Layer 1: word.Get.
-/
import Derived.Test.YtglfbmgnndebiaaPut
import Derived.Laws.BitsAllLaws
namespace Go.Proofs.Ytglfbmgnndebiaa
open Go.RowKit
set_option linter.unusedVariables false

theorem retG_int {k : IntKind} {a b : Int} (h : a = b) : Ending.returned (.int k a) = .returned (.int k b) := by rw [h]

theorem ret_iv {k : IntKind} {a b : Int} {v : Value} (h : a = b) : Ending.returned (.tuple #[.int k a, v]) = .returned (.tuple #[.int k b, v]) := by rw [h]

theorem or_byteG (x b : Nat) (hx : x < 72057594037927936) (hb : b < 256) : bits BinOp.or IntKind.u64 ((x : Int) * 256) (b : Int) = ((x * 256 + b : Nat) : Int) := by
  have := u64_or_nat (x * 256) b (by omega) (by omega)
  have e : 2 ^ 8 * x + b = 2 ^ 8 * x ||| b := Nat.two_pow_add_eq_or_of_lt (by simpa using hb) x
  rw [show x * 256 + b = 2 ^ 8 * x + b from by omega, e, show 2 ^ 8 * x = x * 256 from by omega, ← this]
  simp

set_option maxHeartbeats 400000 in
/-- word.Get of 1 to 8 bytes. -/
theorem get_mid (s : ByteArray) (h1 : 1 ≤ s.size) (hs : s.size ≤ 8) (w : World) :
    Calls Try.prog 51 #[.string s] w fun e w' => e = .returned (.tuple #[.int .u64 (W.getN s.data.toList), .int .i64 0]) ∧ w' = w := by
  go_enter Try.func51, Try.ntmps51
  go_wp2
  go_loop [4, 14] (fun n i => ∃ k : Nat, k ≤ s.size ∧ i = .int .i64 k ∧ n = .int .u64 (W.getN (s.data.toList.take k))) (fun _ i => s.size - (intOf i).toNat)
  case atStart => exact ⟨0, Nat.zero_le _, rfl, rfl⟩
  case round =>
    obtain ⟨k, hk, rfl, rfl⟩ := hrel
    by_cases hlt : k < s.size
    · have hb := W.getN_take_lt s k (by omega)
      have HS : Hid (W.getN (s.data.toList.take (k + 1)) = W.getN (s.data.toList.take k) * 256 + s[k].toNat) := by rw [W.take_snoc s k hlt]; exact W.getN_snoc _ _
      have hu := s[k].toNat_lt
      go_wp2
      go_round
      case rel => refine ⟨k + 1, by omega, by go_num, ?_⟩; rw [HS.out, or_byteG _ _ hb (by simpa using hu)]
      case measure => simp [intOf]; omega
    · go_wp2
      go_ret2
      exact ⟨ret_iv (by rw [List.take_of_length_le (by simp; omega)]), rfl⟩

theorem get_short (s : ByteArray) (h1 : s.size = 0) (w : World) :
    Calls Try.prog 51 #[.string s] w fun e w' => e = .returned (.tuple #[.int .u64 0, .int .i64 3]) ∧ w' = w := by
  have h2 : (s.size : Int) < 1 := by omega
  clear h1
  go_enter Try.func51, Try.ntmps51
  go_wp2
  go_ret2
  exact ⟨rfl, rfl⟩

theorem get_long (s : ByteArray) (h1 : 8 < s.size) (w : World) :
    Calls Try.prog 51 #[.string s] w fun e w' => e = .returned (.tuple #[.int .u64 0, .int .i64 5]) ∧ w' = w := by
  go_enter Try.func51, Try.ntmps51
  go_wp2
  go_ret2
  exact ⟨rfl, rfl⟩

/-- What word.Get answers. -/
def getV (l : List UInt8) : Int := if l.length = 0 then 0 else if 8 < l.length then 0 else (W.getN l : Int)
def getE (l : List UInt8) : Int := if l.length = 0 then 3 else if 8 < l.length then 5 else 0

/-- word.Get. -/
theorem get_any (s : ByteArray) (w : World) :
    Calls Try.prog 51 #[.string s] w fun e w' => e = .returned (.tuple #[.int .u64 (getV s.data.toList), .int .i64 (getE s.data.toList)]) ∧ w' = w := by
  have hl : s.data.toList.length = s.size := by simp
  unfold getV getE
  rw [hl]
  by_cases a : s.size = 0
  · rw [if_pos a, if_pos a]; exact get_short s a w
  · rw [if_neg a, if_neg a]
    by_cases b : 8 < s.size
    · rw [if_pos b, if_pos b]; exact get_long s b w
    · rw [if_neg b, if_neg b]; exact get_mid s (by omega) (by omega) w

end Go.Proofs.Ytglfbmgnndebiaa
