/-
  Layer 1: the document's own Put.
-/
import Derived.Test.YtglfbmgnndebiaaPut
namespace Go.Proofs.Ytglfbmgnndebiaa
open Go.RowKit
set_option linter.unusedVariables false

theorem quo_step (n j : Nat) : n / 256 ^ j / 256 = n / 256 ^ (j + 1) := by
  rw [Nat.pow_succ, ← Nat.div_div_eq_div_mul]

theorem putL_le (n : Nat) : ∀ k, k ≤ 8 → (⟨(W.putL n k).toArray⟩ : ByteArray).size ≤ 8 := by
  intro k hk
  show (W.putL n k).toArray.size ≤ 8
  simp [W.putL_length, hk]

theorem conv1 (wr : World) (x : Int) (b : UInt8) (hx : x = (b.toNat : Int)) : (convert 83 9 (.slice (some ⟨wr.heap.size, 0, none⟩) 1 1)).run Try.prog (wr.alloc (.cells #[.int .u8 x] 5)) = .ok (.string ⟨#[b]⟩) (wr.alloc (.cells #[.int .u8 x] 5)) := by
  have := run_convert_bytes_back (P := Try.prog) (wr.alloc (.cells #[.int .u8 x] 5)) 83 9 5 ⟨wr.heap.size, 0, none⟩ 1 [b] Try.underlying83 Try.underlying5 Try.underlying9 (fun t ht => by
    obtain rfl : t = 0 := by simpa using ht
    simp [Addr.add, hx])
  exact this

set_option maxHeartbeats 400000 in
set_option maxRecDepth 10000 in
theorem refPut_any (n size : Int) (h0 : 0 ≤ n) (h1 : n ≤ 18446744073709551615) (w : World) :
    Calls Try.prog 33 #[.int .u64 n, .int .i64 size] w fun e w' => e = .returned (.string ⟨(W.putL n.toNat (W.clamp size)).toArray⟩) ∧ Below w.heap.size w w' := by
  obtain ⟨n, rfl⟩ := Int.eq_ofNat_of_zero_le h0
  rw [Int.toNat_natCast]
  go_enter Try.func33, Try.ntmps33
  go_wp2
  go_loopw [0, 5, 6] (fun v s i wr => ∃ j q : Nat, j ≤ W.clamp size ∧ Hid (q = n / 256 ^ j) ∧ v = .int .u64 (q : Int) ∧ s = .string ⟨(W.putL n j).toArray⟩ ∧ i = .int .i64 j ∧ Below w.heap.size w wr) (fun _ _ i _ => 8 - (intOf i).toNat)
  case atStart => exact ⟨0, n, Nat.zero_le _, by simp [Hid], rfl, rfl, rfl, Below.refl _ _⟩
  case round =>
    obtain ⟨j, q, hj, HQ, rfl, rfl, rfl, hb⟩ := hrel
    have hj8 : j ≤ 8 := by unfold W.clamp at hj; omega
    have hsz := putL_le n j hj8
    by_cases hlt : j < W.clamp size
    · have g1 : (j : Int) < size := by unfold W.clamp at hlt; omega
      have g2 : j < 8 := by unfold W.clamp at hlt; omega
      have hq : q ≤ 18446744073709551615 := by rw [HQ.out]; exact Nat.le_trans (Nat.div_le_self _ _) (by omega)
      have hcv := conv1 wr ((q : Int) % 256) (UInt8.ofNat q) (by simp)
      have hadd := fun wx => run_string_add_sum (P := Try.prog) wx (⟨#[UInt8.ofNat q]⟩ : ByteArray) ⟨(W.putL n j).toArray⟩ (by have : (⟨#[UInt8.ofNat q]⟩ : ByteArray).size = 1 := rfl; omega)
      clear hsz
      go_wp2
      go_roundw
      case rel => exact ⟨j + 1, q / 256, by omega, by rw [HQ.out]; exact quo_step n j, by go_num, by rw [HQ.out]; simp [W.putL, ByteArray.ext_iff], by go_num, hb.alloc (by have := hb.size; omega) _⟩
      case measure => simp [intOf]; omega
    · obtain rfl : j = W.clamp size := by omega
      by_cases g1 : ((W.clamp size : Nat) : Int) < size
      · have g2 : ¬ ((W.clamp size : Nat) : Int) < 8 := by unfold W.clamp at g1 ⊢; omega
        go_wp2
        go_ret
        exact ⟨rfl, hb⟩
      · go_wp2
        go_ret
        exact ⟨rfl, hb⟩

end Go.Proofs.Ytglfbmgnndebiaa
