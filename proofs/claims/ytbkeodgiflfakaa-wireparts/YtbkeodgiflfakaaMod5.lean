/-
  Several texts in one module: SBits.
-/
import Derived.Test.YtbkeodgiflfakaaMod1
import Derived.Test.YtbkeodgiflfakaaRows
import Derived.WalkKit
import Derived.WalkSpells
import Derived.WalkLawsBesides
import Derived.Laws.BitsAllLaws
import Derived.Deep.QuietTactic
import Derived.BigQuiet
/-
  Layer 3: the small functions on words: right, bigSum, smallSum, choice, majority; the document's rotr.
-/
namespace Go.Proofs.Ytbkeodgiflfakaa
open Go.RowKit
set_option linter.unusedVariables false
set_option maxRecDepth 20000

theorem mask_neg (k : Nat) (h1 : 1 ≤ k) (h2 : k ≤ 31) : bits .and .u64 (IntKind.u64.wrap (-(k : Int))) 31 = ((32 - k : Nat) : Int) := by
  have e : IntKind.u64.wrap (-(k : Int)) = ((18446744073709551616 - k : Nat) : Int) := by rw [IntKind.wrap_u64]; omega
  rw [e, show (31 : Int) = ((31 : Nat) : Int) from rfl, u64_and_nat _ _ (by omega) (by decide), nat_mask5]
  omega

theorem ret_int {k : IntKind} {a b : Int} (h : a = b) : Ending.returned (.int k a) = .returned (.int k b) := by rw [h]

theorem pow_cast (k : Nat) : (2 : Int) ^ k = ((2 ^ k : Nat) : Int) := by simp
theorem shl_cast (x k : Nat) : (x : Int) * 2 ^ k % 4294967296 = ((x * 2 ^ k % 4294967296 : Nat) : Int) := by rw [pow_cast]; omega
theorem shr_cast (x k : Nat) : (x : Int) / 2 ^ k = ((x / 2 ^ k : Nat) : Int) := by rw [pow_cast]; omega

theorem rotr_is (x k : Nat) (hx : x < 4294967296) (h1 : 1 ≤ k) (h2 : k ≤ 31) :
    bits .or .u32 ((x : Int) * 2 ^ (32 - k) % 4294967296) ((x : Int) / 2 ^ (32 - (32 - k))) = (S.rotr x k : Nat) := by
  rw [shl_cast, shr_cast, u32_or_nat _ _ (Nat.mod_lt _ (by decide)) (S.div_lt hx), show 32 - (32 - k) = k from by omega, Nat.or_comm]
  rfl

set_option maxHeartbeats 400000 in
theorem right_any (x k : Nat) (hx : x < 4294967296) (h1 : 1 ≤ k) (h2 : k ≤ 31) (w : World) :
    Calls Try.prog 104 #[.int .u32 x, .int .i64 k] w fun e w' => e = .returned (.int .u32 (S.rotr x k : Nat)) ∧ w' = w := by
  have hm := mask_neg k h1 h2
  go_enter Try.func104, Try.ntmps104
  go_wp2
  go_ret
  exact ⟨ret_int (rotr_is x k hx h1 h2), rfl⟩

theorem refRotr_is (x k : Nat) (hx : x < 4294967296) :
    bits .or .u32 ((x : Int) / 2 ^ k) ((x : Int) * 2 ^ (32 - k) % 4294967296) = (S.rotr x k : Nat) := by
  rw [shl_cast, shr_cast, u32_or_nat _ _ (S.div_lt hx) (Nat.mod_lt _ (by decide))]
  rfl

set_option maxHeartbeats 400000 in
theorem bigSum_any (x a b c : Nat) (hx : x < 4294967296) (ha : 1 ≤ a) (ha' : a ≤ 31) (hb : 1 ≤ b) (hb' : b ≤ 31) (hc : 1 ≤ c) (hc' : c ≤ 31) (w : World) :
    Calls Try.prog 96 #[.int .u32 x, .int .i64 a, .int .i64 b, .int .i64 c] w fun e w' => e = .returned (.int .u32 (S.big x a b c : Nat)) ∧ w' = w := by
  go_enter Try.func96, Try.ntmps96
  go_wp2_with fail
  refine (right_any _ _ hx ha ha' _).mono ?_
  rintro e w' ⟨rfl, rfl⟩
  go_wp2_with fail
  refine (right_any _ _ hx hb hb' _).mono ?_
  rintro e w' ⟨rfl, rfl⟩
  go_wp2_with fail
  refine (right_any _ _ hx hc hc' _).mono ?_
  rintro e w' ⟨rfl, rfl⟩
  go_wp2
  go_ret
  refine ⟨ret_int ?_, rfl⟩
  rw [u32_xor_nat _ _ (S.rotr_lt hx) (S.rotr_lt hx), u32_xor_nat _ _ (S.xor_lt (S.rotr_lt hx) (S.rotr_lt hx)) (S.rotr_lt hx)]
  rfl

set_option maxHeartbeats 400000 in
theorem smallSum_any (x a b c : Nat) (hx : x < 4294967296) (ha : 1 ≤ a) (ha' : a ≤ 31) (hb : 1 ≤ b) (hb' : b ≤ 31) (hc' : c ≤ 31) (w : World) :
    Calls Try.prog 103 #[.int .u32 x, .int .i64 a, .int .i64 b, .int .i64 c] w fun e w' => e = .returned (.int .u32 (S.small x a b c : Nat)) ∧ ∃ n, w' = w.drewN n := by
  go_enter Try.func103, Try.ntmps103
  go_wp2
  go_quiet (first | (go_at_call 104; exact Calls.quiet_of_same (right_any _ _ hx ha ha' _)) | (go_at_call 104; exact Calls.quiet_of_same (right_any _ _ hx hb hb' _)))
  go_wp2
  go_ret
  refine ⟨ret_int ?_, _, rfl⟩
  rw [shr_cast, u32_xor_nat _ _ (S.rotr_lt hx) (S.rotr_lt hx), u32_xor_nat _ _ (S.xor_lt (S.rotr_lt hx) (S.rotr_lt hx)) (S.div_lt hx)]
  rfl

theorem ones_xor (x : Nat) (hx : x < 4294967296) : 4294967295 ^^^ x = 4294967295 - x := by
  have h : (BitVec.allOnes 32 ^^^ BitVec.ofNat 32 x) = ~~~(BitVec.ofNat 32 x) := BitVec.allOnes_xor
  have h' := congrArg BitVec.toNat h
  simp only [BitVec.toNat_xor, BitVec.toNat_not, BitVec.toNat_allOnes, BitVec.toNat_ofNat] at h'
  rw [Nat.mod_eq_of_lt (by simpa using hx)] at h'
  exact h'
theorem not_is (x : Nat) (hx : x < 4294967296) : bits .xor .u32 IntKind.u32.max (x : Int) = ((4294967295 - x : Nat) : Int) := by
  rw [show IntKind.u32.max = ((4294967295 : Nat) : Int) from by decide, u32_xor_nat _ _ (by decide) hx, ones_xor x hx]

set_option maxHeartbeats 400000 in
theorem choice_any (x y z : Nat) (hx : x < 4294967296) (hy : y < 4294967296) (hz : z < 4294967296) (w : World) :
    Calls Try.prog 97 #[.int .u32 x, .int .u32 y, .int .u32 z] w fun e w' => e = .returned (.int .u32 (S.ch x y z : Nat)) ∧ w' = w := by
  have hs : IntKind.u32.signed = false := rfl
  have hn := not_is x hx
  go_enter Try.func97, Try.ntmps97
  go_wp2
  go_ret
  refine ⟨ret_int ?_, rfl⟩
  have h1 : 4294967295 - x < 4294967296 := by omega
  rw [u32_and_nat _ _ hx hy, u32_and_nat _ _ h1 hz, u32_xor_nat _ _ (S.and_lt hx) (S.and_lt h1)]
  rfl

set_option maxHeartbeats 400000 in
theorem majority_any (x y z : Nat) (hx : x < 4294967296) (hy : y < 4294967296) (hz : z < 4294967296) (w : World) :
    Calls Try.prog 98 #[.int .u32 x, .int .u32 y, .int .u32 z] w fun e w' => e = .returned (.int .u32 (S.maj x y z : Nat)) ∧ w' = w := by
  go_enter Try.func98, Try.ntmps98
  go_wp2
  go_ret
  refine ⟨ret_int ?_, rfl⟩
  rw [u32_and_nat _ _ hx hy, u32_and_nat _ _ hx hz, u32_and_nat _ _ hy hz, u32_xor_nat _ _ (S.and_lt hx) (S.and_lt hx), u32_xor_nat _ _ (S.xor_lt (S.and_lt hx) (S.and_lt hx)) (S.and_lt hy)]
  rfl

theorem small7 (x : Nat) (hx : x < 4294967296) (w : World) : Calls Try.prog 103 #[.int .u32 x, .int .i64 7, .int .i64 18, .int .i64 3] w fun e w' => e = .returned (.int .u32 (S.small x 7 18 3 : Nat)) ∧ ∃ n, w' = w.drewN n :=
  smallSum_any x 7 18 3 hx (by decide) (by decide) (by decide) (by decide) (by decide) w
theorem small17 (x : Nat) (hx : x < 4294967296) (w : World) : Calls Try.prog 103 #[.int .u32 x, .int .i64 17, .int .i64 19, .int .i64 10] w fun e w' => e = .returned (.int .u32 (S.small x 17 19 10 : Nat)) ∧ ∃ n, w' = w.drewN n :=
  smallSum_any x 17 19 10 hx (by decide) (by decide) (by decide) (by decide) (by decide) w
theorem big6 (x : Nat) (hx : x < 4294967296) (w : World) : Calls Try.prog 96 #[.int .u32 x, .int .i64 6, .int .i64 11, .int .i64 25] w fun e w' => e = .returned (.int .u32 (S.big x 6 11 25 : Nat)) ∧ w' = w :=
  bigSum_any x 6 11 25 hx (by decide) (by decide) (by decide) (by decide) (by decide) (by decide) w
theorem big2 (x : Nat) (hx : x < 4294967296) (w : World) : Calls Try.prog 96 #[.int .u32 x, .int .i64 2, .int .i64 13, .int .i64 22] w fun e w' => e = .returned (.int .u32 (S.big x 2 13 22 : Nat)) ∧ w' = w :=
  bigSum_any x 2 13 22 hx (by decide) (by decide) (by decide) (by decide) (by decide) (by decide) w

end Go.Proofs.Ytbkeodgiflfakaa
