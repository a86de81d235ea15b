/-
  Layer 7: Head, Size.
-/
import Derived.Test.YtbkeodgiflfakaaPut
import Derived.Test.YtbkeodgiflfakaaCPlain
namespace Go.Proofs.Ytbkeodgiflfakaa
open Go.RowKit
set_option linter.unusedVariables false
set_option maxRecDepth 20000

set_option maxHeartbeats 1000000 in
theorem head_any (id n : Nat) (h1 : id ≤ 18446744073709551615) (h2 : n ≤ 18446744073709551615) (w : World) :
    Calls Try.prog 23 #[.int .u64 (id : Int), .int .u64 (n : Int)] w fun e w' => e = .returned (.string ⟨(C.blk id n).toArray⟩) ∧ Below w.heap.size w w' := by
  have C1 : Hid (∀ wx, Calls Try.prog 33 #[.int .u64 (id : Int), .int .i64 8] wx fun e w' => e = .returned (.string ⟨(W.putL id 8).toArray⟩) ∧ Below wx.heap.size wx w') := fun wx => put_mid id 8 h1 (by decide) wx
  have C2 : Hid (∀ wx, Calls Try.prog 33 #[.int .u64 (n : Int), .int .i64 8] wx fun e w' => e = .returned (.string ⟨(W.putL n 8).toArray⟩) ∧ Below wx.heap.size wx w') := fun wx => put_mid n 8 h2 (by decide) wx
  have e : (⟨(C.blk id n).toArray⟩ : ByteArray) = ⟨(W.putL id 8).toArray⟩ ++ ⟨(W.putL n 8).toArray⟩ := Go.WideShapes.bytes_inj (by simp [C.blk])
  have s1 : (⟨(W.putL id 8).toArray⟩ : ByteArray).size = 8 := by simp [ByteArray.size, W.putL_length]
  have s2 : (⟨(W.putL n 8).toArray⟩ : ByteArray).size = 8 := by simp [ByteArray.size, W.putL_length]
  rw [e]
  clear e
  generalize (⟨(W.putL id 8).toArray⟩ : ByteArray) = x at *
  generalize (⟨(W.putL n 8).toArray⟩ : ByteArray) = y at *
  go_enter Try.func23, Try.ntmps23
  go_wp2_with fail
  refine (C1.out _).mono ?_
  rintro e w1 ⟨rfl, b1⟩
  go_wp2_with fail
  refine (C2.out _).mono ?_
  rintro e w2 ⟨rfl, b2⟩
  have hb := b1.trans (b2.mono b1.size)
  clear b1 b2
  go_wp2
  go_ret
  exact ⟨rfl, hb⟩

set_option maxHeartbeats 1000000 in
theorem size_any (n : Nat) (hn : n ≤ 1000000) (w : World) :
    Calls Try.prog 34 #[.int .i64 (n : Int)] w fun e w' => e = .returned (.int .i64 ((n : Int) + 16)) ∧ w' = w := by
  have hmin : min (n : Int) 9223372036854775791 = n := by omega
  go_enter Try.func34, Try.ntmps34
  go_wp2
  go_ret
  exact ⟨rfl, rfl⟩

end Go.Proofs.Ytbkeodgiflfakaa
