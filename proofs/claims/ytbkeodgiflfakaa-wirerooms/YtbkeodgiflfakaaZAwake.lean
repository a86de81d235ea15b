/-
  Layer 7: Nonce, Seq; the example.
-/
import Derived.Test.YtbkeodgiflfakaaZOpen
namespace Go.Proofs.Ytbkeodgiflfakaa
open Go.RowKit
set_option linter.unusedVariables false
set_option maxRecDepth 20000

theorem awake4x_any (w : World) : Calls Try.prog 59 #[] w fun e w' => e = .returned (.bool true) ∧ Below w.heap.size w w' := by
  go_enter Try.func59, Try.ntmps59
  go_wp2_with fail
  refine (awake4_any _).mono ?_
  rintro e w1 ⟨rfl, b1⟩
  go_wp2
  go_ret
  exact ⟨rfl, b1⟩
theorem awake6x_any (w : World) : Calls Try.prog 60 #[] w fun e w' => e = .returned (.bool true) ∧ Below w.heap.size w w' := by
  go_enter Try.func60, Try.ntmps60
  go_wp2_with fail
  refine (awake6_any _).mono ?_
  rintro e w1 ⟨rfl, b1⟩
  go_wp2
  go_ret
  exact ⟨rfl, b1⟩

set_option maxHeartbeats 2000000 in
theorem awake7_any (w : World) : Calls Try.prog 47 #[] w fun e w' => e = .returned (.bool true) ∧ Below w.heap.size w w' := by
  have CN : Hid (∀ wx, Calls Try.prog 19 #[.string ⟨#[107, 101, 121]⟩] wx fun e w' => e = .returned (.tuple #[.agg (keyBox [107, 101, 121]).toArray, .int .i64 0]) ∧ Below wx.heap.size wx w') := fun wx => sealNew_yes ⟨#[107, 101, 121]⟩ (by decide) (by decide) wx
  have CS : Hid (∀ wx, Calls Try.prog 21 #[.agg (keyBox [107, 101, 121]).toArray, .int .u64 1, .int .u64 2, .string ⟨#[104, 105]⟩] wx fun e w' => e = .returned (.string ⟨(Z7.sealL [107, 101, 121] 1 2 [104, 105]).toArray⟩) ∧ Below wx.heap.size wx w') := fun wx => seal_any _ [107, 101, 121] (.inl rfl) 1 2 ⟨#[104, 105]⟩ (by decide) (by decide) (by decide) wx
  have CO : Hid (∀ wx, Calls Try.prog 24 #[.agg (keyBox [107, 101, 121]).toArray, .int .u64 1, .int .u64 2, .string ⟨(Z7.sealL [107, 101, 121] 1 2 [104, 105]).toArray⟩] wx fun e w' => e = .returned (.tuple #[.string ⟨#[104, 105]⟩, .int .i64 0]) ∧ Below wx.heap.size wx w') := fun wx => by
    have := open_any _ [107, 101, 121] (.inl rfl) 1 2 ⟨(Z7.sealL [107, 101, 121] 1 2 [104, 105]).toArray⟩ (by decide) (by decide) (by rw [size_ofL, Z7.sealL_length]; decide) wx
    rw [show (⟨(Z7.sealL [107, 101, 121] 1 2 [104, 105]).toArray⟩ : ByteArray).data.toList = Z7.sealL [107, 101, 121] 1 2 [104, 105] from rfl, Z7.openL_seal, Z7.openE_seal] at this
    exact this
  have hs : (⟨(Z7.sealL [107, 101, 121] 1 2 [104, 105]).toArray⟩ : ByteArray).size = 18 := by rw [size_ofL, Z7.sealL_length]; rfl
  have hik := info17c (keyBox_length [107, 101, 121])
  have HKL := Lib.hid (keyBox_length [107, 101, 121])
  have HZL : Hid (zeroBox.length = 17) := zeroBox_length
  have HKA := Lib.hid (keyBox_all [107, 101, 121])
  generalize keyBox [107, 101, 121] = Y at *
  generalize (⟨(Z7.sealL [107, 101, 121] 1 2 [104, 105]).toArray⟩ : ByteArray) = T at *
  have HO : Hid (zeroBox.toArray.size = Y.toArray.size) := by show _ = _; rw [List.size_toArray, List.size_toArray, HZL.out, HKL.out]
  go_enter Try.func47, Try.ntmps47
  go_wp2_with fail
  refine (CN.out _).mono ?_
  rintro e w1 ⟨rfl, b1⟩
  have r1 : Row (w1.alloc (.cells Y.toArray 55 (0, 0))) w1.heap.size 55 Y := Row.new' rfl rfl
  have hb1 := b1.alloc b1.size (.cells Y.toArray 55 (0, 0))
  clear b1
  go_wp2_with (first
    | refine wpList_store_new rfl 55 (.tmp 1) (.tmp 8) rfl w1 zeroBox.toArray _ _ _ rfl rfl rfl hik HO.out HKA.out ?_
    | refine wpList_load_row rfl 55 (.tmp 1) rfl w1.heap.size rfl _ _ _ _ r1 Try.underlying55 rfl hik ?_)
  refine (CS.out _).mono ?_
  rintro e w2 ⟨rfl, b2⟩
  have r2 := r1.below b2 r1.lt
  have hb2 := hb1.trans (b2.mono hb1.size)
  clear b2 r1 hb1
  go_wp2_with (first
    | refine wpList_load_row rfl 55 (.tmp 1) rfl w1.heap.size rfl _ _ _ _ r2 Try.underlying55 rfl hik ?_)
  refine (CO.out _).mono ?_
  rintro e w3 ⟨rfl, b3⟩
  have hb3 := hb2.trans (b3.mono hb2.size)
  clear b3 r2 hb2
  go_wp2_with fail
  refine (awake4x_any _).mono ?_
  rintro e w4 ⟨rfl, b4⟩
  have hb4 := hb3.trans (b4.mono hb3.size)
  clear b4 hb3
  go_wp2_with fail
  refine (awake6x_any _).mono ?_
  rintro e w5 ⟨rfl, b5⟩
  have hb5 := hb4.trans (b5.mono hb4.size)
  clear b5 hb4
  go_wp2_with fail
  refine (size_any 0 (by decide) _).mono ?_
  rintro e w5 ⟨rfl, rfl⟩
  go_wp2
  go_ret
  exact ⟨rfl, hb5⟩

end Go.Proofs.Ytbkeodgiflfakaa
