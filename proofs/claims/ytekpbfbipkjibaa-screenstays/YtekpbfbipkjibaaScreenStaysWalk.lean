/-
  ScreenStays: the walk.
-/
import Derived.Test.YtekpbfbipkjibaaNAwake
import Derived.Test.YtekpbfbipkjibaaSTake
import Derived.Test.YtekpbfbipkjibaaScreenStays1
import Derived.Test.YtekpbfbipkjibaaScreenStays2
import Derived.Test.YtekpbfbipkjibaaScreenStays3
import Derived.Test.YtekpbfbipkjibaaScreenStays4
import Derived.OpenShut
namespace Go.Proofs.Ytekpbfbipkjibaa
open Go.RowKit
set_option linter.unusedVariables false
set_option maxRecDepth 20000
namespace ScreenStaysW

set_option maxHeartbeats 2000000 in
theorem shortA (a0 a1 : Int) (a2 : ByteArray) (a3 : Int) (w : World) (h : (decide (1 ≤ a0) && decide (a0 ≤ 80) && decide (1 ≤ a1) && decide (a1 ≤ 24)) = false) :
    Calls Try.prog 5 #[.int .i64 a0, .int .i64 a1, .string a2, .int .u8 a3] w fun e w' => e = .returned (.bool true) ∧ Below w.heap.size w w' := by
  have CN := Lib.hid (scrNew_no a0 a1 h)
  clear h
  go_enter Try.func5, Try.ntmps5
  go_wp2_with fail
  refine (awake11_any _).mono ?_
  rintro e wa ⟨rfl, ba⟩
  go_wp2_with fail
  refine (CN.out _).mono ?_
  rintro e w2 ⟨rfl, b2⟩
  have bb2 := ba.trans (b2.mono ba.size)
  have bb3 := bb2.alloc bb2.size (.cells #[.int .i64 0, .int .i64 0, .int .i64 0, .int .i64 0, .string ⟨#[]⟩] 25 (0, 0))
  clear ba b2 bb2
  go_wp2
  go_ret
  exact ⟨rfl, bb3⟩

set_option maxHeartbeats 2000000 in
theorem shortB (wd ht : Nat) (a2 : ByteArray) (a3 : Int) (w : World) (h1 : 1 ≤ wd) (h2 : wd ≤ 80) (h3 : 1 ≤ ht) (h4 : ht ≤ 24) (hs : 2000 < a2.size) :
    Calls Try.prog 5 #[.int .i64 wd, .int .i64 ht, .string a2, .int .u8 a3] w fun e w' => e = .returned (.bool true) ∧ Below w.heap.size w w' := by
  have CN := Lib.hid (scrNew_yes wd ht h1 h2 h3 h4)
  have t1 : (2000 : Int) < (a2.size : Int) := by omega
  generalize (⟨(List.replicate (wd * ht) 32).toArray⟩ : ByteArray) = B0 at *
  go_enter Try.func5, Try.ntmps5
  go_wp2_with fail
  refine (awake11_any _).mono ?_
  rintro e wa ⟨rfl, ba⟩
  go_wp2_with fail
  refine (CN.out _).mono ?_
  rintro e w2 ⟨rfl, b2⟩
  have bb2 := ba.trans (b2.mono ba.size)
  have bb3 := bb2.alloc bb2.size (.cells #[.int .i64 wd, .int .i64 ht, .int .i64 0, .int .i64 0, .string B0] 25 (0, 0))
  clear ba b2 bb2
  go_wp2
  go_ret
  exact ⟨rfl, bb3⟩

theorem walk (a0 : Int) (a1 : Int) (a2 : ByteArray) (a3 : Int) (w : World) (w0 : (Lit.int .i64 a0).wf = true) (w1 : (Lit.int .i64 a1).wf = true) (w2 : a2.size ≤ maxLen) (w3 : (Lit.int .u8 a3).wf = true) :
    Calls Try.prog 5 #[.int .i64 a0, .int .i64 a1, .string a2, .int .u8 a3] w fun e w' => e = .returned (.bool true) ∧ Below w.heap.size w w' := by
  obtain ⟨h0, h255⟩ := bounds_u8 w3
  obtain ⟨b, rfl⟩ : ∃ b : UInt8, a3 = (b.toNat : Int) := ⟨UInt8.ofNat a3.toNat, by rw [UInt8.toNat_ofNat']; omega⟩
  by_cases h : (decide (1 ≤ a0) && decide (a0 ≤ 80) && decide (1 ≤ a1) && decide (a1 ≤ 24)) = true
  · have h' := h
    simp only [Bool.and_eq_true, decide_eq_true_eq] at h'
    obtain ⟨⟨⟨t1, t2⟩, t3⟩, t4⟩ := h'
    obtain ⟨wd, rfl⟩ := Int.eq_ofNat_of_zero_le (show 0 ≤ a0 by omega)
    obtain ⟨ht, rfl⟩ := Int.eq_ofNat_of_zero_le (show 0 ≤ a1 by omega)
    have h1 : 1 ≤ wd := by omega
    have h2 : wd ≤ 80 := by omega
    have h3 : 1 ≤ ht := by omega
    have h4 : ht ≤ 24 := by omega
    by_cases hs : a2.size ≤ 2000
    · by_cases k1 : 126 < b.toNat
      · exact coreG wd ht a2 b w h1 h2 h3 h4 hs k1
      by_cases k2 : 32 ≤ b.toNat
      · exact coreA wd ht a2 b w h1 h2 h3 h4 hs ⟨k2, by omega⟩
      by_cases k8 : b.toNat = 8
      · exact coreB wd ht a2 b w h1 h2 h3 h4 hs k8
      by_cases k10 : b.toNat = 10
      · exact coreC wd ht a2 b w h1 h2 h3 h4 hs k10
      by_cases k12 : b.toNat = 12
      · exact coreD wd ht a2 b w h1 h2 h3 h4 hs k12
      by_cases k13 : b.toNat = 13
      · exact coreE wd ht a2 b w h1 h2 h3 h4 hs k13
      · exact coreF wd ht a2 b w h1 h2 h3 h4 hs ⟨by omega, k8, k10, k12, k13⟩
    · exact shortB wd ht a2 _ w h1 h2 h3 h4 (by omega)
  · exact shortA a0 a1 a2 _ w (by simpa using h)

end ScreenStaysW
end Go.Proofs.Ytekpbfbipkjibaa
