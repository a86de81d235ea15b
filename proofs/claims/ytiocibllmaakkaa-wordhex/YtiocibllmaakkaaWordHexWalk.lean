/-
  Layer 1: the walk of WordHex: it answers true at every two texts.
-/
import Derived.Test.YtiocibllmaakkaaAwake
import Derived.Test.YtiocibllmaakkaaHex
import Derived.Test.YtiocibllmaakkaaHexLaws
import Derived.OpenShut
namespace Go.Proofs.Ytiocibllmaakkaa.WordHexW
open Go.RowKit
set_option linter.unusedVariables false

/-- word.Unhex of a text of odd length. -/
theorem unhex_odd (s : ByteArray) (h : s.size % 2 = 1) (hs : s.size ≤ 1000) (w : World) :
    Calls Try.prog 19 #[.string s] w fun e w' => e = .returned (.tuple #[.string ⟨#[]⟩, .int .i64 4]) ∧ w' = w := by
  have h2 : ((s.size : Int) % 2 != 0) = true := by rw [bne_iff_ne]; omega
  go_enter Try.func19, Try.ntmps19
  go_wp2
  go_step3
  go_wp2
  rw [Exit.noGoto_ret]
  go_ret2
  exact ⟨rfl, rfl⟩

theorem size_of (s : ByteArray) : s.size = s.data.toList.length := by simp
theorem add_data (a b : ByteArray) : (a ++ b).data.toList = a.data.toList ++ b.data.toList := by simp

/-- word.Hex, its text told by its bytes. -/
theorem hex_is (s : ByteArray) (hs : s.size ≤ 70368744177664) (w : World) :
    Calls Try.prog 18 #[.string s] w fun e w' => ∃ x : ByteArray, e = .returned (.string x) ∧ x.data.toList = W.hexL s.data.toList ∧ Below w.heap.size w w' :=
  (hex_any s hs w).mono fun e w' h => ⟨_, h.1, by simp, h.2⟩

theorem same_iff (x y a b : ByteArray) (hx : x.data.toList = W.hexL a.data.toList) (hy : y.data.toList = W.hexL b.data.toList) : (x.toList == y.toList) = (a.toList == b.toList) := by
  rw [ByteArray.toList_eq, ByteArray.toList_eq, ByteArray.toList_eq, ByteArray.toList_eq, hx, hy, Bool.eq_iff_iff, beq_iff_eq, beq_iff_eq]
  exact ⟨W.hex_inj _ _, fun h => by rw [h]⟩

set_option maxHeartbeats 2000000 in
theorem walk (a0 : ByteArray) (a1 : ByteArray) (w : World) (w0 : a0.size ≤ maxLen) (w1 : a1.size ≤ maxLen) :
    Calls Try.prog 6 #[.string a0, .string a1] w fun e w' => e = .returned (.bool true) ∧ Below w.heap.size w w' := by
  unfold maxLen at w0 w1
  go_enter Try.func6, Try.ntmps6
  go_wp2_with fail
  refine (awake_any _).mono ?_
  rintro e w1 ⟨rfl, hb1⟩
  by_cases hL : a0.size ≤ 100 ∧ a1.size ≤ 100
  · obtain ⟨hs, ht⟩ := hL
    go_wp2_with fail
    refine (hex_is a0 (by omega) _).mono ?_
    rintro e w2 ⟨x, rfl, hx, hb2⟩
    have sx : x.size = 2 * a0.size := by rw [size_of, hx, W.hexL_length, ← size_of]
    have HX := Lib.hid hx
    clear hx
    go_wp2_with fail
    refine (hex_is a1 (by omega) _).mono ?_
    rintro e w3 ⟨y, rfl, hy, hb3⟩
    have sy : y.size = 2 * a1.size := by rw [size_of, hy, W.hexL_length, ← size_of]
    have HY := Lib.hid hy
    clear hy
    have q1 := fun wx => run_string_add_sum (P := Try.prog) wx x (⟨#[48]⟩ : ByteArray) (by have : (⟨#[48]⟩ : ByteArray).size = 1 := rfl; omega)
    have q2 := fun wx => run_string_add_sum (P := Try.prog) wx a0 a1 (by omega)
    have q3 := fun wx => run_string_add_sum (P := Try.prog) wx x y (by omega)
    have so : (x ++ (⟨#[48]⟩ : ByteArray)).size = 2 * a0.size + 1 := by rw [ByteArray.size_append, sx]; rfl
    have st : (a0 ++ a1).size = a0.size + a1.size := ByteArray.size_append
    have f2 := same_iff x y a0 a1 HX.out HY.out
    have f3 : ((x.size : Int) == 2 * (a0.size : Int)) = true := by rw [beq_iff_eq]; omega
    have f4 : Lib.compareBytes x.data.toList y.data.toList = Lib.compareBytes a0.data.toList a1.data.toList := by rw [HX.out, HY.out]; exact W.hex_cmp _ _
    have hb4 : Below w.heap.size w w3 := (hb1.trans (hb2.mono hb1.size)).trans (hb3.mono (Nat.le_trans hb1.size hb2.size))
    have F4 := Lib.hid f4
    have F3 := Lib.hid f3
    have SX := Lib.hid sx
    clear hb1 hb2 hb3 sx sy f4 f3
    go_wp2_with fail
    refine (unhex_odd _ (by omega) (by omega) _).mono ?_
    rintro e w4 ⟨rfl, rfl⟩
    go_wp2_with fail
    refine (hex_is _ (by omega) _).mono ?_
    rintro e w5 ⟨z, rfl, hz, hb5⟩
    have f1 : (z.toList == (x ++ y).toList) = true := by
      rw [beq_iff_eq, ByteArray.toList_eq, ByteArray.toList_eq, hz, add_data, add_data, W.hexL_append, HX.out, HY.out]
    have hb6 := hb4.trans (hb5.mono hb4.size)
    have f3 := F3.out
    clear hb4 hb5 hz
    go_wp2_with fail
    refine (Try.strings_Compare _ _ _).mono ?_
    rintro e w6 ⟨rfl, rfl⟩
    go_wp2_with fail
    refine (Try.strings_Compare _ _ _).mono ?_
    rintro e w7 ⟨rfl, rfl⟩
    rw [F4.out]
    go_wp2
    go_ret
    exact ⟨rfl, hb6⟩
  · have hg : (100 : Int) < max (a0.size : Int) (a1.size : Int) := by omega
    go_wp2
    go_ret
    exact ⟨rfl, hb1⟩

end Go.Proofs.Ytiocibllmaakkaa.WordHexW
