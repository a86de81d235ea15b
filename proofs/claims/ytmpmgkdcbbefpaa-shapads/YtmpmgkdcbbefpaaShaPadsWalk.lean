/-
  Layer 3: the walk of ShaPads: it answers true at every two texts.
-/
import Derived.Test.YtmpmgkdcbbefpaaSAwake
import Derived.Test.YtmpmgkdcbbefpaaSPadLaws
import Derived.OpenShut
namespace Go.Proofs.Ytmpmgkdcbbefpaa.ShaPadsW
open Go.RowKit
set_option linter.unusedVariables false

theorem size_of (s : ByteArray) : s.size = s.data.toList.length := by simp
theorem add_data (a b : ByteArray) : (a ++ b).data.toList = a.data.toList ++ b.data.toList := by simp

/-- sha.Whole, its text told by its bytes. -/
theorem whole_is (s : ByteArray) (hs : s.size ≤ 1000000) (w : World) :
    Calls Try.prog 16 #[.string s] w fun e w' => ∃ x : ByteArray, e = .returned (.string x) ∧ x.data.toList = S.padL s.data.toList ∧ Below w.heap.size w w' :=
  (whole_any s hs w).mono fun e w' h => ⟨_, h.1, by simp, h.2⟩

theorem get_of {x : ByteArray} {l : List UInt8} {i : Nat} {b : UInt8} (hx : x.data.toList = l) (h : l[i]? = some b) (hi : i < x.size) : x[i] = b := by
  subst hx
  have : x.data.toList[i]? = some x[i] := by rw [List.getElem?_eq_getElem (by simpa using hi)]; rfl
  rw [this] at h
  exact Option.some.inj h

set_option maxHeartbeats 2000000 in
theorem walk (a0 : ByteArray) (a1 : ByteArray) (w : World) (w0 : a0.size ≤ maxLen) (w1 : a1.size ≤ maxLen) :
    Calls Try.prog 6 #[.string a0, .string a1] w fun e w' => e = .returned (.bool true) ∧ Below w.heap.size w w' := by
  unfold maxLen at w0 w1
  go_enter Try.func6, Try.ntmps6
  go_wp2_with fail
  refine (awake3_any _).mono ?_
  rintro e w1 ⟨rfl, hb1⟩
  by_cases hL : a0.size ≤ 300 ∧ a1.size ≤ 300
  · obtain ⟨hs, ht⟩ := hL
    go_wp2_with fail
    refine (whole_is a0 (by omega) _).mono ?_
    rintro e w2 ⟨p, rfl, hp, hb2⟩
    have HP := Lib.hid hp
    have sp : p.size = (S.padL a0.data.toList).length := by rw [size_of, hp]
    have lp := S.padL_length a0.data.toList
    have mp := S.padL_mod a0.data.toList
    have np := S.noughts_le a0.data.toList.length
    have f4 := S.padL_last a0.data.toList
    have f5 := S.padL_last2 a0.data.toList
    rw [← sp] at lp mp f4 f5
    rw [← size_of] at lp np f4 f5
    have s1 : p.size % 64 = 0 := mp
    have s2 : a0.size + 9 ≤ p.size := by omega
    have s3 : p.size < a0.size + 73 := by omega
    have i4 : p.size - 1 < p.size := by omega
    have i5 : p.size - 2 < p.size := by omega
    have G4 : Hid (p[p.size - 1] = UInt8.ofNat (8 * a0.size)) := get_of hp f4 i4
    have G5 : Hid (p[p.size - 2] = UInt8.ofNat (8 * a0.size / 256)) := get_of hp f5 i5
    clear hp sp lp mp np f4 f5
    go_wp2_with fail
    refine (whole_is a1 (by omega) _).mono ?_
    rintro e w3 ⟨q, rfl, hq, hb3⟩
    have HQ := Lib.hid hq
    clear hq
    have hadd := fun wx => run_string_add_sum (P := Try.prog) wx a0 (⟨#[128]⟩ : ByteArray) (by have : (⟨#[128]⟩ : ByteArray).size = 1 := rfl; omega)
    have hb4 : Below w.heap.size w w3 := (hb1.trans (hb2.mono hb1.size)).trans (hb3.mono (Nat.le_trans hb1.size hb2.size))
    clear hb1 hb2 hb3
    have t1 : ((p.size : Int) % 64 == 0) = true := by rw [beq_iff_eq]; omega
    have t2 : (9 : Int) ≤ (p.size : Int) - (a0.size : Int) := by omega
    have t3 : (p.size : Int) - (a0.size : Int) < 73 := by omega
    go_wp2_with fail
    refine (Try.strings_HasPrefix _ _ _).mono ?_
    rintro e w4 ⟨rfl, rfl⟩
    have hpre : Lib.hasPrefix p.data.toList (a0 ++ (⟨#[128]⟩ : ByteArray)).data.toList = true := by
      rw [HP.out, add_data]; exact S.padL_prefix _
    rw [hpre]
    have g4 : (p[p.size - 1].toNat : Int) = 8 * (a0.size : Int) % 256 := by rw [G4.out, UInt8.toNat_ofNat']; omega
    have g5 : (p[p.size - 2].toNat : Int) = (a0.size : Int) / 32 % 256 := by rw [G5.out, UInt8.toNat_ofNat']; omega
    have g6 : (p.toList == q.toList) = (a0.toList == a1.toList) := by
      rw [ByteArray.toList_eq, ByteArray.toList_eq, ByteArray.toList_eq, ByteArray.toList_eq, HP.out, HQ.out, Bool.eq_iff_iff, beq_iff_eq, beq_iff_eq]
      exact ⟨fun h => S.padL_inj (by rw [← size_of]; omega) (by rw [← size_of]; omega) h, fun h => by rw [h]⟩
    clear hpre
    go_wp2
    go_ret
    exact ⟨rfl, hb4⟩
  · have hg : (300 : Int) < max (a0.size : Int) (a1.size : Int) := by omega
    go_wp2
    go_ret
    exact ⟨rfl, hb1⟩

end Go.Proofs.Ytmpmgkdcbbefpaa.ShaPadsW
