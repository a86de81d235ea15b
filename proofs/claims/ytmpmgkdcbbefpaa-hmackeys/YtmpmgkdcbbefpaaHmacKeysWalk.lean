/-
  Layer 4: the walk of HmacKeys: it answers true at every key, text and number.
-/
import Derived.Test.YtmpmgkdcbbefpaaHAwake
import Derived.OpenShut
namespace Go.Proofs.Ytmpmgkdcbbefpaa.HmacKeysW
open Go.RowKit
set_option linter.unusedVariables false

theorem size_of (s : ByteArray) : s.size = s.data.toList.length := by simp
theorem all_one (s : ByteArray) : allOf [s] = s.data.toList := by simp [allOf]
theorem repeatL_zero (n : Nat) : Lib.repeatL [0] n = List.replicate n (0 : UInt8) := by
  induction n with
  | zero => rfl
  | succ n ih => rw [List.replicate_succ, ← ih]; rfl

set_option maxHeartbeats 2000000 in
theorem core (a0 a1 : ByteArray) (a2 : Int) (w : World) (w0 : a0.size ≤ maxLen) (w1 : a1.size ≤ maxLen) (p2 : 0 ≤ a2) (q2 : a2 ≤ 255) :
    Calls Try.prog 9 #[.string a0, .string a1, .int .u8 a2] w fun e w' => e = .returned (.bool true) ∧ Below w.heap.size w w' := by
  unfold maxLen at w0 w1
  go_enter Try.func9, Try.ntmps9
  go_wp2_with fail
  refine (awake4_any _).mono ?_
  rintro e w1 ⟨rfl, hb1⟩
  by_cases hL : a0.size ≤ 200 ∧ a1.size ≤ 200
  · obtain ⟨hs, ht⟩ := hL
    go_wp2_with fail
    refine (hSum_new a0 [a1] w1 _ rfl 1 _ rfl rfl (by omega) (by simp) (by simp) (by rw [all_one, ← size_of]; omega)).mono ?_
    rintro e w2 ⟨rfl, hb2⟩
    have hb2' := hb1.trans (hb2.mono hb1.size)
    rw [all_one]
    clear hb1 hb2
    by_cases hlong : 64 < a0.size
    · go_wp2_with fail
      refine (text_any _ [a0] _ (isStrs_at _ _ [a0] _ rfl 1 rfl _ (by simp)) (by simp) (by rw [all_one, ← size_of]; omega)).mono ?_
      rintro e w3 ⟨rfl, hb3⟩
      have hb3' := (hb2'.alloc hb2'.size _).trans (hb3.mono (by have := hb2'.size; simp; omega))
      rw [all_one]
      clear hb2' hb3
      have hk := H.hmacL_key (H.keyL_sum a0.data.toList (by rw [← size_of]; exact hlong)) a1.data.toList
      go_wp2_with fail
      refine (hSum_new _ [a1] w3 _ rfl 1 _ rfl rfl (by rw [sum_size]; decide) (by simp) (by simp) (by rw [all_one, ← size_of]; omega)).mono ?_
      rintro e w4 ⟨rfl, hb4⟩
      have hb4' := hb3'.trans (hb4.mono hb3'.size)
      rw [all_one, show (⟨(S.sumL a0.data.toList).toArray⟩ : ByteArray).data.toList = S.sumL a0.data.toList from by simp, hk]
      clear hb3' hb4 hk
      go_wp2
      go_ret
      exact ⟨rfl, hb4'⟩
    · obtain ⟨n, hn⟩ : ∃ n : Nat, (n : Int) = a2 % (65 - (a0.size : Int)) := ⟨(a2 % (65 - (a0.size : Int))).toNat, by have := Int.emod_nonneg a2 (show (65 - (a0.size : Int)) ≠ 0 by omega); omega⟩
      have hn64 : a0.size + n ≤ 64 := by have := Int.emod_lt_of_pos a2 (show (0 : Int) < 65 - (a0.size : Int) by omega); omega
      have hne : ¬ (65 : Int) - (a0.size : Int) = 0 := by omega
      have hn' : a2 % (65 - (a0.size : Int)) = (n : Int) := hn.symm
      have hpos : (0 : Int) < 65 - (a0.size : Int) := by omega
      clear hn
      go_wp2_with fail
      refine (Try.strings_Repeat ⟨#[0]⟩ n _ (by omega) (by show 1 * n ≤ _; omega)).mono ?_
      rintro e w3 ⟨rfl, hb3⟩
      have hb3' := hb2'.trans (hb3.mono hb2'.size)
      obtain ⟨z, hz⟩ : ∃ z : ByteArray, z = ⟨(Lib.repeatL (⟨#[0]⟩ : ByteArray).data.toList n).toArray⟩ := ⟨_, rfl⟩
      have hzd : z.data.toList = List.replicate n 0 := by rw [hz]; exact repeatL_zero n
      have hzs : z.size = n := by rw [size_of, hzd, List.length_replicate]
      rw [← hz]
      have HZD := Lib.hid hzd
      have hadd := fun wx => run_string_add_sum (P := Try.prog) wx a0 z (by omega)
      have hsz : (a0 ++ z).size = a0.size + z.size := ByteArray.size_append
      have HSZ : Hid ((a0 ++ z).size = a0.size + n) := by rw [← hzs]; exact hsz
      clear hz hzd hzs hsz hb2' hb3
      go_wp2_with fail
      refine (hSum_new (a0 ++ z) [a1] w3 _ rfl 1 _ rfl rfl (by rw [HSZ.out]; omega) (by simp) (by simp) (by rw [all_one, ← size_of]; omega)).mono ?_
      rintro e w4 ⟨rfl, hb4⟩
      have hb4' := hb3'.trans (hb4.mono hb3'.size)
      have hk := H.hmacL_key (H.keyL_pad a0.data.toList n (by rw [← size_of]; exact hn64)) a1.data.toList
      rw [all_one, show (a0 ++ z).data.toList = a0.data.toList ++ List.replicate n 0 from by rw [← HZD.out]; simp, hk]
      clear hb3' hb4 hk
      go_wp2
      go_ret
      exact ⟨rfl, hb4'⟩
  · have hg : (200 : Int) < max (a0.size : Int) (a1.size : Int) := by omega
    go_wp2
    go_ret
    exact ⟨rfl, hb1⟩

theorem walk (a0 : ByteArray) (a1 : ByteArray) (a2 : Int) (w : World) (w0 : a0.size ≤ maxLen) (w1 : a1.size ≤ maxLen) (w2 : (Lit.int .u8 a2).wf = true) :
    Calls Try.prog 9 #[.string a0, .string a1, .int .u8 a2] w fun e w' => e = .returned (.bool true) ∧ Below w.heap.size w w' := by
  obtain ⟨p2, q2⟩ := bounds_u8 w2
  exact core a0 a1 a2 w w0 w1 p2 q2

end Go.Proofs.Ytmpmgkdcbbefpaa.HmacKeysW
