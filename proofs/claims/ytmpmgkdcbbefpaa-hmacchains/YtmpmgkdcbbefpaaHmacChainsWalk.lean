/-
  Layer 4: the walk of HmacChains: it answers true at every key, label and number.
-/
import Derived.Test.YtmpmgkdcbbefpaaHDerive
import Derived.OpenShut
namespace Go.Proofs.Ytmpmgkdcbbefpaa.HmacChainsW
open Go.RowKit
set_option linter.unusedVariables false

theorem size_of (s : ByteArray) : s.size = s.data.toList.length := by simp
theorem nil_of {x : ByteArray} (h : x.data.toList = []) : x = ⟨#[]⟩ := by
  apply ByteArray.ext
  exact Array.toList_inj.1 h

set_option maxHeartbeats 2000000 in
theorem core (a0 a1 : ByteArray) (a2 : Int) (w : World) (w0 : a0.size ≤ maxLen) (w1 : a1.size ≤ maxLen) (p2 : 0 ≤ a2) (q2 : a2 ≤ 255) :
    Calls Try.prog 10 #[.string a0, .string a1, .int .u8 a2] w fun e w' => e = .returned (.bool true) ∧ Below w.heap.size w w' := by
  unfold maxLen at w0 w1
  obtain ⟨K, hK⟩ : ∃ K : Nat, (K : Int) = 1 + a2 % 8 := ⟨(1 + a2 % 8).toNat, by omega⟩
  have hK1 : 1 ≤ K := by omega
  have hK8 : K ≤ 8 := by omega
  have eK : (1 : Int) + a2 % 8 = (K : Int) := hK.symm
  clear hK
  go_enter Try.func10, Try.ntmps10
  go_wp2_with fail
  refine (awake4_any _).mono ?_
  rintro e w1 ⟨rfl, hb1⟩
  by_cases hL : a0.size ≤ 200 ∧ a1.size ≤ 200
  · obtain ⟨hs, ht⟩ := hL
    go_wp2_with fail
    rw [show (32 : Int) * (K : Int) = ((32 * K : Nat) : Int) from by omega]
    refine (derive_mid a0 a1 (32 * K) (by omega) (by omega) (by omega) _).mono ?_
    rintro e w2 ⟨x, rfl, hx, hb2⟩
    have hb2' := hb1.trans (hb2.mono hb1.size)
    have hxs : x.size = 32 * K := by rw [size_of, hx, H.deriveL_length]
    rw [H.deriveL_whole] at hx
    have HX := Lib.hid hx
    clear hb1 hb2 hx
    go_wp2_with fail
    refine (derive_mid a0 a1 0 (by omega) (by omega) (by omega) _).mono ?_
    rintro e w3 ⟨y, rfl, hy, hb3⟩
    have hb3' := hb2'.trans (hb3.mono hb2'.size)
    obtain rfl : y = ⟨#[]⟩ := nil_of (by rw [hy]; exact List.eq_nil_of_length_eq_zero (H.deriveL_length _ _ 0))
    clear hb2' hb3 hy
    have t1 : ((x.size : Int) != 32 * (K : Int)) = false := by rw [bne_eq_false_iff_eq]; omega
    have HXS := Lib.hid hxs
    clear hxs
    go_wp2
    go_loopw [12, 59] (fun lv iv wx => ∃ (i : Nat) (t : ByteArray), i ≤ K ∧ lv = .string t ∧ iv = .int .i64 i ∧ t.size ≤ 32 ∧ Hid (t.data.toList = H.tt a0.data.toList a1.data.toList i) ∧ Below w.heap.size w wx) (fun _ iv _ => K - (intOf iv).toNat)
    case atStart => exact ⟨0, ⟨#[]⟩, Nat.zero_le _, rfl, rfl, Nat.zero_le _, rfl, hb3'⟩
    case round =>
      clear hb3'
      obtain ⟨i, t, hi, rfl, rfl, hts, HT, hbl⟩ := hrel
      by_cases hlt : i < K
      · obtain ⟨bb, hbb⟩ : ∃ bb, bb = UInt8.ofNat (i + 1) := ⟨_, rfl⟩
        have hcv := conv_one wr ((i : Int) + 1) bb (by rw [hbb, UInt8.toNat_ofNat']; omega)
        have hsl : 32 * i + 32 ≤ x.size := by rw [HXS.out]; omega
        have hTT : H.tt a0.data.toList a1.data.toList (i + 1) = H.hmacL a0.data.toList (t.data.toList ++ (a1.data.toList ++ [bb])) := by rw [hbb, HT.out]; rfl
        have HTT := Lib.hid hTT
        have hpart := H.cat_part a0.data.toList a1.data.toList hlt
        rw [← HX.out] at hpart
        have HPT := Lib.hid hpart
        clear hTT hpart hbb
        go_wp2_with fail
        refine (hSum_new a0 [t, a1, ⟨#[bb]⟩] (wr.alloc (.cells #[.int .u8 ((i : Int) + 1)] 5 (0, 0))) _ rfl 3 (wr.heap.size + 1) rfl (by simp) (by omega) (by simp) (by simp) ?hl1).mono ?_
        case hl1 =>
          rw [all_three, List.length_append, List.length_append, ← size_of, ← size_of]
          show _ + (_ + 1) ≤ _
          omega
        rintro e w2 ⟨rfl, b2⟩
        have hb2 : Below w.heap.size w w2 := (hbl.alloc hbl.size _).trans (b2.mono (by have := hbl.size; simp; omega))
        rw [all_three, show (⟨#[bb]⟩ : ByteArray).data.toList = [bb] from rfl, ← HTT.out]
        clear b2 hbl hcv HTT
        have hEx : (x.extract (32 * i) (32 * i + 32)).data.toList = H.tt a0.data.toList a1.data.toList (i + 1) := by
          rw [ByteArray.data_extract]
          simp only [Array.toList_extract, List.extract_eq_take_drop]
          rw [show 32 * i + 32 - 32 * i = 32 from by omega]
          exact HPT.out
        have hq : ((x.extract (32 * i) (32 * i + 32)).toList == H.tt a0.data.toList a1.data.toList (i + 1)) = true := by
          rw [ByteArray.toList_eq, hEx]; exact beq_self_eq_true _
        have hES : (x.extract (32 * i) (32 * i + 32)).size ≤ 32 := by rw [size_of, hEx, H.tt_length]; exact Nat.le_refl _
        have HEX := Lib.hid hEx
        have HES : Hid ((x.extract (32 * i) (32 * i + 32)).size ≤ 32) := hES
        clear hEx hES
        go_wp2
        go_roundw
        case rel => exact ⟨i + 1, _, by omega, rfl, by go_num, HES.out, HEX, hb2⟩
        case measure => simp [intOf]; omega
      · obtain rfl : i = K := by omega
        go_wp2
        go_ret
        exact ⟨rfl, hbl⟩
  · have hg : (200 : Int) < max (a0.size : Int) (a1.size : Int) := by omega
    go_wp2
    go_ret
    exact ⟨rfl, hb1⟩

theorem walk (a0 : ByteArray) (a1 : ByteArray) (a2 : Int) (w : World) (w0 : a0.size ≤ maxLen) (w1 : a1.size ≤ maxLen) (w2 : (Lit.int .u8 a2).wf = true) :
    Calls Try.prog 10 #[.string a0, .string a1, .int .u8 a2] w fun e w' => e = .returned (.bool true) ∧ Below w.heap.size w w' := by
  obtain ⟨p2, q2⟩ := bounds_u8 w2
  exact core a0 a1 a2 w w0 w1 p2 q2

end Go.Proofs.Ytmpmgkdcbbefpaa.HmacChainsW
