/-
  Layer 4: the document's own Derive.
-/
import Derived.Test.YtmpmgkdcbbefpaaHRef
import Derived.Test.YtmpmgkdcbbefpaaHDerive
namespace Go.Proofs.Ytmpmgkdcbbefpaa
open Go.RowKit
set_option linter.unusedVariables false

set_option maxHeartbeats 2000000 in
theorem refDerive_any (key label : ByteArray) (n : Nat) (hn : n ≤ 8160) (hk : key.size ≤ 100000) (hl : label.size ≤ 100000) (w : World) :
    Calls Try.prog 31 #[.string key, .string label, .int .i64 (n : Int)] w fun e w' => ∃ x : ByteArray, e = .returned (.string x) ∧ x.data.toList = H.deriveL key.data.toList label.data.toList n ∧ Below w.heap.size w w' := by
  go_enter Try.func31, Try.ntmps31
  go_wp2
  go_loopw [7, 8, 9] (fun av lv iv wx => ∃ (i : Nat) (a t : ByteArray), (i = 0 ∨ 32 * (i - 1) < n) ∧ av = .string a ∧ lv = .string t ∧ iv = .int .i64 ((i + 1 : Nat) : Int) ∧ Hid (t.data.toList = H.tt key.data.toList label.data.toList i) ∧ Hid (a.data.toList = H.cat key.data.toList label.data.toList i) ∧ Below w.heap.size w wx) (fun _ _ iv _ => 300 - (intOf iv).toNat)
  case atStart => exact ⟨0, ⟨#[]⟩, ⟨#[]⟩, .inl rfl, rfl, rfl, rfl, rfl, rfl, Below.refl _ _⟩
  case round =>
    obtain ⟨i, a, t, hi, rfl, rfl, rfl, HT, HA, hbl⟩ := hrel
    have hib : i ≤ 256 := by omega
    have has : a.size = 32 * i := by rw [size_is, HA.out, H.cat_length]
    have hts : t.size ≤ 32 := by rw [size_is, HT.out]; exact H.tt_le _ _ _
    by_cases hlt : 32 * i < n
    · obtain ⟨bb, hbb⟩ : ∃ bb, bb = UInt8.ofNat (i + 1) := ⟨_, rfl⟩
      have hcv := conv_one wr ((i : Int) + 1) bb (by rw [hbb, UInt8.toNat_ofNat']; omega)
      have hTT : H.tt key.data.toList label.data.toList (i + 1) = H.hmacL key.data.toList (t.data.toList ++ (label.data.toList ++ [bb])) := by rw [hbb, HT.out]; rfl
      have hib2 : i ≤ 254 := by omega
      obtain ⟨b1, hb1⟩ : ∃ b1 : ByteArray, b1 = ⟨#[bb]⟩ := ⟨_, rfl⟩
      have hb1s : b1.size = 1 := by rw [hb1]; rfl
      obtain ⟨p1, hp1⟩ : ∃ p1, p1 = t ++ label := ⟨_, rfl⟩
      have hp1s : p1.size = t.size + label.size := by rw [hp1, ByteArray.size_append]
      obtain ⟨p2, hp2⟩ : ∃ p2, p2 = p1 ++ b1 := ⟨_, rfl⟩
      have hp2s : p2.size = p1.size + b1.size := by rw [hp2, ByteArray.size_append]
      have hadd1 := fun wx => run_string_add_sum (P := Try.prog) wx t label (by omega)
      have hadd2 := fun wx => run_string_add_sum (P := Try.prog) wx p1 b1 (by omega)
      rw [← hp1] at hadd1
      rw [← hp2] at hadd2
      obtain ⟨u, hu⟩ : ∃ u : ByteArray, u = ⟨(H.tt key.data.toList label.data.toList (i + 1)).toArray⟩ := ⟨_, rfl⟩
      have hud : u.data.toList = H.tt key.data.toList label.data.toList (i + 1) := by rw [hu]
      have hus : u.size = 32 := by rw [size_is, hud, H.tt_length]
      have CS : Hid (∀ w, Calls Try.prog 28 #[.string key, .string p2] w fun e w' => e = .returned (.string u) ∧ Below w.heap.size w w') := by
        intro w
        have := refSum_any key p2 (by omega) (by omega) w
        rw [show p2.data.toList = t.data.toList ++ (label.data.toList ++ [bb]) from by rw [hp2, add_bytes, hp1, add_bytes, hb1, List.append_assoc], ← hTT, ← hu] at this
        exact this
      have hadd3 := fun wx => run_string_add_sum (P := Try.prog) wx a u (by omega)
      have HA2 : Hid ((a ++ u).data.toList = H.cat key.data.toList label.data.toList (i + 1)) := by
        show (a ++ u).data.toList = _
        rw [add_bytes, HA.out, hud]; rfl
      have HUD := Lib.hid hud
      rw [← hb1] at hcv
      have hlt' : (a.size : Int) < (n : Int) := by omega
      clear hTT hbb hb1 hb1s hp1 hp2 hp1s hp2s hu hud hus HT HA
      go_wp2_with fail
      refine (CS.out _).mono ?_
      rintro e w2 ⟨rfl, b2⟩
      have hb2 : Below w.heap.size w w2 := (hbl.alloc hbl.size _).trans (b2.mono (by have := hbl.size; simp; omega))
      clear b2 hbl CS
      go_wp2
      go_roundw
      case rel => exact ⟨i + 1, _, u, .inr (by simpa using hlt), rfl, rfl, by go_num, HUD, HA2, hb2⟩
      case measure => simp [intOf]; omega
    · have hge : ¬ (a.size : Int) < (n : Int) := by omega
      have hge2 : (n : Int) ≤ (a.size : Int) := by omega
      go_wp2
      go_ret
      refine ⟨_, rfl, ?_, hbl⟩
      rw [ByteArray.data_extract]
      simp only [Array.toList_extract, List.extract_eq_take_drop, List.drop_zero, Nat.sub_zero]
      rw [HA.out]
      exact H.deriveL_of _ _ (by omega)

end Go.Proofs.Ytmpmgkdcbbefpaa
