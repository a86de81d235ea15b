/-
  Layer 1: what the document's own Hex comes to, at every text of at most 1,000 bytes.
-/
import Derived.Test.YtiocibllmaakkaaDoorPut
import Derived.Test.YtiocibllmaakkaaDoorHexPlain
import Derived.RegionTactic
import Derived.ChangeAlike
namespace Go.Proofs.YtiocibllmaakkaaDoor
open Go.RowKit
set_option linter.unusedVariables false

theorem piece_fin : ∀ m : Fin 16, (W.sixteen.drop m.val).take 1 = [W.dig m.val] := by decide
theorem piece (n : Nat) (h : n < 16) : ((⟨#[48, 49, 50, 51, 52, 53, 54, 55, 56, 57, 97, 98, 99, 100, 101, 102]⟩ : ByteArray).extract n (n + 1)).data.toList = [W.dig n] := by
  have := piece_fin ⟨n, h⟩
  rw [ByteArray.data_extract]
  simp only [Array.toList_extract, List.extract_eq_take_drop]
  rw [show n + 1 - n = 1 from by omega]
  exact this

theorem hex_next (s x : ByteArray) (k : Nat) (h : k < s.size) (hx : x.data.toList = W.hexL (s.data.toList.take k)) :
    (x ++ (⟨#[48, 49, 50, 51, 52, 53, 54, 55, 56, 57, 97, 98, 99, 100, 101, 102]⟩ : ByteArray).extract (s[k].toNat / 16) (s[k].toNat / 16 + 1) ++ (⟨#[48, 49, 50, 51, 52, 53, 54, 55, 56, 57, 97, 98, 99, 100, 101, 102]⟩ : ByteArray).extract (s[k].toNat % 16) (s[k].toNat % 16 + 1)).data.toList = W.hexL (s.data.toList.take (k + 1)) := by
  have hu := s[k].toNat_lt
  rw [W.take_snoc s k h, W.hexL_append, ← hx]
  simp only [ByteArray.data_append, Array.toList_append]
  rw [piece _ (by omega), piece _ (by omega)]
  simp [W.hexL]

set_option maxHeartbeats 1000000 in
/-- The document's Hex. -/
theorem refHex_any (s : ByteArray) (hs : s.size ≤ 1000) (w : World) :
    Calls Tryd.prog 12 #[.string s] w fun e w' => ∃ x : ByteArray, e = .returned (.string x) ∧ x.data.toList = W.hexL s.data.toList ∧ Below w.heap.size w w' := by
  go_enter Tryd.func12, Tryd.ntmps12
  go_wp2
  go_loopw [3, 4, 5, 6] (fun ov iv _ _ wr => ∃ (k : Nat) (x : ByteArray), k ≤ s.size ∧ ov = .string x ∧ iv = .int .i64 k ∧ x.size = 2 * k ∧ Hid (x.data.toList = W.hexL (s.data.toList.take k)) ∧ Below w.heap.size w wr) (fun _ iv _ _ _ => s.size - (intOf iv).toNat)
  case atStart => exact ⟨0, ⟨#[]⟩, Nat.zero_le _, rfl, rfl, rfl, rfl, Below.refl _ _⟩
  case round =>
    obtain ⟨k, x, hk, rfl, rfl, hx, HX, hb⟩ := hrel
    by_cases hlt : k < s.size
    · have hu := s[k].toNat_lt
      have HN := Lib.hid (hex_next s x k hlt HX.out)
      clear HX
      go_wp2
      go_region
      go_wp2
      go_region
      go_wp2
      go_roundw
      case rel => exact ⟨k + 1, _, by omega, rfl, by go_num, by rw [← ByteArray.size_data, ← Array.length_toList, HN.out, W.hexL_length]; simp; omega, HN, hb.drew.drew⟩
      case measure => simp [intOf]; omega
    · have HF : Hid (x.data.toList = W.hexL s.data.toList) := by
        have := HX.out
        rw [List.take_of_length_le (by simp; omega)] at this
        exact this
      go_wp2
      go_ret
      exact ⟨x, rfl, HF.out, hb⟩

end Go.Proofs.YtiocibllmaakkaaDoor
