/-
  Layer 1: what word.Hex comes to, at every text of at most 2^46 bytes.
-/
import Derived.Test.YtiocibllmaakkaaDoorPut
import Derived.Test.YtiocibllmaakkaaDoorHexPlain
namespace Go.Proofs.YtiocibllmaakkaaDoor
open Go.RowKit
set_option linter.unusedVariables false

set_option maxHeartbeats 1000000 in
theorem hex_any (s : ByteArray) (hs : s.size ≤ 70368744177664) (w : World) :
    Calls Tryd.prog 8 #[.string s] w fun e w' => e = .returned (.string ⟨(W.hexL s.data.toList).toArray⟩) ∧ Below w.heap.size w w' := by
  obtain ⟨i0, hi, hz0, hz1, hz2⟩ := info_parts infoByte
  go_enter Tryd.func8, Tryd.ntmps8
  go_wp2_with (at_make; refine wpList_make_full _ rfl _ _ 42 rfl w.heap.size 5 i0 (.int .u8 0) 1 Tryd.underlying42 hi hz0 hz1 _ _ _ _ (2 * s.size) rfl rfl (by go_num) (by go_num) (by rw [hz2]; omega) (by unfold maxLen; omega) (Nat.le_refl _) ?_)
  intro w1 hown hgrow
  rw [toList_madeCells_one] at hown
  have hb1 : Below w.heap.size w w1 := (Below.refl _ _).grown hgrow (Nat.le_refl _) (by simp)
  clear hgrow hi hz0 hz1 hz2
  have hlen : s.data.toList.length = s.size := by simp
  have hz := W.hexRow_zero s.data.toList
  rw [hlen] at hz
  rw [← hz] at hown
  clear hz
  have Hlen := Lib.hid hlen
  clear hlen
  go_wp2
  go_loopw [11] (fun v wr => ∃ j : Nat, j ≤ s.size ∧ v = .int .i64 j ∧ wr.ownsRow w.heap.size 5 1 (.slice (some ⟨w.heap.size, 0, none⟩) (2 * s.size) (2 * s.size)) (2 * s.size) (W.hexRow s.data.toList j) ∧ Below w.heap.size w wr) (fun v _ => s.size - (intOf v).toNat)
  case atStart => exact ⟨0, Nat.zero_le _, rfl, hown, hb1⟩
  case round =>
    obtain ⟨j, hj, rfl, ho, hb⟩ := hrel
    by_cases hlt : j < s.size
    · have hu := s[j].toNat_lt
      have hc := (ho.cellAt (2 * j) (by omega)).trans (W.hexRow_at0 s.data.toList j (by rw [Hlen.out]; exact hlt))
      have hf := ho.frozenAt (2 * j)
      have hc1 := (ho.cellAt (2 * j + 1) (by omega)).trans (W.hexRow_at1 s.data.toList j (by rw [Hlen.out]; exact hlt))
      have hf1 := ho.frozenAt (2 * j + 1)
      have ho1 := ((ho.stored (2 * j) (.int .u8 ((W.dig (s[j].toNat / 16)).toNat : Int))).1.stored (2 * j + 1) (.int .u8 ((W.dig (s[j].toNat % 16)).toNat : Int))).1
      have e : s.data.toList[j]'(by rw [Hlen.out]; exact hlt) = s[j] := rfl
      rw [← e, W.hexRow_step s.data.toList j (by rw [Hlen.out]; exact hlt), e] at ho1
      have hb2 := (hb.setCell (p := ⟨w.heap.size, 2 * j, none⟩) (Nat.le_refl _) (.int .u8 ((W.dig (s[j].toNat / 16)).toNat : Int))).setCell (p := ⟨w.heap.size, 2 * j + 1, none⟩) (Nat.le_refl _) (.int .u8 ((W.dig (s[j].toNat % 16)).toNat : Int))
      clear e ho
      go_wp2
      go_roundw
      case rel => rw [W.dig_at, W.dig_at]; exact ⟨j + 1, by omega, by go_num, ho1, hb2⟩
      case measure => simp [intOf]; omega
    · obtain rfl : j = s.size := by omega
      have ef := W.hexRow_full s.data.toList
      rw [Hlen.out] at ef
      rw [ef] at ho
      have hcv := run_convert_bytes_back (P := Tryd.prog) wr 42 9 5 ⟨w.heap.size, 0, none⟩ (2 * s.size) (W.hexL s.data.toList) Tryd.underlying42 Tryd.underlying5 Tryd.underlying9 (fun t ht => ho.cells (g := w.heap.size) rfl t _ (by simp [W.cellsOf, ht]))
      rw [W.hexL_length, Hlen.out] at hcv
      clear ef
      go_wp2
      go_ret
      exact ⟨rfl, hb⟩

end Go.Proofs.YtiocibllmaakkaaDoor
