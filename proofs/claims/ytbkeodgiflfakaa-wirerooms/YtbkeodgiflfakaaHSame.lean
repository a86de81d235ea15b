/-
  Layer 4: hmac.Same.
-/
import Derived.Test.YtbkeodgiflfakaaHAwake
import Derived.Test.YtbkeodgiflfakaaHDerive
namespace Go.Proofs.Ytbkeodgiflfakaa
open Go.RowKit
set_option linter.unusedVariables false
set_option maxRecDepth 20000

theorem size_is (s : ByteArray) : s.size = s.data.toList.length := by simp

theorem unlike_iff (u x y : UInt8) : (u ||| (x ^^^ y) = 0) ↔ (u = 0 ∧ x = y) := by
  rw [UInt8.or_eq_zero_iff, UInt8.xor_eq_zero_iff]
theorem take_snoc_iff {l m : List UInt8} {i : Nat} (hl : i < l.length) (hm : i < m.length) : (l.take (i + 1) = m.take (i + 1)) ↔ (l.take i = m.take i ∧ l[i] = m[i]) := by
  rw [List.take_succ_eq_append_getElem hl, List.take_succ_eq_append_getElem hm]
  constructor
  · intro h
    have h2 := List.append_inj' h rfl
    exact ⟨h2.1, by simpa using h2.2⟩
  · rintro ⟨h1, h2⟩; rw [h1, h2]

set_option maxHeartbeats 1000000 in
theorem same_any (a b : ByteArray) (ha : a.size ≤ 1000000) (hb : b.size ≤ 1000000) (w : World) :
    Calls Try.prog 45 #[.string a, .string b] w fun e w' => e = .returned (.bool (a.toList == b.toList)) ∧ Below w.heap.size w w' := by
  by_cases he : a.size = b.size
  · have he' : ((a.size : Int) != (b.size : Int)) = false := by rw [bne_eq_false_iff_eq]; omega
    go_enter Try.func45, Try.ntmps45
    have HE := Lib.hid he
    clear he
    go_wp2
    go_loopw [5, 6, 14] (fun uv _ iv wx => ∃ (i : Nat) (u : UInt8), i ≤ a.size ∧ iv = .int .i64 i ∧ uv = .int .u8 (u.toNat : Int) ∧ Hid ((u = 0) ↔ (a.data.toList.take i = b.data.toList.take i)) ∧ Below w.heap.size w wx) (fun _ _ iv _ => a.size - (intOf iv).toNat)
    case atStart => exact ⟨0, 0, Nat.zero_le _, rfl, rfl, by show (_ ↔ _); simp, Below.refl _ _⟩
    case round =>
      obtain ⟨i, u, hi, rfl, rfl, hu, hbl⟩ := hrel
      have hab : (a.size : Int) = (b.size : Int) := by rw [HE.out]
      by_cases hlt : i < a.size
      · have hlb : i < b.size := by rw [← HE.out]; exact hlt
        have hst := take_snoc_iff (l := a.data.toList) (m := b.data.toList) (i := i) (by rw [← size_is]; exact hlt) (by rw [← size_is]; exact hlb)
        have hla : (i : Int) < (b.size : Int) := by omega
        have hx : bits .xor .u8 (a[i].toNat : Int) (b[i].toNat : Int) = ((a[i] ^^^ b[i]).toNat : Int) := by
          rw [u8_xor_nat _ _ a[i].toNat_lt b[i].toNat_lt, UInt8.toNat_xor]
        have hy : bits .or .u8 (u.toNat : Int) ((a[i] ^^^ b[i]).toNat : Int) = ((u ||| (a[i] ^^^ b[i])).toNat : Int) := by
          rw [u8_or_nat _ _ u.toNat_lt (a[i] ^^^ b[i]).toNat_lt, UInt8.toNat_or]
        have HY : Hid (bits .or .u8 (u.toNat : Int) ((a[i].toNat ^^^ b[i].toNat : Nat) : Int) = ((u ||| (a[i] ^^^ b[i])).toNat : Int)) := by
          rw [UInt8.toNat_xor] at hy; exact hy
        have hn : Hid ((u ||| (a[i] ^^^ b[i]) = 0) ↔ (a.data.toList.take (i + 1) = b.data.toList.take (i + 1))) := by
          show (_ ↔ _)
          rw [unlike_iff, hst, hu.out]; exact Iff.rfl
        generalize u ||| (a[i] ^^^ b[i]) = v at *
        clear hst hu hy
        go_wp2
        go_region
        go_wp2
        go_roundw
        case rel => exact ⟨i + 1, v, by omega, by go_num, by rw [HY.out], hn, by first | exact hbl | exact hbl.drew⟩
        case measure => simp [intOf]; omega
      · obtain rfl : i = a.size := by omega
        have hfin : (((u.toNat : Int)) == 0) = (a.toList == b.toList) := by
          rw [ByteArray.toList_eq, ByteArray.toList_eq, Bool.eq_iff_iff, beq_iff_eq, beq_iff_eq]
          have h1 := hu.out
          rw [List.take_of_length_le (by rw [← size_is]; exact Nat.le_refl _), List.take_of_length_le (by rw [← size_is, ← HE.out]; exact Nat.le_refl _)] at h1
          rw [← h1, ← UInt8.toNat_inj]
          show _ ↔ u.toNat = 0
          omega
        have hge : ¬ (b.size : Int) < (b.size : Int) := by omega
        go_wp2
        go_ret
        exact ⟨by first | rfl | rw [← hfin], hbl⟩
  · have hne : (a.toList == b.toList) = false := by
      rw [beq_eq_false_iff_ne]; intro h; apply he; rw [size_is, size_is, ← ByteArray.toList_eq, ← ByteArray.toList_eq, h]
    have he' : ((a.size : Int) != (b.size : Int)) = true := by rw [bne_iff_ne]; omega
    rw [hne]
    go_enter Try.func45, Try.ntmps45
    go_wp2
    go_ret
    exact ⟨rfl, Below.refl _ _⟩

end Go.Proofs.Ytbkeodgiflfakaa
