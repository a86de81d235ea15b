/-
  Layer 1: what the document's own Digits and Hex come to.
-/
import Derived.Test.YtiocibllmaakkaaDoorPut
import Derived.Test.YtiocibllmaakkaaDoorDigPlain
import Derived.Test.YtiocibllmaakkaaDoorHexPlain
import Derived.RegionTactic
import Derived.ChangeAlike
namespace Go.Proofs.YtiocibllmaakkaaDoor
open Go.RowKit
set_option linter.unusedVariables false

theorem conv1' (wr : World) (x : Int) (b : UInt8) (hx : x = (b.toNat : Int)) : (convert 42 9 (.slice (some ⟨wr.heap.size, 0, none⟩) 1 1)).run Tryd.prog (wr.alloc (.cells #[.int .u8 x] 5)) = .ok (.string ⟨#[b]⟩) (wr.alloc (.cells #[.int .u8 x] 5)) := by
  have := run_convert_bytes_back (P := Tryd.prog) (wr.alloc (.cells #[.int .u8 x] 5)) 42 9 5 ⟨wr.heap.size, 0, none⟩ 1 [b] Tryd.underlying42 Tryd.underlying5 Tryd.underlying9 (fun t ht => by
    obtain rfl : t = 0 := by simpa using ht
    simp [Addr.add, hx])
  exact this

theorem dec_push (u : Nat) (l : List UInt8) (h : ¬ u < 10) : Lib.decDigits u ++ l = Lib.decDigits (u / 10) ++ (UInt8.ofNat (48 + u % 10) :: l) := by
  have e : Lib.decDigits u = Lib.decDigits (u / 10) ++ [UInt8.ofNat (48 + u % 10)] := by rw [Lib.decDigits, dif_neg h]
  rw [e, List.append_assoc]; rfl

theorem nd20' (u : Nat) (h : u < 18446744073709551616) : Lib.nDigits u ≤ 20 := by
  by_cases h0 : u = 0
  · subst h0; rw [Lib.nDigits_small (by decide)]; decide
  · have := Lib.numDigits_eq u (by omega) h; split at this <;> omega
theorem nd_step (q : Nat) (h : ¬ q < 10) : Lib.nDigits q = Lib.nDigits (q / 10) + 1 := by rw [Lib.nDigits, dif_neg h]
theorem cat1 (b : UInt8) (l : List UInt8) : (⟨#[b]⟩ : ByteArray) ++ ⟨l.toArray⟩ = ⟨(b :: l).toArray⟩ := by apply ByteArray.ext; simp

theorem ret_str {l m : List UInt8} (h : l = m) : Ending.returned (.string ⟨l.toArray⟩) = .returned (.string ⟨m.toArray⟩) := by rw [h]

set_option maxHeartbeats 1000000 in
/-- The document's Digits. -/
theorem refDigits_any (u : Nat) (hu : u < 18446744073709551616) (w : World) :
    Calls Tryd.prog 11 #[.int .u64 u] w fun e w' => e = .returned (.string ⟨(Lib.decDigits u).toArray⟩) ∧ Below w.heap.size w w' := by
  go_enter Tryd.func11, Tryd.ntmps11
  go_wp2
  go_loopw [0, 3] (fun nv sv wr => ∃ (q : Nat) (l : List UInt8), nv = .int .u64 q ∧ sv = .string ⟨l.toArray⟩ ∧ q ≤ u ∧ l.length + Lib.nDigits q ≤ 40 ∧ Hid (Lib.decDigits u = Lib.decDigits q ++ l) ∧ Below w.heap.size w wr) (fun nv _ _ => (intOf nv).toNat)
  case atStart => exact ⟨u, [], rfl, rfl, Nat.le_refl _, by have := nd20' u hu; simp; omega, by simp [Hid], Below.refl _ _⟩
  case round =>
    obtain ⟨q, l, rfl, rfl, hq, hl, HD, hb⟩ := hrel
    obtain ⟨b, hbE⟩ : ∃ b : UInt8, b = UInt8.ofNat (48 + q % 10) := ⟨_, rfl⟩
    have hcv := conv1' wr (48 + (q : Int) % 10) b (by rw [hbE]; simp; omega)
    have hsz : (⟨l.toArray⟩ : ByteArray).size = l.length := by simp [ByteArray.size]
    have hadd := fun wx => run_string_add_sum (P := Tryd.prog) wx (⟨#[b]⟩ : ByteArray) ⟨l.toArray⟩ (by have : (⟨#[b]⟩ : ByteArray).size = 1 := rfl; omega)
    have hb2 := hb.alloc hb.size (.cells #[.int .u8 (48 + (q : Int) % 10)] 5)
    have HB := Lib.hid hbE
    clear hsz hbE
    by_cases c : q < 10
    · have t1 : ((q : Int) / 10 == 0) = true := by rw [beq_iff_eq]; omega
      have HF : Hid (Lib.decDigits u = b :: l) := by
        show _ = _
        rw [HD.out, Lib.decDigits_one c, HB.out, Nat.mod_eq_of_lt c]; rfl
      go_wp2
      go_ret
      exact ⟨by rw [HF.out, ← cat1]; rfl, hb2⟩
    · have t1 : ((q : Int) / 10 == 0) = false := by rw [beq_eq_false_iff_ne]; omega
      have HF : Hid (Lib.decDigits u = Lib.decDigits (q / 10) ++ (b :: l)) := by
        show _ = _
        rw [HD.out, dec_push q l c, HB.out]
      have hn := nd_step q c
      have HN := Lib.hid hn
      clear hn
      go_wp2
      go_roundw
      case rel => exact ⟨q / 10, b :: l, by go_num, by rw [cat1], by omega, by have := HN.out; simp; omega, HF, hb2⟩
      case measure => simp [intOf]; omega

end Go.Proofs.YtiocibllmaakkaaDoor
