/-
  Layer 2: what the digits of 5000000000000000 come to, at the place that is handed in.
-/
import Derived.Test.YtdcpacdfbbdnlaaDoorRShort
import Derived.Lib.Walk
import Derived.Lib.ItoaMem
import Derived.Lib.AppendIntMem
import Derived.BigCall
import Derived.BigGuard
import Derived.Below
namespace Go.Proofs.YtdcpacdfbbdnlaaDoor
open Go.Shelf Go.RowKit Go.Sort Go.Lib
set_option linter.unusedVariables false
set_option maxRecDepth 20000
set_option linter.unusedSimpArgs false

/-- A byte's value. -/
abbrev encB : UInt8 → Value := fun b => Value.int .u8 (b.toNat : Int)

theorem dg_half : ∀ t, t < 16 → Lib.dg 5000000000000000 (16 - 1 - t) = if t = 0 then 53 else 48 := by decide +kernel

theorem below_putRow_drewN (w : World) (b : Nat) (dk : Array UInt8) (n : Nat) : Below b w ((putRow encB w b 0 dk).drewN n) := by
  induction n with
  | zero => exact ⟨rfl, rfl, rfl, by simp [putRow, mapBlock], fun k hk => by simp [putRow, mapBlock, Array.getElem?_modify, show b ≠ k by omega]⟩
  | succ n ih => exact ih.drew

set_option maxHeartbeats 1000000 in
theorem setDigits_half (b : Nat) (w : World) (hH : Holds encB w b 0 (Array.replicate 16 0)) :
    Calls Tryd.prog 58 #[.slice (some ⟨b, 0, none⟩) 32 32, .int .u64 5000000000000000, .int .i64 (-16), .int .i64 16] w fun e w' =>
      e = .returned (.tuple #[.int .i64 0, .int .i64 1]) ∧ w'.cell? ⟨b, 0, none⟩ = some (.int .u8 53) ∧ Below b w w' ∧ w'.heap.size = w.heap.size := by
  have hfmt := Tryd.internal_strconv_formatBase10 b 0 32 5000000000000000 (Array.replicate 16 0) w hH (by decide +kernel) (by decide) (by decide)
  rw [Array.size_replicate] at hfmt
  have HF := Lib.hid hfmt
  have HH := Lib.hid hH
  clear hfmt hH
  go_enter Tryd.func58, Tryd.ntmps58
  go_wp2_with fail
  go_at_call 77
  refine HF.out.mono ?_
  rintro e w' ⟨rfl, n, v', dk, hw, hF⟩
  have hcell : ∀ j, j < 16 → w'.cell? ⟨b, j, none⟩ = some (.int .u8 (if j = 0 then 53 else 48)) := fun j hj => by
    have h := cell?_putRow encB w b 0 _ dk HH.out (by rw [hF.size, Array.size_replicate]) j (by rw [hF.size]; exact hj)
    rw [hF.done j (Nat.zero_le _) hj, dg_half j hj, Nat.zero_add] at h
    rw [hw, World.cell?_drewN, h]
    split <;> rfl
  have hbel : Below b w w' := by rw [hw]; exact below_putRow_drewN w b dk n
  have hsz : w'.heap.size = w.heap.size := by rw [hw]; simp
  have HE := Lib.hid (And.intro (hcell 0 (by decide)) (And.intro hbel hsz))
  have HC := Lib.hid hcell
  clear hw hF hcell hbel hsz HF HH
  go_wp2_with fail
  go_loop [3] (fun nv => ∃ k : Nat, k < 16 ∧ nv = .int .i64 ((k : Int) + 1)) (fun nv => (RowKit.intOf nv).toNat)
  case atStart => exact ⟨15, by decide, rfl⟩
  case round =>
    obtain ⟨k, hk, rfl⟩ := hrel
    have hcell := HC.out k hk
    by_cases h0 : k = 0
    · subst h0
      rw [if_pos rfl] at hcell
      go_wp2_with fail
      go_ret2
      exact ⟨rfl, HE.out⟩
    · rw [if_neg h0] at hcell
      have hk0 : 0 < (k : Int) := by omega
      go_wp2_with fail
      go_round
      case rel => exact ⟨k - 1, by omega, by go_num⟩
      case measure => simp [RowKit.intOf]

end Go.Proofs.YtdcpacdfbbdnlaaDoor
