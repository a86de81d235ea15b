/-
  Layer 2: what real.Text comes to at 0.5; the chapter's example.
-/
import Derived.Test.YtdcpacdfbbdnlaaDoorRFtoa
import Derived.Test.YtdcpacdfbbdnlaaDoorRCmp
import Derived.Test.YtdcpacdfbbdnlaaDoorAwake
import Derived.OwnWalk
import Derived.Lib.AppendIntMem
namespace Go.Proofs.YtdcpacdfbbdnlaaDoor
open Go.RowKit
set_option linter.unusedVariables false
set_option maxRecDepth 20000
set_option linter.unusedSimpArgs false

theorem Tab.below {w w' : World} (h : Tab w) (hb : Below w.heap.size w w') : Tab w' :=
  ⟨by rw [hb.cell (World.block_lt_of_cell? _ _ h.1)]; exact h.1, by rw [hb.cell (World.block_lt_of_cell? _ _ h.2)]; exact h.2⟩

set_option maxHeartbeats 4000000 in
set_option maxRecDepth 100000 in
theorem formatFloat_half (w : World) (ht : Tab w) (hp : Pow10T w) :
    Calls Tryd.prog 46 #[.float .f64 4602678819172646912, .int .u8 103, .int .i64 (-1), .int .i64 64] w fun e w' =>
      e = .returned (.string ⟨#[48, 46, 53]⟩) ∧ Below w.heap.size w w' := by
  have m1 : max (3 : Int) 24 = 24 := by decide
  obtain ⟨i0, hi, hz0, hz1, hz2⟩ := info_parts infoByte
  have HT := Lib.hid ht
  have HP := Lib.hid hp
  clear ht hp
  go_enter Tryd.func46, Tryd.ntmps46
  go_wp2_with (at_make; refine wpList_make_own _ rfl _ _ 66 rfl w.heap.size 5 i0 (.int .u8 0) 1 Tryd.underlying66 hi hz0 hz1 _ _ _ 24 rfl rfl rfl (by rw [hz2]; decide) (by decide) (Nat.le_refl _) ?_)
  intro w1 ho hg
  have hb1 : Below w.heap.size w w1 := (Below.refl _ _).grown hg (Nat.le_refl _) (by simp)
  clear hg
  go_wp2_with fail
  go_at_call 49
  refine (ftoa64_half w.heap.size w1 ho (HT.out.below hb1) (HP.out.below hb1)).mono ?_
  rintro e w2 ⟨rfl, ho2, hb2⟩
  have hcv : (convert 66 9 (.slice (some ⟨w.heap.size, 0, none⟩) 3 24)).run Tryd.prog w2 = .ok (.string ⟨#[48, 46, 53]⟩) w2 := run_convert_bytes_back (P := Tryd.prog) w2 66 9 5 ⟨w.heap.size, 0, none⟩ 24 [48, 46, 53] Tryd.underlying66 Tryd.underlying5 Tryd.underlying9 (fun t ht => ho2.cells (g := w.heap.size) rfl t _ (by
    match t, ht with
    | 0, _ => rfl
    | 1, _ => rfl
    | 2, _ => rfl))
  have hb3 := hb1.trans hb2
  clear ho ho2 hb1 hb2
  go_wp2
  go_ret
  exact ⟨rfl, hb3⟩

theorem text_half (w : World) (ht : Tab w) (hp : Pow10T w) :
    Calls Tryd.prog 38 #[.float .f64 4602678819172646912] w fun e w' => e = .returned (.string ⟨#[48, 46, 53]⟩) ∧ Below w.heap.size w w' := by
  have hk : R.kind 4602678819172646912 = 5 := by decide +kernel
  have K := kind_any 4602678819172646912 (by decide) w
  rw [hk] at K
  go_enter Tryd.func38, Tryd.ntmps38
  go_wp2_with (first | (go_at_call 19; refine K.mono ?_; rintro e w' ⟨rfl, rfl⟩) | (go_at_call 42; go_in) | (go_at_call 46; refine (formatFloat_half _ ht hp).mono ?_; rintro e w' ⟨rfl, hb⟩))
  go_ret
  exact ⟨rfl, hb⟩

@[go_sem] theorem run_float64frombits (x : Int) (w : World) : (callFunc 31 #[.int .u64 x]).run Tryd.prog w = .ok (.value (.float .f64 x.toNat)) w := by
  rw [run_callFunc_extern Tryd.func31 (by kernel_rfl) (by kernel_rfl) (by kernel_rfl) (e := Extern.MathFloatBits.float64frombits) (by kernel_rfl)]
  rfl

theorem copysign_zero (w : World) : Calls Tryd.prog 37 #[.float .f64 0, .float .f64 13830554455654793216] w fun e w' => e = .returned (.float .f64 9223372036854775808) ∧ w' = w := by
  have b1 : bits .andNot .u64 0 9223372036854775808 = 0 := by kernel_rfl
  have b2 : bits .and .u64 13830554455654793216 9223372036854775808 = 9223372036854775808 := by kernel_rfl
  have b3 : bits .or .u64 0 9223372036854775808 = 9223372036854775808 := by kernel_rfl
  go_enter Tryd.func37, Tryd.ntmps37
  go_wp2
  go_ret
  exact ⟨rfl, rfl⟩

theorem awake2_any (w : World) (ht : Tab w) (hp : Pow10T w) : Calls Tryd.prog 30 #[] w fun e w' => e = .returned (.bool true) ∧ Below w.heap.size w w' := by
  have hc : R.cmpI (R.rank 9223372036854775808) (R.rank 0) = -1 := by decide +kernel
  have C := fun x : World => cmp_any 9223372036854775808 0 (by decide) (by decide) x
  rw [hc] at C
  have HC := Lib.hid C
  have HT := Lib.hid ht
  have HP := Lib.hid hp
  clear ht hp C hc
  go_enter Tryd.func30, Tryd.ntmps30
  go_wp2_with (first | (go_at_call 36; go_in) | (go_at_call 41; refine (awake_any w).mono ?_; rintro e w1 ⟨rfl, hb1⟩))
  go_at_call 37
  refine (copysign_zero _).mono ?_
  rintro e w' ⟨rfl, rfl⟩
  go_wp2_with fail
  go_at_call 26
  refine (HC.out _).mono ?_
  rintro e w' ⟨rfl, rfl⟩
  go_wp2_with fail
  go_at_call 38
  refine (text_half _ (HT.out.below hb1) (HP.out.below hb1)).mono ?_
  rintro e w2 ⟨rfl, hb2⟩
  have hb3 := hb1.trans (hb2.mono hb1.size)
  clear hb1 hb2
  go_wp2
  go_ret
  exact ⟨rfl, hb3⟩

end Go.Proofs.YtdcpacdfbbdnlaaDoor
