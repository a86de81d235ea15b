/-
  Layer 2: what real.Bytes, real.Of, the document's own Bytes and strings.Compare come to.
-/
import Derived.Test.YtajpgjbdemadgaaDoorRBytesPlain
import Derived.Test.YtajpgjbdemadgaaDoorRRef
import Derived.Test.YtajpgjbdemadgaaDoorRText
import Derived.Test.YtajpgjbdemadgaaDoorGet
import Derived.Test.YtajpgjbdemadgaaDoorRefPut
import Derived.Test.YtajpgjbdemadgaaDoorRefGet
namespace Go.Proofs.YtajpgjbdemadgaaDoor
open Go.RowKit
set_option linter.unusedVariables false
set_option linter.unusedSimpArgs false

theorem put8 (n : Nat) (h : n < 18446744073709551616) (w : World) :
    Calls Tryd.prog 35 #[.int .u64 (n : Int), .int .i64 8] w fun e w' => e = .returned (.string ⟨(W.putL n 8).toArray⟩) ∧ Below w.heap.size w w' := by
  have := put_any (n : Int) 8 (by omega) (by omega) w
  rw [Int.toNat_natCast, show W.clamp 8 = 8 from by decide] at this
  exact this
theorem refPut8 (n : Nat) (h : n < 18446744073709551616) (w : World) :
    Calls Tryd.prog 39 #[.int .u64 (n : Int), .int .i64 8] w fun e w' => e = .returned (.string ⟨(W.putL n 8).toArray⟩) ∧ Below w.heap.size w w' := by
  have := refPut_any (n : Int) 8 (by omega) (by omega) w
  rw [Int.toNat_natCast, show W.clamp 8 = 8 from by decide] at this
  exact this

theorem bytes_any (x : Nat) (hx : x < 18446744073709551616) (w : World) :
    Calls Tryd.prog 14 #[.float .f64 x] w fun e w' => e = .returned (.string ⟨(W.putL (R.nb x) 8).toArray⟩) ∧ Below w.heap.size w w' := by
  cases hn : R.nan x with
  | true =>
    have I := isNaN_any x
    rw [hn] at I
    rw [R.nb_nan hn]
    have P0 := put8 0 (by decide)
    go_enter Tryd.func14, Tryd.ntmps14
    go_wp2_with fail
    refine (I _).mono ?_
    rintro e w' ⟨rfl, rfl⟩
    go_wp2_with fail
    refine (P0 _).mono ?_
    rintro e w' ⟨rfl, hb⟩
    go_wp2_with fail
    go_ret
    exact ⟨rfl, hb⟩
  | false =>
    have I := isNaN_any x
    rw [hn] at I
    rw [R.nb_num hn]
    by_cases h : 9223372036854775808 ≤ x
    · rw [if_pos h]
      have P0 := Lib.hid (put8 (18446744073709551615 - x) (by omega))
      have b1 := R.and_high x h hx
      have b2 : bits .xor .u64 IntKind.u64.max (x : Int) = _ := R.xor_all x hx
      go_enter Tryd.func14, Tryd.ntmps14
      go_wp2_with fail
      refine (I _).mono ?_
      rintro e w' ⟨rfl, rfl⟩
      go_wp2_with fail
      refine (P0.out _).mono ?_
      rintro e w' ⟨rfl, hb⟩
      go_wp2_with fail
      go_ret
      exact ⟨rfl, hb⟩
    · rw [if_neg h]
      have P0 := Lib.hid (put8 (x + 9223372036854775808) (by omega))
      have b1 := R.and_low x (by omega)
      have b2 := R.or_low x (by omega)
      go_enter Tryd.func14, Tryd.ntmps14
      go_wp2_with fail
      refine (I _).mono ?_
      rintro e w' ⟨rfl, rfl⟩
      go_wp2_with fail
      refine (P0.out _).mono ?_
      rintro e w' ⟨rfl, hb⟩
      go_wp2_with fail
      go_ret
      exact ⟨rfl, hb⟩

theorem refBytes_any (x : Nat) (hx : x < 18446744073709551616) (w : World) :
    Calls Tryd.prog 16 #[.float .f64 x] w fun e w' => e = .returned (.string ⟨(W.putL (R.nb x) 8).toArray⟩) ∧ Below w.heap.size w w' := by
  cases hn : R.nan x with
  | true =>
    have o := R.ord_nl x x hn
    rw [R.nb_nan hn]
    have P0 := Lib.hid (refPut8 0 (by decide))
    go_enter Tryd.func16, Tryd.ntmps16
    go_wp2_with fail
    refine (P0.out _).mono ?_
    rintro e w' ⟨rfl, hb⟩
    go_wp2_with fail
    go_ret
    exact ⟨rfl, hb⟩
  | false =>
    have o : FloatKind.f64.format.order x x = some .eq := by rw [R.ord x x hn hn, Int.compare_eq_eq.2 rfl]
    rw [R.nb_num hn]
    by_cases h : 9223372036854775808 ≤ x
    · rw [if_pos h]
      have P0 := Lib.hid (refPut8 (18446744073709551615 - x) (by omega))
      rw [show ((18446744073709551615 - x : Nat) : Int) = 18446744073709551615 - (x : Int) from by omega] at P0
      have h' : (9223372036854775808 : Int) ≤ (x : Int) := by omega
      go_enter Tryd.func16, Tryd.ntmps16
      go_wp2_with fail
      refine (P0.out _).mono ?_
      rintro e w' ⟨rfl, hb⟩
      go_wp2_with fail
      go_ret
      exact ⟨rfl, hb⟩
    · rw [if_neg h]
      have P0 := Lib.hid (refPut8 (x + 9223372036854775808) (by omega))
      rw [show ((x + 9223372036854775808 : Nat) : Int) = (x : Int) + 9223372036854775808 from by omega] at P0
      have h' : ¬ (9223372036854775808 : Int) ≤ (x : Int) := by omega
      go_enter Tryd.func16, Tryd.ntmps16
      go_wp2_with fail
      refine (P0.out _).mono ?_
      rintro e w' ⟨rfl, hb⟩
      go_wp2_with fail
      go_ret
      exact ⟨rfl, hb⟩

@[go_sem] theorem run_cmpstring (a b : ByteArray) (w : World) : (callFunc 47 #[.string a, .string b]).run Tryd.prog w = .ok (.value (.int .i64 (Lib.compareBytes a.data.toList b.data.toList))) w := by
  rw [run_callFunc_extern Tryd.func47 (by kernel_rfl) (by kernel_rfl) (by kernel_rfl) (e := Extern.BytealgCompare.compare) (by kernel_rfl), Lib.run_compareString]
  rfl

theorem strCompare_any (a b : ByteArray) (w : World) : Calls Tryd.prog 17 #[.string a, .string b] w fun e w' => e = .returned (.int .i64 (Lib.compareBytes a.data.toList b.data.toList)) ∧ w' = w := by
  go_enter Tryd.func17, Tryd.ntmps17
  go_wp2
  go_ret
  exact ⟨rfl, rfl⟩

theorem turned_any (n : Nat) (hn : n < 18446744073709551616) (w : World) : Calls Tryd.prog 38 #[.int .u64 (n : Int)] w fun e w' => e = .returned (.int .u64 (R.tn n : Nat)) ∧ w' = w := by
  unfold R.tn
  by_cases h : 9223372036854775808 ≤ n
  · rw [if_pos h]
    have b1 := R.and_high n h hn
    have b2 := R.andNot_high n h hn
    go_enter Tryd.func38, Tryd.ntmps38
    go_wp2
    go_ret
    exact ⟨rfl, rfl⟩
  · rw [if_neg h]
    have b1 := R.and_low n (by omega)
    have b2 : bits .xor .u64 IntKind.u64.max (n : Int) = _ := R.xor_all n hn
    go_enter Tryd.func38, Tryd.ntmps38
    go_wp2
    go_ret
    exact ⟨rfl, rfl⟩

end Go.Proofs.YtajpgjbdemadgaaDoor
