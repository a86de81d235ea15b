/-
  Layer 13: KeysTurns, the walk: behind any turns each is answered, and keys are, as the document says; those from any number on.
-/
import Derived.Test.YtggkkahifoccfaaKOf
import Derived.Deep.Cut
namespace Go.Proofs.Ytggkkahifoccfaa.KeysTurnsW
open Go.RowKit
set_option linter.unusedVariables false
set_option linter.unusedSimpArgs false
set_option maxRecDepth 20000

set_option maxHeartbeats 8000000 in
theorem walk (a0 : Option Addr) (len0 cap0 : Nat) (a1 : Int) (w : World) (w0 : InActsU w a0 len0 cap0) (w1 : (Lit.int .u64 a1).wf = true) :
    Calls Try.prog 3 #[.slice a0 len0 cap0, .int .u64 a1] w fun e w' => e = .returned (.bool true) ∧ Below w.heap.size w w' := by
  obtain ⟨z1, z2⟩ := Go.bounds_u64 w1
  obtain ⟨n, rfl⟩ := Int.eq_ofNat_of_zero_le z1
  clear w1 z1 z2
  have CA : Hid (∀ wx, Calls Try.prog 7 #[] wx fun e w' => e = .returned (.bool true) ∧ Below wx.heap.size wx w') := fun wx => awake13_any wx
  by_cases hl : LightU w a0 len0 40 600
  · have HL := Lib.hid hl
    clear hl w0
    go_enter Try.func3, Try.ntmps3
    go_wp2_with fail
    refine (CA.out _).mono ?_
    rintro e wa ⟨rfl, ba⟩
    go_wp2_with fail
    refine (light13_yes a0 len0 cap0 wa (HL.out.below ba)).mono ?_
    rintro e wb ⟨rfl, bb0⟩
    have bb := ba.trans (bb0.mono ba.size)
    have HL2 := Lib.hid ((HL.out.below ba).below bb0)
    clear ba bb0 HL CA
    go_wp2_with fail
    refine (of13_any a0 len0 cap0 wb HL2.out).mono ?_
    rintro e wc ⟨f, T, rfl, ⟨hf, hT⟩, bc⟩
    replace bb := bb.trans (bc.mono bb.size)
    clear bc HL2
    have CS : Hid (∀ wx, Calls Try.prog 10 #[.agg #[.int .u64 (f : Int), .string T], .int .u64 (n : Int)] wx fun e w' => e = .returned (.tuple #[.string (K13.sinceT f T n), .int .i64 (K13.sinceE f T n)]) ∧ Below wx.heap.size wx w') := fun wx => since_any f n T (by omega) (by omega) wx
    have CQ : Hid (∀ wx, Calls Try.prog 11 #[.agg #[.int .u64 (f : Int), .string T], .int .u64 (n : Int)] wx fun e w' => e = .returned (.tuple #[.string (K13.sinceT f T n), .int .i64 (K13.sinceE f T n)]) ∧ Below wx.heap.size wx w') := fun wx => refSince_any f n T (by omega) (by omega) wx
    generalize K13.sinceT f T n = sT at *
    generalize K13.sinceE f T n = sE at *
    go_wp2_with fail
    have r : Row ((wc.alloc (.cells #[.int .u64 (f : Int), .string T] 27 (0, 0))).alloc (.cells #[.int .u64 (f : Int), .string T] 29 (0, 0))) wc.heap.size 27 [.int .u64 (f : Int), .string T] := (Row.new' rfl rfl).alloc _
    have q : Row ((wc.alloc (.cells #[.int .u64 (f : Int), .string T] 27 (0, 0))).alloc (.cells #[.int .u64 (f : Int), .string T] 29 (0, 0))) (wc.heap.size + 1) 29 [.int .u64 (f : Int), .string T] := Row.new' rfl (by simp)
    have lbgk := bb.size
    replace bb : Below w.heap.size w ((wc.alloc (.cells #[.int .u64 (f : Int), .string T] 27 (0, 0))).alloc (.cells #[.int .u64 (f : Int), .string T] 29 (0, 0))) := (bb.alloc bb.size _).alloc (by simp; omega) _
    obtain ⟨gk, hgk⟩ : ∃ g, g = wc.heap.size := ⟨_, rfl⟩
    rw [← hgk] at r q lbgk ⊢
    generalize (wc.alloc (.cells #[.int .u64 (f : Int), .string T] 27 (0, 0))).alloc (.cells #[.int .u64 (f : Int), .string T] 29 (0, 0)) = wd at *
    clear hgk
    refine (CS.out _).mono ?_
    rintro e we ⟨rfl, be⟩
    replace q := q.below be q.lt
    replace bb := bb.trans (be.mono bb.size)
    clear be r
    go_wp2_with (first | refine wpList_load_row rfl 29 (.tmp 6) rfl (gk + 1) rfl _ _ _ _ q Try.underlying29 rfl infoRK ?_)
    refine (CQ.out _).mono ?_
    rintro e wf ⟨rfl, bf⟩
    replace bb := bb.trans (bf.mono bb.size)
    clear bf q
    go_wp2
    go_ret
    exact ⟨rfl, bb⟩
  · have HL := Lib.hid hl
    have HI := Lib.hid w0
    clear hl w0
    go_enter Try.func3, Try.ntmps3
    go_wp2_with fail
    refine (CA.out _).mono ?_
    rintro e wa ⟨rfl, ba⟩
    go_wp2_with fail
    refine (light13_no a0 len0 cap0 wa (HI.out.below ba) (fun hh => HL.out (LightU.up hh ba HI.out))).mono ?_
    rintro e wb ⟨rfl, bb0⟩
    have bb := ba.trans (bb0.mono ba.size)
    clear ba bb0 HL CA HI
    go_wp2
    go_ret
    exact ⟨rfl, bb⟩

end Go.Proofs.Ytggkkahifoccfaa.KeysTurnsW
