/-
  Layer 8: PoolTurns, the walk: numbers that may not be, scripts that are too long.
-/
import Derived.Test.YtealpdofcgbnlaaPoolTurnsWalk
namespace Go.Proofs.Ytealpdofcgbnlaa.PoolTurnsW
open Go.RowKit
set_option linter.unusedVariables false

set_option maxRecDepth 20000 in
set_option maxHeartbeats 4000000 in
theorem walk (a0 : Int) (a1 : Option Addr) (len1 cap1 : Nat) (w : World) (w0 : (Lit.int .i64 a0).wf = true) (w1 : InActs w a1 len1 cap1) :
    Calls Try.prog 3 #[.int .i64 a0, .slice a1 len1 cap1] w fun e w' => e = .returned (.bool true) ∧ Below w.heap.size w w' := by
  have C0 := Lib.hid (awake8_any w)
  by_cases h : 1 ≤ a0 ∧ a0 ≤ 256
  · obtain ⟨n, rfl⟩ : ∃ n : Nat, a0 = (n : Int) := ⟨a0.toNat, by omega⟩
    by_cases hl : len1 ≤ 80
    · exact core n a1 len1 cap1 w (by omega) (by omega) hl w1
    · have CN : Hid (∀ wx, Calls Try.prog 8 #[.int .i64 (n : Int)] wx fun e w' => e = .returned (.tuple #[.pointer (some ⟨wx.heap.size + 1, 0, none⟩), .int .i64 0]) ∧ P8.PoolAt w' wx.heap.size n (List.replicate n none) 0 ∧ Below wx.heap.size wx w') := fun wx => poolNew_yes n wx (by omega) (by omega)
      have g1 : ¬ (n : Int) < 1 := by omega
      have g2 : ¬ (256 : Int) < n := by omega
      have g3 : (80 : Int) < len1 := by omega
      clear w0 w1 h hl
      go_enter Try.func3, Try.ntmps3
      go_wp2_with fail
      refine C0.out.mono ?_
      rintro e wa ⟨rfl, ba⟩
      clear C0
      go_wp2_with fail
      refine (CN.out _).mono ?_
      rintro e wb ⟨rfl, pb, bb⟩
      have bw : Below w.heap.size w wb := ba.trans (bb.mono ba.size)
      clear CN pb bb ba
      go_wp2
      go_ret
      exact ⟨rfl, bw⟩
  · have CN : Hid (∀ wx, Calls Try.prog 8 #[.int .i64 a0] wx fun e w' => e = .returned (.tuple #[.pointer none, .int .i64 7]) ∧ w' = wx) := fun wx => poolNew_no a0 wx (by omega)
    clear w0 w1
    by_cases g1 : a0 < 1
    · clear h
      go_enter Try.func3, Try.ntmps3
      go_wp2_with fail
      refine C0.out.mono ?_
      rintro e wa ⟨rfl, ba⟩
      clear C0
      go_wp2_with fail
      refine (CN.out _).mono ?_
      rintro e wa ⟨rfl, rfl⟩
      go_wp2
      go_ret
      exact ⟨rfl, ba⟩
    · have g2 : (256 : Int) < a0 := by omega
      clear h
      go_enter Try.func3, Try.ntmps3
      go_wp2_with fail
      refine C0.out.mono ?_
      rintro e wa ⟨rfl, ba⟩
      clear C0
      go_wp2_with fail
      refine (CN.out _).mono ?_
      rintro e wa ⟨rfl, rfl⟩
      go_wp2
      go_ret
      exact ⟨rfl, ba⟩

end Go.Proofs.Ytealpdofcgbnlaa.PoolTurnsW
