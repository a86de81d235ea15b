/-
  Layer 3: the chapter's example holds.
-/
import Derived.Test.YtbkeodgiflfakaaSSum
namespace Go.Proofs.Ytbkeodgiflfakaa
open Go.RowKit
set_option linter.unusedVariables false
set_option maxRecDepth 20000

theorem isStrs_new (w : World) (t : TypeId) (xs : List ByteArray) (A : Array Value) (hA : A = (xs.map Value.string).toArray) (n : Nat) (hn : n = xs.length) : IsStrs (w.alloc (.cells A t (0, 0))) (.slice (some ⟨w.heap.size, 0, none⟩) n n) xs := by
  subst hA
  subst hn
  refine .inr ⟨w.heap.size, 0, _, rfl, Nat.le_refl _, by simp, fun j x hj => ?_⟩
  have r := Row.new w t (xs.map Value.string)
  rw [Nat.zero_add, r.cell]
  simp [hj]

theorem abc_is : Lib.hasPrefix (S.sumL (allOf [⟨#[97]⟩, ⟨#[98, 99]⟩])) [186, 120, 22, 191] = true := by decide +kernel

theorem awakeX_any (w : World) : Calls Try.prog 26 #[] w fun e w' => e = .returned (.bool true) ∧ Below w.heap.size w w' := by
  go_enter Try.func26, Try.ntmps26
  go_wp2_with fail
  refine (awake_any _).mono ?_
  rintro e w1 ⟨rfl, b1⟩
  go_wp2
  go_ret
  exact ⟨rfl, b1⟩

theorem sum_size (l : List UInt8) : (⟨(S.sumL l).toArray⟩ : ByteArray).size = 32 := by simp [ByteArray.size, S.sumL_length]

set_option maxHeartbeats 1000000 in
theorem awake3_any (w : World) : Calls Try.prog 99 #[] w fun e w' => e = .returned (.bool true) ∧ Below w.heap.size w w' := by
  go_enter Try.func99, Try.ntmps99
  go_wp2_with fail
  refine (awakeX_any _).mono ?_
  rintro e w1 ⟨rfl, b1⟩
  go_wp2_with fail
  refine (text_any _ [⟨#[97]⟩, ⟨#[98, 99]⟩] _ (isStrs_new _ _ _ _ rfl 2 rfl) (by decide) (by decide)).mono ?_
  rintro e w2 ⟨rfl, b2⟩
  have b2' := (b1.alloc b1.size _).trans (b2.mono (by have := b1.size; simp; omega))
  clear b1 b2
  go_wp2_with fail
  refine (Try.strings_HasPrefix _ _ _).mono ?_
  rintro e w3 ⟨rfl, rfl⟩
  rw [abc_is]
  go_wp2_with fail
  refine (text_any _ [] _ (.inl ⟨rfl, rfl⟩) (by decide) (by decide)).mono ?_
  rintro e w4 ⟨rfl, b4⟩
  have b4' := b2'.trans (b4.mono b2'.size)
  have hz := sum_size (allOf [])
  generalize (⟨(S.sumL (allOf [])).toArray⟩ : ByteArray) = t at hz
  clear b2' b4
  go_wp2
  go_ret
  exact ⟨rfl, b4'⟩

theorem awake3X_any (w : World) : Calls Try.prog 82 #[] w fun e w' => e = .returned (.bool true) ∧ Below w.heap.size w w' := by
  go_enter Try.func82, Try.ntmps82
  go_wp2_with fail
  refine (awake3_any _).mono ?_
  rintro e w1 ⟨rfl, b1⟩
  go_wp2
  go_ret
  exact ⟨rfl, b1⟩

end Go.Proofs.Ytbkeodgiflfakaa
