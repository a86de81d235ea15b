/-
  Layer 4: the chapter's example holds; a sum of parts that were just laid; bytes that are derived.
-/
import Derived.Test.YtbkeodgiflfakaaHSum
namespace Go.Proofs.Ytbkeodgiflfakaa
open Go.RowKit
set_option linter.unusedVariables false
set_option maxRecDepth 20000

theorem hSum_new (key : ByteArray) (xs : List ByteArray) (w : World) (A : Array Value) (hA : A = (xs.map Value.string).toArray) (n g : Nat) (hn' : n = xs.length) (hg : g = w.heap.size) (hk : key.size ≤ 1000000) (h0 : 0 < xs.length) (hn : xs.length ≤ 100) (hl : (allOf xs).length ≤ 900000) :
    Calls Try.prog 57 #[.string key, .slice (some ⟨g, 0, none⟩) n n] (w.alloc (.cells A 9 (0, 0))) fun e w' => e = .returned (.string ⟨(H.hmacL key.data.toList (allOf xs)).toArray⟩) ∧ Below w.heap.size w w' := by
  subst hA; subst hn'; subst hg
  refine (hSum_any key w.heap.size 0 xs.length xs _ hk (Nat.le_refl _) (by simp) (fun j x hj => ?_) h0 hn hl).mono ?_
  · have r := Row.new w 9 (xs.map Value.string)
    rw [Nat.zero_add, r.cell]
    simp [hj]
  · rintro e w' ⟨rfl, b⟩
    exact ⟨rfl, ((Below.refl _ _).alloc (Nat.le_refl _) _).trans (b.mono (by simp))⟩

theorem jefe_is : Lib.hasPrefix (H.hmacL (⟨#[74, 101, 102, 101]⟩ : ByteArray).data.toList (allOf [⟨#[119, 104, 97, 116, 32, 100, 111, 32, 121, 97, 32, 119, 97, 110, 116, 32]⟩, ⟨#[102, 111, 114, 32, 110, 111, 116, 104, 105, 110, 103, 63]⟩])) [91, 220, 193, 70] = true := by decide +kernel

set_option maxHeartbeats 1000000 in
theorem awake4_any (w : World) : Calls Try.prog 69 #[] w fun e w' => e = .returned (.bool true) ∧ Below w.heap.size w w' := by
  go_enter Try.func69, Try.ntmps69
  go_wp2_with fail
  refine (awake3X_any _).mono ?_
  rintro e w1 ⟨rfl, b1⟩
  go_wp2_with fail
  refine (hSum_new _ [⟨#[119, 104, 97, 116, 32, 100, 111, 32, 121, 97, 32, 119, 97, 110, 116, 32]⟩, ⟨#[102, 111, 114, 32, 110, 111, 116, 104, 105, 110, 103, 63]⟩] w1 _ rfl 2 _ rfl rfl (by decide) (by decide) (by decide) (by decide)).mono ?_
  rintro e w2 ⟨rfl, b2⟩
  have b2' := b1.trans (b2.mono b1.size)
  clear b1 b2
  go_wp2_with fail
  refine (Try.strings_HasPrefix _ _ _).mono ?_
  rintro e w3 ⟨rfl, rfl⟩
  rw [jefe_is]
  go_wp2
  go_ret
  exact ⟨rfl, b2'⟩

end Go.Proofs.Ytbkeodgiflfakaa
