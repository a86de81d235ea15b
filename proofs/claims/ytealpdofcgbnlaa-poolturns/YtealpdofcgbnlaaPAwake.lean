/-
  Layer 8: the chapter's example.
-/
import Derived.Test.YtealpdofcgbnlaaPNew
namespace Go.Proofs.Ytealpdofcgbnlaa
open Go.RowKit
set_option linter.unusedVariables false

set_option maxHeartbeats 2000000 in
theorem awake8_any (w : World) : Calls Try.prog 7 #[] w fun e w' => e = .returned (.bool true) ∧ Below w.heap.size w w' := by
  have C0 := Lib.hid (poolNew_yes 3 w (by decide) (by decide))
  go_enter Try.func7, Try.ntmps7
  go_wp2_with fail
  refine C0.out.mono ?_
  rintro e w1 ⟨rfl, p1, b1⟩
  have C1 := Lib.hid (get_yes w.heap.size 3 0 [none, none, none] 0 ⟨#[97]⟩ w1 p1 (by decide) (by decide) rfl (by decide))
  have hs := b1.size
  clear C0
  go_wp2_with fail
  refine C1.out.mono ?_
  rintro e w2 ⟨rfl, p2, o2, z2⟩
  have b2 := b1.trans (o2.belowB hs (Nat.le_refl _))
  have C2 := Lib.hid (get_yes w.heap.size 3 1 _ _ ⟨#[98]⟩ w2 p2 (by decide) (by decide) rfl (by decide))
  have hs := b2.size
  clear C1 o2 z2 p1 b1
  go_wp2_with fail
  refine C2.out.mono ?_
  rintro e w3 ⟨rfl, p3, o3, z3⟩
  have b3 := b2.trans (o3.belowB hs (Nat.le_refl _))
  have C3 := Lib.hid (put_yes w.heap.size 3 0 _ _ w3 p3 (by decide) rfl)
  have hs := b3.size
  clear C2 o3 z3 p2 b2
  go_wp2_with fail
  refine C3.out.mono ?_
  rintro e w4 ⟨rfl, p4, o4, z4⟩
  have b4 := b3.trans (o4.belowB hs (Nat.le_refl _))
  have C4 := Lib.hid (get_yes w.heap.size 3 0 _ _ ⟨#[99]⟩ w4 p4 (by decide) (by decide) rfl (by decide))
  have hs := b4.size
  clear C3 o4 z4 p3 b3
  go_wp2_with fail
  refine C4.out.mono ?_
  rintro e w5 ⟨rfl, p5, o5, z5⟩
  have b5 := b4.trans (o5.belowB hs (Nat.le_refl _))
  have C5 := Lib.hid (free_any w.heap.size 3 _ _ w5 p5)
  have hs := b5.size
  clear C4 o5 z5 p4 b4
  go_wp2_with fail
  refine C5.out.mono ?_
  rintro e w6 ⟨rfl, b6⟩
  have b7 := b5.trans (b6.mono hs)
  clear b6
  go_wp2
  go_ret
  exact ⟨rfl, b7⟩

end Go.Proofs.Ytealpdofcgbnlaa
