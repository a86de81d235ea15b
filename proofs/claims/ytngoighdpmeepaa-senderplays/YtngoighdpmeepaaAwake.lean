/-
  Layer 1: the chapter's example holds: awake answers true, and turns nothing that was there.
-/
import Derived.Test.YtngoighdpmeepaaPut
import Derived.Test.YtngoighdpmeepaaCut
namespace Go.Proofs.Ytngoighdpmeepaa
open Go.RowKit
set_option linter.unusedVariables false

theorem cut_example (b : Nat) (w : World) (hb : b < w.heap.size) (h0 : w.cell? ⟨b, 0, none⟩ = some (.int .i64 1)) (h1 : w.cell? ⟨b, 1, none⟩ = some (.int .i64 2)) :
    Calls Try.prog 29 #[.string ⟨#[97, 98, 99, 100]⟩, .slice (some ⟨b, 0, none⟩) 2 2] w fun e w' => e = .returned (.tuple #[.slice (some ⟨w.heap.size, 0, none⟩) 3 3, .int .i64 0]) ∧
      w'.ownsRow w.heap.size 9 1 (.slice (some ⟨w.heap.size, 0, none⟩) 3 3) 3 (W.strs [[97], [98, 99], [100]]) ∧ Below w.heap.size w w' := by
  have hE : W.cutE [97, 98, 99, 100] [1, 2] = ([[97], [98, 99], [100]], 0) := by decide
  have := cut_any [97, 98, 99, 100] (some ⟨b, 0, none⟩) 2 [1, 2] w (by decide) (by decide) (fun _ => ⟨b, 0, rfl, hb, fun i hi => by
    match i, hi with
    | 0, _ => simpa using h0
    | 1, _ => simpa using h1⟩)
  rw [hE] at this
  refine this.mono ?_
  rintro e w' ⟨v, rfl, h | h, hbel⟩
  · obtain ⟨_, rfl, _, ho⟩ := h
    exact ⟨rfl, ho, hbel⟩
  · exact absurd rfl h.1

/-- A text of bytes. -/
def arr (l : List UInt8) : ByteArray := ⟨l.toArray⟩

theorem own_strs {x : World} {B g cap n : Nat} {l : List (List UInt8)} (h : x.ownsRow B 9 1 (.slice (some ⟨g, 0, none⟩) n cap) n (W.strs l)) :
    ∀ j, j < (l.map arr).length → x.cell? ⟨g, 0 + j, none⟩ = some (.string ((l.map arr).getD j ByteArray.empty)) := by
  intro j hj
  have hl : (W.strs l).length = n := by simpa using h.1
  have hl' : l.length = n := by simpa [W.strs] using hl
  simp at hj
  rw [Nat.zero_add, h.cellAt j (by omega)]
  simp [W.strs, hj, arr]

theorem below_drewN {B : Nat} {a w : World} (h : Below B a w) : ∀ q, Below B a (w.drewN q)
  | 0 => h
  | q + 1 => (below_drewN h q).drew

set_option maxHeartbeats 1000000 in
theorem awake_any (w : World) : Calls Try.prog 49 #[] w fun e w' => e = .returned (.bool true) ∧ Below w.heap.size w w' := by
  go_enter Try.func49, Try.ntmps49
  go_wp2_with fail
  refine (cut_example _ _ ?c0 ?c1 ?c2).mono ?_
  case c0 => simp
  case c1 => simp
  case c2 => simp
  rintro e w1 ⟨rfl, ho, hb⟩
  have hs1 : w.heap.size + 1 ≤ w1.heap.size := by have := hb.size; simpa using this
  have hb1 : Below w.heap.size w w1 := ((Below.refl _ _).alloc (Nat.le_refl _) _).trans (hb.mono (by simp))
  have hlt := (ho.lt _ rfl).2
  simp only [World.size_alloc] at ho hlt
  clear hb
  go_wp2_with fail
  refine (Try.slices_Equal_string _ 0 3 3 _ 0 3 3 ([[97], [98, 99], [100]].map arr) ([[97], [98, 99], [100]].map arr) _ (by decide) (by decide) (by decide) (by decide) ?d1 ?d2).mono ?_
  case d1 => exact own_strs (ho.alloc _)
  case d2 =>
    intro j hj
    match j, hj with
    | 0, _ => simp [arr]
    | 1, _ => simp [arr]
    | 2, _ => simp [arr]
  rintro e w2 ⟨rfl, q, rfl⟩
  rw [decide_eq_true rfl]
  go_wp2_with fail
  refine (put_any 258 2 (by decide) (by decide) _).mono ?_
  rintro e w3 ⟨rfl, hb3⟩
  have e1 : (W.putL (258 : Int).toNat (W.clamp 2)) = [1, 2] := by decide
  rw [e1]
  have hb4 : Below w.heap.size w w3 := (below_drewN (hb1.alloc (by omega) _) q).trans (hb3.mono (by simp; omega))
  clear hb3 hb1 ho
  go_wp2
  go_ret
  exact ⟨rfl, hb4⟩

end Go.Proofs.Ytngoighdpmeepaa
