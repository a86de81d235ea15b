/-
  Layer 1: what slices.Concat of two lists comes to.
-/
import Derived.Test.YtiocibllmaakkaaCut
import Derived.Laws.AppendOwnNone
namespace Go.Proofs.Ytiocibllmaakkaa
open Go.RowKit
set_option linter.unusedVariables false

theorem infoS : (Try.prog.info? 9).map (fun i => (i.zero, i.size, i.bytes)) = some (some (.string ⟨#[]⟩), 1, 16) := by kernel_rfl

/-- The values of a list: cells that lie below B. -/
def IsValsS (w : World) (B : Nat) (ao : Option Addr) (vs : List Value) : Prop :=
  (ao = none → vs = []) ∧ (∀ ad, ao = some ad → (0 < vs.length → ad.block < B) ∧ ∀ j u, vs[j]? = some u → w.cell? (ad.add j) = some u) ∧ ∀ u ∈ vs, u.oneCell' = true

theorem IsValsS.below {w w' : World} {B : Nat} {ao : Option Addr} {vs : List Value} (h : IsValsS w B ao vs) (hb : Below B w w') : IsValsS w' B ao vs := by
  refine ⟨h.1, fun ad ha => ⟨(h.2.1 ad ha).1, fun j u hj => ?_⟩, h.2.2⟩
  obtain ⟨h1, h2⟩ := h.2.1 ad ha
  have hl : 0 < vs.length := by have := (List.getElem?_eq_some_iff.1 hj).1; omega
  have hbk : (ad.add j).block = ad.block := by unfold Addr.add; split <;> rfl
  rw [hb.cell (by rw [hbk]; exact h1 hl)]
  exact h2 j u hj

set_option maxHeartbeats 2000000 in
/-- slices.Grow of nil. -/
theorem growS (n : Nat) (hn : n ≤ 1000000) (w : World) :
    Calls Try.prog 31 #[.slice none 0 0, .int .i64 n] w fun e w' => ∃ v, e = .returned v ∧ w'.ownsRow w.heap.size 9 1 v 0 [] ∧ Below w.heap.size w w' := by
  obtain ⟨i0, hi, hz0, hz1, hz2⟩ := info_parts infoS
  by_cases h0 : n = 0
  · subst h0
    refine (Any8.slices_Grow_room Try.growS none 0 0 0 w (by decide) (by decide) (by decide) (by decide)).mono ?_
    rintro e w' ⟨rfl, rfl⟩
    exact ⟨_, rfl, World.ownsRow_nil _ _ _ _, Below.refl _ _⟩
  · refine (Any8.slices_Grow_grow Try.growS i0 (.string ⟨#[]⟩) hi hz0 (by omega) none 0 0 n [] w (by decide) (by omega) (by rw [hz2]; omega) (by omega) (by simp) (fun _ => rfl) (fun a ha => by cases ha)).mono ?_
    rintro e w' ⟨rfl, rfl⟩
    refine ⟨_, rfl, World.ownsRow_made w.drew _ _ (Nat.le_refl _) (grownCap_le_maxLen _ _ _ _ (by unfold maxLen; omega)) ?_, ((Below.refl _ _).drew).alloc (Nat.le_refl _) _⟩
    have h1 := grownCap_ge w (0 + n) 0 9
    have h2 : ∀ m, (Builtin.zeroCells (Value.cells (.string ⟨#[]⟩)) m).size = m := fun m => by rw [size_zeroCells]; exact Nat.mul_one m
    rw [Array.size_append, Array.size_append, h2, h2]
    show ([] : List Value).toArray.size + (0 + n - 0) + (grownCap w (0 + n) 0 9 - (0 + n)) = grownCap w (0 + n) 0 9 * 1
    have h3 : ([] : List Value).toArray.size = 0 := rfl
    omega

set_option maxHeartbeats 4000000 in
/-- slices.Concat of two lists. -/
theorem concatS_any (b : Nat) (a1 a2 : Option Addr) (c1 c2 : Nat) (us vs : List Value) (w : World) (hbw : b < w.heap.size) (hu : us.length ≤ 1000) (hv : vs.length ≤ 1000)
    (h1 : w.cell? ⟨b, 0, none⟩ = some (.slice a1 us.length c1)) (h2 : w.cell? ⟨b, 1, none⟩ = some (.slice a2 vs.length c2)) (hc1 : a1 = none → c1 = 0) (hc2 : a2 = none → c2 = 0)
    (u1 : IsValsS w w.heap.size a1 us) (u2 : IsValsS w w.heap.size a2 vs) :
    Calls Try.prog 23 #[.slice (some ⟨b, 0, none⟩) 2 2] w fun e w' => ∃ v, e = .returned v ∧ w'.ownsRow w.heap.size 9 1 v (us.length + vs.length) (us ++ vs) ∧ Below w.heap.size w w' := by
  obtain ⟨i0, hi, hz0, hz1, hz2⟩ := info_parts infoS
  go_enter Try.func23, Try.ntmps23
  go_wp2
  go_loop [3, 5, 11] (fun sv _ iv => ∃ (k : Nat) (m : Nat), sv = .int .i64 m ∧ iv = .int .i64 k ∧ ((k = 0 ∧ m = 0) ∨ (k = 1 ∧ m = us.length) ∨ (k = 2 ∧ m = us.length + vs.length))) (fun _ _ iv => 2 - (intOf iv).toNat)
  case atStart => exact ⟨0, 0, rfl, rfl, .inl ⟨rfl, rfl⟩⟩
  case round =>
    obtain ⟨k, m, rfl, rfl, h⟩ := hrel
    rcases h with ⟨rfl, rfl⟩ | ⟨rfl, rfl⟩ | ⟨rfl, rfl⟩
    · go_wp2
      go_round
      case rel => exact ⟨1, us.length, by go_num, rfl, .inr (.inl ⟨rfl, rfl⟩)⟩
      case measure => simp [intOf]
    · go_wp2
      go_round
      case rel => exact ⟨2, us.length + vs.length, by go_num, rfl, .inr (.inr ⟨rfl, rfl⟩)⟩
      case measure => simp [intOf]
    · go_wp2_with fail
      rw [show ((us.length : Int) + (vs.length : Int)) = ((us.length + vs.length : Nat) : Int) from by omega]
      refine (growS _ (by omega) _).mono ?_
      rintro e w1 ⟨v, rfl, ho, hb⟩
      go_wp2
      go_loopw [6, 8, 27] (fun pv _ iv wr => ∃ (k : Nat) (v : Value), pv = v ∧ iv = .int .i64 k ∧ Below w.heap.size w wr ∧ ((k = 0 ∧ wr.ownsRow w.heap.size 9 1 v 0 []) ∨ (k = 1 ∧ wr.ownsRow w.heap.size 9 1 v us.length us) ∨ (k = 2 ∧ wr.ownsRow w.heap.size 9 1 v (us.length + vs.length) (us ++ vs)))) (fun _ _ iv _ => 2 - (intOf iv).toNat)
      case atStart => exact ⟨0, v, rfl, rfl, hb, .inl ⟨rfl, ho⟩⟩
      case round =>
        clear ho hb
        obtain ⟨k, v, rfl, rfl, hb, h⟩ := hrel
        rcases h with ⟨rfl, ho⟩ | ⟨rfl, ho⟩ | ⟨rfl, ho⟩
        ·
          cases a1 with
          | none =>
            obtain rfl : us = [] := u1.1 rfl
            obtain rfl : c1 = 0 := hc1 rfl
            have hr : wr.cell? ⟨b, 0, none⟩ = some (.slice none 0 0) := (hb.cell (by exact hbw)).trans h1
            go_wp2_with (at_builtin; refine wpList_append_own_none rfl _ _ 32 rfl w.heap.size 9 i0 1 Try.underlying32 hi _ _ _ rfl ho rfl ?_)
            go_wp2
            go_roundw
            case rel => exact ⟨_, _, _, ⟨1, rfl, .inr (.inl ⟨rfl, by simpa using ho⟩)⟩, rfl, rfl, rfl⟩
            case measure => simp [intOf]
          | some ad =>
            have hr : wr.cell? ⟨b, 0, none⟩ = some (.slice (some ad) us.length c1) := (hb.cell (by exact hbw)).trans h1
            have hv1 := u1.below hb
            go_wp2_with (at_builtin; refine wpList_append_own _ rfl _ _ 32 rfl w.heap.size 9 i0 (.string ⟨#[]⟩) 1 16 Try.underlying32 hi hz0 hz1 hz2 rfl (by decide) _ _ _ rfl ho ad _ _ us rfl (by simp) (hv1.2.1 ad rfl).2 hv1.2.2 (by unfold maxLen; omega) (by omega) hb.size ?_)
            intro v2 w2 ho2 hgrow _
            have hb2 : Below w.heap.size w w2 := hb.grown hgrow hb.size (fun k hk => (ho.lt k hk).1)
            clear hgrow hr
            go_wp2
            go_roundw
            case rel => exact ⟨1, v2, rfl, rfl, hb2, .inr (.inl ⟨rfl, by simpa using ho2⟩)⟩
            case measure => simp [intOf]
        ·
          cases a2 with
          | none =>
            obtain rfl : vs = [] := u2.1 rfl
            obtain rfl : c2 = 0 := hc2 rfl
            have hr : wr.cell? ⟨b, 1, none⟩ = some (.slice none 0 0) := (hb.cell (by exact hbw)).trans h2
            go_wp2_with (at_builtin; refine wpList_append_own_none rfl _ _ 32 rfl w.heap.size 9 i0 1 Try.underlying32 hi _ _ _ rfl ho rfl ?_)
            go_wp2
            go_roundw
            case rel => exact ⟨_, _, _, ⟨2, rfl, .inr (.inr ⟨rfl, by simpa using ho⟩)⟩, rfl, rfl, rfl⟩
            case measure => simp [intOf]
          | some ad =>
            have hr : wr.cell? ⟨b, 1, none⟩ = some (.slice (some ad) vs.length c2) := (hb.cell (by exact hbw)).trans h2
            have hv1 := u2.below hb
            go_wp2_with (at_builtin; refine wpList_append_own _ rfl _ _ 32 rfl w.heap.size 9 i0 (.string ⟨#[]⟩) 1 16 Try.underlying32 hi hz0 hz1 hz2 rfl (by decide) _ _ _ rfl ho ad _ _ vs rfl (by simp) (hv1.2.1 ad rfl).2 hv1.2.2 (by unfold maxLen; omega) (by omega) hb.size ?_)
            intro v2 w2 ho2 hgrow _
            have hb2 : Below w.heap.size w w2 := hb.grown hgrow hb.size (fun k hk => (ho.lt k hk).1)
            clear hgrow hr
            go_wp2
            go_roundw
            case rel => exact ⟨2, v2, rfl, rfl, hb2, .inr (.inr ⟨rfl, by simpa using ho2⟩)⟩
            case measure => simp [intOf]
        · go_wp2
          go_ret
          exact ⟨_, rfl, ho, hb⟩

end Go.Proofs.Ytiocibllmaakkaa
