/-
  Layer 8: what the calls of a pool come to.
-/
import Derived.Test.YtealpdofcgbnlaaPPool
import Derived.Laws.AppendOwn
import Derived.Laws.IdiomStrings
import Derived.Deep.RegionHeld3
namespace Go.Proofs.Ytealpdofcgbnlaa
open Go.RowKit
set_option linter.unusedVariables false

namespace P8
/-- The numbers below k of those that are held. -/
def heldTo (st : List (Option (List UInt8))) (k : Nat) : List Nat := (List.range k).filter fun i => (st.getD i none).isSome
theorem heldTo_yes {st : List (Option (List UInt8))} {k : Nat} (h : (st.getD k none).isSome = true) : heldTo st (k + 1) = heldTo st k ++ [k] := by
  simp only [heldTo, List.range_succ, List.filter_append, List.filter_cons, List.filter_nil, h, if_true]
theorem heldTo_no {st : List (Option (List UInt8))} {k : Nat} (h : (st.getD k none).isSome = false) : heldTo st (k + 1) = heldTo st k := by
  simp only [heldTo, List.range_succ, List.filter_append, List.filter_cons, List.filter_nil, h, List.append_nil, Bool.false_eq_true, if_false]
theorem heldTo_le (st : List (Option (List UInt8))) (k : Nat) : (heldTo st k).length ≤ k := by
  have := List.length_filter_le (fun i => (st.getD i none).isSome) (List.range k)
  simpa [heldTo] using this
def ints (l : List Nat) : List Value := l.map fun (x : Nat) => Value.int .i64 (x : Int)
theorem ints_snoc (l : List Nat) (x : Nat) : ints (l ++ [x]) = ints l ++ [.int .i64 (x : Int)] := by simp [ints]
theorem ints_length (l : List Nat) : (ints l).length = l.length := by simp [ints]
end P8

theorem infoInt : (Try.prog.info? 3).map (fun i => (i.zero, i.size, i.bytes)) = some (some (.int .i64 0), 1, 8) := by kernel_rfl
theorem info_parts {P : Program} {t : TypeId} {z : Value} {a b : Nat} (h : (P.info? t).map (fun i => (i.zero, i.size, i.bytes)) = some (some z, a, b)) : ∃ i, P.info? t = some i ∧ i.zero = some z ∧ i.size = a ∧ i.bytes = b := by
  cases hq : P.info? t with
  | none => simp [hq] at h
  | some i => simp [hq] at h; exact ⟨i, rfl, h.1, h.2.1, h.2.2⟩

set_option maxHeartbeats 1000000 in
theorem held_own (b n : Nat) (st : List (Option (List UInt8))) (ever : Nat) (w : World) (hp : P8.PoolAt w b n st ever) :
    Calls Try.prog 15 #[.pointer (some ⟨b + 1, 0, none⟩)] w fun e w' => ∃ v, e = .returned v ∧ w'.ownsRow w.heap.size 3 1 v (P8.heldTo st n).length (P8.ints (P8.heldTo st n)) ∧ Below w.heap.size w w' := by
  obtain ⟨i0, hi, hz0, hz1, hz2⟩ := info_parts infoInt
  have hf := hp.few
  have hfit := hp.fits
  have c0 := bufArr hp
  go_enter Try.func15, Try.ntmps15
  go_wp2
  go_loopw [3, 4, 5, 13] (fun ov _ _ iv wr => ∃ i : Nat, i ≤ n ∧ iv = .int .i64 i ∧ wr.ownsRow w.heap.size 3 1 ov (P8.heldTo st i).length (P8.ints (P8.heldTo st i)) ∧ Below w.heap.size w wr) (fun _ _ _ iv _ => n - (intOf iv).toNat)
  case atStart => exact ⟨0, Nat.zero_le _, rfl, World.ownsRow_nil _ _ _ _, Below.refl _ _⟩
  case round =>
    obtain ⟨i, hi', rfl, ho, hb⟩ := hrel
    by_cases hlt : i < n
    · have hs : (i : Int) < n := by omega
      have hp' := hp.below hb hfit
      have c1 := bufPtr hp' hlt
      have c2 := bufHeld hp' hlt
      cases hh : (st.getD i none).isSome with
      | false =>
        rw [hh] at c2
        rw [← P8.heldTo_no hh] at ho
        clear hh hp'
        go_wp2
        go_roundw
        case rel => exact ⟨i + 1, by omega, by go_num, ho, hb⟩
        case measure => simp [intOf]; omega
      | true =>
        rw [hh] at c2
        have HY := Lib.hid (P8.heldTo_yes hh)
        have hle := P8.heldTo_le st i
        clear hh hp'
        generalize P8.heldTo st i = L at *
        go_wp2_with (at_builtin; refine wpList_append_own _ rfl _ _ 43 rfl w.heap.size 3 i0 (.int .i64 0) 1 8 Try.underlying43 hi hz0 hz1 hz2 rfl (by decide) _ L.length (P8.ints L) rfl (ho.alloc _) ⟨wr.heap.size, 0, none⟩ 1 1 [.int .i64 (i : Int)] rfl rfl (by intro j u hj; match j, hj with | 0, hj => simp at hj; subst hj; simp [Addr.add]) (by intro u hu; simp at hu; subst hu; rfl) (by unfold maxLen; omega) (by omega) (by have := hb.size; simp; omega) ?_)
        intro v' w2 ho2 hgrow hnil
        have hb2 : Below w.heap.size w w2 := (hb.alloc hb.size _).grown hgrow (by have := hb.size; simp; omega) (fun k hk => (ho.lt k hk).1)
        rw [← P8.ints_snoc, show L.length + 1 = (L ++ [i]).length from by simp, ← HY.out] at ho2
        clear hgrow hnil ho hb
        go_wp2
        go_roundw
        case rel => exact ⟨i + 1, by omega, by go_num, ho2, hb2⟩
        case measure => simp [intOf]; omega
    · obtain rfl : i = n := by omega
      go_wp2
      go_ret
      exact ⟨_, rfl, ho, hb⟩

theorem held_any (b n : Nat) (st : List (Option (List UInt8))) (ever : Nat) (w : World) (hp : P8.PoolAt w b n st ever) :
    Calls Try.prog 15 #[.pointer (some ⟨b + 1, 0, none⟩)] w fun e w' => ∃ a cap, e = .returned (.slice a (P8.heldTo st n).length cap) ∧ w'.ownsRow w.heap.size 3 1 (.slice a (P8.heldTo st n).length cap) (P8.heldTo st n).length (P8.ints (P8.heldTo st n)) ∧ Below w.heap.size w w' := by
  refine (held_own b n st ever w hp).mono ?_
  rintro e w' ⟨v, rfl, ho, hb⟩
  rcases ho.2 with ⟨rfl, h0⟩ | ⟨g, cap, cur, rfl, _⟩
  · exact ⟨none, 0, by rw [h0], by rw [h0] at ho ⊢; exact ho, hb⟩
  · exact ⟨_, cap, rfl, ho, hb⟩

set_option maxHeartbeats 1000000 in
theorem free_any (b n : Nat) (st : List (Option (List UInt8))) (ever : Nat) (w : World) (hp : P8.PoolAt w b n st ever) :
    Calls Try.prog 16 #[.pointer (some ⟨b + 1, 0, none⟩)] w fun e w' => e = .returned (.int .i64 ((n - (P8.heldTo st n).length : Nat) : Int)) ∧ Below w.heap.size w w' := by
  have CH : Hid (∀ wx, P8.PoolAt wx b n st ever → Calls Try.prog 15 #[.pointer (some ⟨b + 1, 0, none⟩)] wx fun e w' => ∃ a cap, e = .returned (.slice a (P8.heldTo st n).length cap) ∧ w'.ownsRow wx.heap.size 3 1 (.slice a (P8.heldTo st n).length cap) (P8.heldTo st n).length (P8.ints (P8.heldTo st n)) ∧ Below wx.heap.size wx w') := fun wx h => held_any b n st ever wx h
  have hf := hp.few
  have hfit := hp.fits
  have c0 := bufArr hp
  have hle := P8.heldTo_le st n
  have hw : IntKind.i64.wrap ((n : Int) - ((P8.heldTo st n).length : Int)) = ((n - (P8.heldTo st n).length : Nat) : Int) := by rw [IntKind.wrap_i64]; omega
  generalize P8.heldTo st n = L at *
  go_enter Try.func16, Try.ntmps16
  go_wp2_with fail
  go_region_held3 (fun w' => w'.cell? ⟨b + 1, 0, none⟩ = some (.slice (some ⟨b, 0, none⟩) n n)) (first | assumption | exact c0 | exact q0) (first | (go_at_call 15; refine (CH.out _ hp.drew).mono ?_; rintro e w1 ⟨a, cap, rfl, ho, hb⟩; have q0 : w1.cell? ⟨b + 1, 0, none⟩ = some (.slice (some ⟨b, 0, none⟩) n n) := (hb.cell (by show b + 1 < w.heap.size; have := hp.pos; omega)).trans c0))
  go_wp2
  go_ret
  refine ⟨?_, (show Below w.heap.size w w.drew from (Below.refl _ w).drew).trans hb⟩
  first | rfl | (rw [hw]; rfl) | (rw [← hw]; rfl)

end Go.Proofs.Ytealpdofcgbnlaa
