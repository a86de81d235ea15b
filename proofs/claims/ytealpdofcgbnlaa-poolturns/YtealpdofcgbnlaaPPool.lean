/-
  Layer 8: a pool in memory; which buffer is the first free one.
-/
import Derived.Test.YtealpdofcgbnlaaPBase
namespace Go.Proofs.Ytealpdofcgbnlaa
open Go.RowKit
set_option linter.unusedVariables false

namespace P8
/-- A buffer's cells, by who holds it: nobody, or somebody with a text. -/
def cellsB (o : Option (List UInt8)) : List Value := bufC (pad (o.getD [])) (o.getD []).length o.isSome
/-- The array of addresses. -/
def ptrs (b n : Nat) : List Value := (List.range n).map fun i => Value.pointer (some ⟨b + 2 + i, 0, none⟩)
theorem ptrs_at {b n i : Nat} (h : i < n) : (ptrs b n)[i]? = some (Value.pointer (some ⟨b + 2 + i, 0, none⟩)) := by simp [ptrs, h]
theorem ptrs_length (b n : Nat) : (ptrs b n).length = n := by simp [ptrs]
/-- A pool of n buffers, in the blocks b .. b + n + 1. -/
structure PoolAt (w : World) (b n : Nat) (st : List (Option (List UInt8))) (ever : Nat) : Prop where
  len : st.length = n
  pos : 1 ≤ n
  few : n ≤ 256
  small : ∀ i, i < n → ((st.getD i none).getD []).length ≤ 512
  arr : Row w b 59 (ptrs b n)
  top : Row w (b + 1) 58 [.slice (some ⟨b, 0, none⟩) n n, .int .u64 (ever : Int)]
  buf : ∀ i, i < n → Row w (b + 2 + i) 62 (cellsB (st.getD i none))
theorem PoolAt.fits {w : World} {b n : Nat} {st : List (Option (List UInt8))} {ever : Nat} (h : PoolAt w b n st ever) : b + 2 + n ≤ w.heap.size := by
  have h1 := (h.buf (n - 1) (by have := h.pos; omega)).lt
  have := h.pos
  omega
theorem PoolAt.out {w w' : World} {b n lo hi : Nat} {st : List (Option (List UInt8))} {ever : Nat} (h : PoolAt w b n st ever) (o : Out lo hi w w') (ho : hi ≤ b ∨ b + 2 + n ≤ lo) : PoolAt w' b n st ever :=
  ⟨h.len, h.pos, h.few, h.small, o.row h.arr (by have := h.pos; omega), o.row h.top (by have := h.pos; omega), fun i hi => o.row (h.buf i hi) (by omega)⟩
theorem PoolAt.below {w w' : World} {b n B : Nat} {st : List (Option (List UInt8))} {ever : Nat} (h : PoolAt w b n st ever) (o : Below B w w') (ho : b + 2 + n ≤ B) : PoolAt w' b n st ever :=
  ⟨h.len, h.pos, h.few, h.small, h.arr.below o (by have := h.pos; omega), h.top.below o (by have := h.pos; omega), fun i hi => (h.buf i hi).below o (by omega)⟩
theorem PoolAt.drew {w : World} {b n : Nat} {st : List (Option (List UInt8))} {ever : Nat} (h : PoolAt w b n st ever) : PoolAt w.drew b n st ever := ⟨h.len, h.pos, h.few, h.small, h.arr, h.top, h.buf⟩
theorem getD_set {α : Type} (l : List α) (i j : Nat) (x d : α) (hi : i < l.length) : (l.set i x).getD j d = if j = i then x else l.getD j d := by
  simp only [List.getD_eq_getElem?_getD, List.getElem?_set]
  by_cases e : i = j
  · subst e; simp [hi]
  · have e' : ¬ j = i := fun x => e x.symm
    simp [e, e']
theorem PoolAt.turn {w w' : World} {b n i : Nat} {st : List (Option (List UInt8))} {ever : Nat} (h : PoolAt w b n st ever) (hi : i < n) (o : Option (List UInt8)) (ho : (o.getD []).length ≤ 512)
    (r : Row w' (b + 2 + i) 62 (cellsB o)) (hk : Out (b + 2 + i) (b + 2 + i + 1) w w') : PoolAt w' b n (st.set i o) ever := by
  refine ⟨by rw [List.length_set]; exact h.len, h.pos, h.few, fun j hj => ?_, hk.row h.arr (by omega), hk.row h.top (by omega), fun j hj => ?_⟩
  · rw [getD_set _ _ _ _ _ (by rw [h.len]; exact hi)]
    split
    · exact ho
    · exact h.small j hj
  · rw [getD_set _ _ _ _ _ (by rw [h.len]; exact hi)]
    split
    · rename_i e; subst e; exact r
    · exact hk.row (h.buf j hj) (by omega)
theorem PoolAt.again {w : World} {b n : Nat} {st : List (Option (List UInt8))} {ever : Nat} (h : PoolAt w b n st ever) (m : Nat) : PoolAt (w.setCell ⟨b + 1, 1, none⟩ (.int .u64 (m : Int))) b n st m :=
  ⟨h.len, h.pos, h.few, h.small, h.arr.other (by omega) _, h.top.set 1 _, fun i hi => (h.buf i hi).other (by omega) _⟩
/-- The number of the first free one, or -1. -/
def first (st : List (Option (List UInt8))) : Int := match st.findIdx? (·.isNone) with | some i => (i : Int) | none => -1
theorem first_is {st : List (Option (List UInt8))} {i : Nat} (hi : i < st.length) (h : st.getD i none = none) (hb : ∀ j, j < i → (st.getD j none).isSome = true) : first st = (i : Int) := by
  have : st.findIdx? (·.isNone) = some i := by
    rw [List.findIdx?_eq_some_iff_getElem]
    refine ⟨hi, ?_, fun j hj => ?_⟩
    · simp [List.getD_eq_getElem?_getD, hi] at h; simp [h]
    · have := hb j hj
      simp [List.getD_eq_getElem?_getD, show j < st.length from by omega] at this
      cases hx : st[j] <;> simp [hx] at this ⊢
  simp [first, this]
theorem first_none {st : List (Option (List UInt8))} (hb : ∀ j, j < st.length → (st.getD j none).isSome = true) : first st = -1 := by
  have : st.findIdx? (·.isNone) = none := by
    rw [List.findIdx?_eq_none_iff]
    intro x hx
    obtain ⟨j, hj, rfl⟩ := List.mem_iff_getElem.1 hx
    have := hb j hj
    simp [List.getD_eq_getElem?_getD, hj] at this
    cases hx : st[j] <;> simp [hx] at this ⊢
  simp [first, this]
theorem first_cases (st : List (Option (List UInt8))) : (∃ i, i < st.length ∧ first st = (i : Int) ∧ st.getD i none = none ∧ ∀ j, j < i → (st.getD j none).isSome = true) ∨ (first st = -1 ∧ ∀ j, j < st.length → (st.getD j none).isSome = true) := by
  cases h : st.findIdx? (·.isNone) with
  | none =>
    refine .inr ⟨by simp [first, h], fun j hj => ?_⟩
    rw [List.findIdx?_eq_none_iff] at h
    have := h _ (List.getElem_mem hj)
    simp [List.getD_eq_getElem?_getD, hj]
    cases hx : st[j] <;> simp [hx] at this ⊢
  | some i =>
    rw [List.findIdx?_eq_some_iff_getElem] at h
    obtain ⟨h1, h2, h3⟩ := h
    have e0 : st.getD i none = none := by
      simp [List.getD_eq_getElem?_getD, h1]
      cases hx : st[i] <;> simp [hx] at h2 ⊢
    have e1 : ∀ j, j < i → (st.getD j none).isSome = true := fun j hj => by
      have := h3 j hj
      simp [List.getD_eq_getElem?_getD, show j < st.length from by omega]
      cases hx : st[j] <;> simp [hx] at this ⊢
    exact .inl ⟨i, h1, first_is h1 e0 e1, e0, e1⟩
end P8

theorem pad0 : P8.pad [] = List.replicate 512 0 := rfl
theorem bufHeld {w : World} {b n i : Nat} {st : List (Option (List UInt8))} {ever : Nat} (h : P8.PoolAt w b n st ever) (hi : i < n) : w.cell? ⟨b + 2 + i, 513, none⟩ = some (.bool (st.getD i none).isSome) :=
  ((h.buf i hi).cell 513).trans (P8.bufC_at513 (P8.pad_length (h.small i hi)) _ _)
theorem bufSize {w : World} {b n i : Nat} {st : List (Option (List UInt8))} {ever : Nat} (h : P8.PoolAt w b n st ever) (hi : i < n) : w.cell? ⟨b + 2 + i, 512, none⟩ = some (.int .i64 (((st.getD i none).getD []).length : Int)) :=
  ((h.buf i hi).cell 512).trans (P8.bufC_at512 (P8.pad_length (h.small i hi)) _ _)
theorem bufPtr {w : World} {b n i : Nat} {st : List (Option (List UInt8))} {ever : Nat} (h : P8.PoolAt w b n st ever) (hi : i < n) : w.cell? ⟨b, i, none⟩ = some (.pointer (some ⟨b + 2 + i, 0, none⟩)) :=
  (h.arr.cell i).trans (P8.ptrs_at hi)
theorem bufArr {w : World} {b n : Nat} {st : List (Option (List UInt8))} {ever : Nat} (h : P8.PoolAt w b n st ever) : w.cell? ⟨b + 1, 0, none⟩ = some (.slice (some ⟨b, 0, none⟩) n n) :=
  (h.top.cell 0).trans rfl
theorem bufEver {w : World} {b n : Nat} {st : List (Option (List UInt8))} {ever : Nat} (h : P8.PoolAt w b n st ever) : w.cell? ⟨b + 1, 1, none⟩ = some (.int .u64 (ever : Int)) :=
  (h.top.cell 1).trans rfl

set_option maxHeartbeats 1000000 in
theorem closure_any (q : Nat) (h : Bool) (w : World) (hc : w.cell? ⟨q, 513, none⟩ = some (.bool h)) :
    Calls Try.prog 24 #[.pointer (some ⟨q, 0, none⟩)] w fun e w' => e = .returned (.bool (!h)) ∧ w' = w := by
  go_enter Try.func24, Try.ntmps24
  go_wp2
  go_ret
  exact ⟨rfl, rfl⟩

set_option maxHeartbeats 1000000 in
theorem index_any (b n : Nat) (st : List (Option (List UInt8))) (ever : Nat) (w : World) (hp : P8.PoolAt w b n st ever) :
    Calls Try.prog 23 #[.slice (some ⟨b, 0, none⟩) n n, .func (.func 24) #[] #[]] w fun e w' => e = .returned (.int .i64 (P8.first st)) ∧ w' = w := by
  have hf := hp.few
  have hl := Lib.hid hp.len
  go_enter Try.func23, Try.ntmps23
  go_wp2
  go_loopw [5, 8] (fun _ iv wr => ∃ i : Nat, i ≤ n ∧ iv = .int .i64 i ∧ wr = w ∧ ∀ j, j < i → (st.getD j none).isSome = true) (fun _ iv _ => n - (intOf iv).toNat)
  case atStart => exact ⟨0, Nat.zero_le _, rfl, rfl, fun j hj => absurd hj (by omega)⟩
  case round =>
    obtain ⟨i, hi, rfl, rfl, hb⟩ := hrel
    by_cases hlt : i < n
    · have hs : (i : Int) < n := by omega
      have c1 := bufPtr hp hlt
      have c2 := bufHeld hp hlt
      cases ho : (st.getD i none).isSome with
      | false =>
        rw [ho] at c2
        have hfi := Lib.hid (P8.first_is (by rw [hl.out]; exact hlt) (by simpa using ho) hb)
        clear ho hb
        go_wp2
        go_ret
        exact ⟨by rw [hfi.out]; rfl, rfl⟩
      | true =>
        rw [ho] at c2
        go_wp2
        go_roundw
        case rel =>
          refine ⟨i + 1, by omega, by go_num, trivial, fun j hj => ?_⟩
          by_cases e : j = i
          · subst e; exact ho
          · exact hb j (by omega)
        case measure => simp [intOf]; omega
    · obtain rfl : i = n := by omega
      have hfi := Lib.hid (P8.first_none (st := st) (by rw [hl.out]; exact hb))
      clear hb
      go_wp2
      go_ret
      exact ⟨by rw [hfi.out]; rfl, rfl⟩

set_option maxHeartbeats 1000000 in
theorem there_yes (b n i : Nat) (st : List (Option (List UInt8))) (ever : Nat) (w : World) (hp : P8.PoolAt w b n st ever) (hi : i < n) :
    Calls Try.prog 25 #[.pointer (some ⟨b + 1, 0, none⟩), .int .i64 (i : Int)] w fun e w' => e = .returned (.bool true) ∧ w' = w := by
  have hf := hp.few
  have c0 := bufArr hp
  have hs : (i : Int) < n := by omega
  have h0 : ¬ (i : Int) < 0 := by omega
  go_enter Try.func25, Try.ntmps25
  go_wp2
  go_ret
  exact ⟨rfl, rfl⟩
set_option maxHeartbeats 1000000 in
theorem there_no (b n : Nat) (i : Int) (st : List (Option (List UInt8))) (ever : Nat) (w : World) (hp : P8.PoolAt w b n st ever) (hi : ¬ (0 ≤ i ∧ i < n)) :
    Calls Try.prog 25 #[.pointer (some ⟨b + 1, 0, none⟩), .int .i64 i] w fun e w' => e = .returned (.bool false) ∧ w' = w := by
  have hf := hp.few
  have c0 := bufArr hp
  by_cases h0 : 0 ≤ i
  · have hs : ¬ i < (n : Int) := by omega
    clear hi
    go_enter Try.func25, Try.ntmps25
    go_wp2
    go_ret
    exact ⟨rfl, rfl⟩
  · clear hi
    go_enter Try.func25, Try.ntmps25
    go_wp2
    go_ret
    exact ⟨rfl, rfl⟩

set_option maxHeartbeats 1000000 in
theorem owned_yes (b n i : Nat) (st : List (Option (List UInt8))) (ever : Nat) (w : World) (hp : P8.PoolAt w b n st ever) (hi : i < n) (ho : (st.getD i none).isSome = true) :
    Calls Try.prog 21 #[.pointer (some ⟨b + 1, 0, none⟩), .int .i64 (i : Int)] w fun e w' => e = .returned (.tuple #[.pointer (some ⟨b + 2 + i, 0, none⟩), .int .i64 0]) ∧ w' = w := by
  have T := Lib.hid (there_yes b n i st ever w hp hi)
  have hf := hp.few
  have c0 := bufArr hp
  have c1 := bufPtr hp hi
  have c2 := bufHeld hp hi
  rw [ho] at c2
  clear ho
  go_enter Try.func21, Try.ntmps21
  go_wp2_with (go_at_call 25; refine T.out.mono ?_; rintro e w' ⟨rfl, rfl⟩)
  go_ret2
  exact ⟨rfl, rfl⟩
set_option maxHeartbeats 1000000 in
theorem owned_no (b n : Nat) (i : Int) (st : List (Option (List UInt8))) (ever : Nat) (w : World) (hp : P8.PoolAt w b n st ever) (hi : ¬ (0 ≤ i ∧ i < n ∧ (st.getD i.toNat none).isSome = true)) :
    Calls Try.prog 21 #[.pointer (some ⟨b + 1, 0, none⟩), .int .i64 i] w fun e w' => e = .returned (.tuple #[.pointer none, .int .i64 14]) ∧ w' = w := by
  by_cases h1 : 0 ≤ i ∧ i < n
  · obtain ⟨k, rfl⟩ : ∃ k : Nat, i = (k : Int) := ⟨i.toNat, by omega⟩
    have hk : k < n := by omega
    have ho : (st.getD k none).isSome = false := by
      cases h : (st.getD k none).isSome with
      | false => rfl
      | true => exact absurd ⟨h1.1, h1.2, by simpa using h⟩ hi
    have T := Lib.hid (there_yes b n k st ever w hp hk)
    have hf := hp.few
    have c0 := bufArr hp
    have c1 := bufPtr hp hk
    have c2 := bufHeld hp hk
    rw [ho] at c2
    clear ho hi h1
    go_enter Try.func21, Try.ntmps21
    go_wp2_with (go_at_call 25; refine T.out.mono ?_; rintro e w' ⟨rfl, rfl⟩)
    go_ret2
    exact ⟨rfl, rfl⟩
  · have T := Lib.hid (there_no b n i st ever w hp h1)
    clear hi h1
    go_enter Try.func21, Try.ntmps21
    go_wp2_with (go_at_call 25; refine T.out.mono ?_; rintro e w' ⟨rfl, rfl⟩)
    go_ret2
    exact ⟨rfl, rfl⟩

end Go.Proofs.Ytealpdofcgbnlaa
