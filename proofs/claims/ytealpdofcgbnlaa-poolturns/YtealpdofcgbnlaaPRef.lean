/-
  Layer 8: the document's buffers: a row of pairs; Owner, Get, Free.
-/
import Derived.Test.YtealpdofcgbnlaaPFills
namespace Go.Proofs.Ytealpdofcgbnlaa
open Go.RowKit
set_option linter.unusedVariables false

namespace P8
/-- A buffer as the document has it: two cells. -/
def one (o : Option (List UInt8)) : List Value := [.bool o.isSome, .string ⟨(o.getD []).toArray⟩]
def ones (st : List (Option (List UInt8))) : List Value := (st.map one).flatten
theorem ones_length (st : List (Option (List UInt8))) : (ones st).length = 2 * st.length := by
  induction st with
  | nil => rfl
  | cons a r ih => simp only [ones, List.map_cons, List.flatten_cons, List.length_append, one, List.length_cons, List.length_nil] at ih ⊢; omega
theorem ones_at0 (st : List (Option (List UInt8))) : ∀ {i : Nat}, i < st.length → (ones st)[2 * i]? = some (.bool (st.getD i none).isSome) := by
  induction st with
  | nil => intro i h; simp at h
  | cons a r ih =>
    intro i h
    cases i with
    | zero => rfl
    | succ i =>
      have := ih (i := i) (by simpa using h)
      show (.bool _ :: .string _ :: ones r)[2 * (i + 1)]? = _
      rw [show 2 * (i + 1) = 2 * i + 1 + 1 from by omega, List.getElem?_cons_succ, List.getElem?_cons_succ, this]
      rfl
theorem ones_at1 (st : List (Option (List UInt8))) : ∀ {i : Nat}, i < st.length → (ones st)[2 * i + 1]? = some (.string ⟨((st.getD i none).getD []).toArray⟩) := by
  induction st with
  | nil => intro i h; simp at h
  | cons a r ih =>
    intro i h
    cases i with
    | zero => rfl
    | succ i =>
      have := ih (i := i) (by simpa using h)
      show (.bool _ :: .string _ :: ones r)[2 * (i + 1) + 1]? = _
      rw [show 2 * (i + 1) + 1 = 2 * i + 1 + 1 + 1 from by omega, List.getElem?_cons_succ, List.getElem?_cons_succ, this]
      rfl
theorem ones_set (st : List (Option (List UInt8))) (o : Option (List UInt8)) : ∀ {i : Nat}, i < st.length → ((ones st).set (2 * i) (.bool o.isSome)).set (2 * i + 1) (.string ⟨(o.getD []).toArray⟩) = ones (st.set i o) := by
  induction st with
  | nil => intro i h; simp at h
  | cons a r ih =>
    intro i h
    cases i with
    | zero => rfl
    | succ i =>
      have := ih (i := i) (by simpa using h)
      show ((.bool _ :: .string _ :: ones r : List Value).set (2 * (i + 1)) _).set (2 * (i + 1) + 1) _ = .bool _ :: .string _ :: ones (r.set i o)
      rw [show 2 * (i + 1) = 2 * i + 1 + 1 from by omega, List.set_cons_succ, List.set_cons_succ, List.set_cons_succ, List.set_cons_succ, this]
/-- The text of a held one turned. -/
theorem ones_text (st : List (Option (List UInt8))) (t : List UInt8) : ∀ {i : Nat}, i < st.length → (st.getD i none).isSome = true → (ones st).set (2 * i + 1) (.string ⟨t.toArray⟩) = ones (st.set i (some t)) := by
  intro i hi hh
  have h1 := ones_set st (some t) hi
  have h2 : (ones st).set (2 * i) (.bool (some t).isSome) = ones st := by
    apply List.ext_getElem?
    intro j
    rw [List.getElem?_set]
    by_cases e : 2 * i = j
    · subst e
      rw [if_pos rfl, if_pos (by rw [ones_length]; omega), ones_at0 st hi, hh]
      rfl
    · rw [if_neg e]
  rw [h2] at h1
  exact h1
end P8

theorem pairCell0 {w : World} {g t : Nat} {st : List (Option (List UInt8))} (r : Row w g t (P8.ones st)) {i : Nat} (hi : i < st.length) : w.cell? ⟨g, i * 2, none⟩ = some (.bool (st.getD i none).isSome) := by
  rw [Nat.mul_comm]; exact (r.cell (2 * i)).trans (P8.ones_at0 st hi)
theorem pairCell1 {w : World} {g t : Nat} {st : List (Option (List UInt8))} (r : Row w g t (P8.ones st)) {i : Nat} (hi : i < st.length) : w.cell? ⟨g, i * 2 + 1, none⟩ = some (.string ⟨((st.getD i none).getD []).toArray⟩) := by
  rw [Nat.mul_comm]; exact (r.cell (2 * i + 1)).trans (P8.ones_at1 st hi)

set_option maxHeartbeats 1000000 in
theorem refOwner_yes (g n i : Nat) (st : List (Option (List UInt8))) (w : World) (hn : st.length = n) (hf : n ≤ 256) (r : Row w g 36 (P8.ones st)) (hi : i < n) (hh : (st.getD i none).isSome = true) :
    Calls Try.prog 10 #[.slice (some ⟨g, 0, none⟩) n n, .int .i64 (i : Int)] w fun e w' => e = .returned (.int .i64 0) ∧ w' = w := by
  have c0 := pairCell0 r (i := i) (by omega)
  rw [hh] at c0
  have h0 : ¬ (i : Int) < 0 := by omega
  have h1 : ¬ (n : Int) ≤ i := by omega
  have h2 : (i : Int) < n := by omega
  clear hn hh
  go_enter Try.func10, Try.ntmps10
  go_wp2
  go_ret
  exact ⟨rfl, rfl⟩

set_option maxHeartbeats 1000000 in
theorem refOwner_no (g n : Nat) (i : Int) (st : List (Option (List UInt8))) (w : World) (hn : st.length = n) (hf : n ≤ 256) (r : Row w g 36 (P8.ones st)) (hi : ¬ P8.Owns n st i) :
    Calls Try.prog 10 #[.slice (some ⟨g, 0, none⟩) n n, .int .i64 i] w fun e w' => e = .returned (.int .i64 14) ∧ w' = w := by
  by_cases h0 : i < 0
  · clear hi hn r
    go_enter Try.func10, Try.ntmps10
    go_wp2
    go_ret
    exact ⟨rfl, rfl⟩
  · by_cases h1 : (n : Int) ≤ i
    · clear hi hn r
      go_enter Try.func10, Try.ntmps10
      go_wp2
      go_ret
      exact ⟨rfl, rfl⟩
    · obtain ⟨k, rfl⟩ : ∃ k : Nat, i = (k : Int) := ⟨i.toNat, by omega⟩
      have hk : k < n := by omega
      have hh : (st.getD k none).isSome = false := by
        cases h : (st.getD k none).isSome with
        | false => rfl
        | true => exact absurd ⟨by omega, by omega, by simpa using h⟩ hi
      have c0 := pairCell0 r (i := k) (by omega)
      rw [hh] at c0
      have h2 : (k : Int) < n := by omega
      clear hn hh hi
      go_enter Try.func10, Try.ntmps10
      go_wp2
      go_ret
      exact ⟨rfl, rfl⟩

set_option maxHeartbeats 1000000 in
theorem refGet_long (g n : Nat) (s : ByteArray) (w : World) (hs : 512 < s.size) :
    Calls Try.prog 14 #[.slice (some ⟨g, 0, none⟩) n n, .string s] w fun e w' => e = .returned (.tuple #[.int .i64 0, .int .i64 5]) ∧ w' = w := by
  have h1 : (512 : Int) < s.size := by omega
  go_enter Try.func14, Try.ntmps14
  go_wp2
  go_ret2
  exact ⟨rfl, rfl⟩

set_option maxHeartbeats 1000000 in
theorem refGet_any (g n : Nat) (s : ByteArray) (st : List (Option (List UInt8))) (rv ev : Int) (hre : (P8.first st = -1 ∧ rv = 0 ∧ ev = 13) ∨ ∃ i : Nat, P8.first st = (i : Int) ∧ rv = (i : Int) ∧ ev = 0) (w : World) (hs : s.size ≤ 512) (hn : st.length = n) (hf : n ≤ 256) (r : Row w g 36 (P8.ones st)) :
    Calls Try.prog 14 #[.slice (some ⟨g, 0, none⟩) n n, .string s] w fun e w' => e = .returned (.tuple #[.int .i64 rv, .int .i64 ev]) ∧ Below w.heap.size w w' := by
  have h1 : ¬ (512 : Int) < s.size := by omega
  have HN := Lib.hid hn
  have HRE := Lib.hid hre
  have hg := r.lt
  clear hn hre
  go_enter Try.func14, Try.ntmps14
  go_wp2
  go_loopw [6, 7, 13] (fun _ _ iv wr => ∃ i : Nat, i ≤ n ∧ iv = .int .i64 i ∧ Below w.heap.size w wr ∧ ∀ j, j < i → (st.getD j none).isSome = true) (fun _ _ iv _ => n - (intOf iv).toNat)
  case atStart => exact ⟨0, Nat.zero_le _, rfl, Below.refl _ _, fun j hj => absurd hj (by omega)⟩
  case round =>
    obtain ⟨i, hi, rfl, hb, hall⟩ := hrel
    by_cases hlt : i < n
    · have hs : (i : Int) < n := by omega
      have r' := r.below hb hg
      have c0 := pairCell0 r' (i := i) (by rw [HN.out]; exact hlt)
      have c1 := pairCell1 r' (i := i) (by rw [HN.out]; exact hlt)
      have hbs := hb.size
      generalize (⟨((st.getD i none).getD []).toArray⟩ : ByteArray) = tx at *
      cases hh : (st.getD i none).isSome with
      | false =>
        rw [hh] at c0
        have hfi := P8.first_is (by rw [HN.out]; exact hlt) (by simpa using hh) hall
        have hv : rv = (i : Int) ∧ ev = 0 := by
          rcases HRE.out with ⟨h, _, _⟩ | ⟨k, h, h2, h3⟩
          · rw [hfi] at h; omega
          · rw [hfi] at h; exact ⟨by omega, h3⟩
        obtain ⟨rfl, rfl⟩ := hv
        clear hh hall hfi HRE
        go_wp2
        go_ret2
        exact ⟨rfl, by first | exact hb | exact hb.alloc hbs _⟩
      | true =>
        rw [hh] at c0
        go_wp2
        go_roundw
        case rel =>
          refine ⟨i + 1, by omega, by go_num, by first | exact hb | exact hb.alloc hbs _, fun j hj => ?_⟩
          by_cases e : j = i
          · subst e; exact hh
          · exact hall j (by omega)
        case measure => simp [intOf]; omega
    · obtain rfl : i = n := by omega
      have hfi := P8.first_none (st := st) (by rw [HN.out]; exact hall)
      have hv : rv = 0 ∧ ev = 13 := by
        rcases HRE.out with ⟨_, h2, h3⟩ | ⟨k, h, _, _⟩
        · exact ⟨h2, h3⟩
        · rw [hfi] at h; omega
      obtain ⟨rfl, rfl⟩ := hv
      clear hall hfi HRE
      go_wp2
      go_ret2
      exact ⟨rfl, hb⟩

set_option maxHeartbeats 1000000 in
theorem refFree_any (g n : Nat) (st : List (Option (List UInt8))) (w : World) (hn : st.length = n) (hf : n ≤ 256) (r : Row w g 36 (P8.ones st)) :
    Calls Try.prog 17 #[.slice (some ⟨g, 0, none⟩) n n] w fun e w' => e = .returned (.int .i64 ((n - (P8.heldTo st n).length : Nat) : Int)) ∧ Below w.heap.size w w' := by
  have HN := Lib.hid hn
  have hg := r.lt
  clear hn
  go_enter Try.func17, Try.ntmps17
  go_wp2
  go_loopw [3, 5, 8] (fun cv _ iv wr => ∃ i : Nat, i ≤ n ∧ iv = .int .i64 i ∧ cv = .int .i64 ((i - (P8.heldTo st i).length : Nat) : Int) ∧ Below w.heap.size w wr) (fun _ _ iv _ => n - (intOf iv).toNat)
  case atStart => exact ⟨0, Nat.zero_le _, rfl, rfl, Below.refl _ _⟩
  case round =>
    obtain ⟨i, hi, rfl, rfl, hb⟩ := hrel
    by_cases hlt : i < n
    · have hs : (i : Int) < n := by omega
      have r' := r.below hb hg
      have c0 := pairCell0 r' (i := i) (by rw [HN.out]; exact hlt)
      have c1 := pairCell1 r' (i := i) (by rw [HN.out]; exact hlt)
      have hbs := hb.size
      have hle := P8.heldTo_le st i
      generalize (⟨((st.getD i none).getD []).toArray⟩ : ByteArray) = tx at *
      cases hh : (st.getD i none).isSome with
      | false =>
        rw [hh] at c0
        have HY := Lib.hid (P8.heldTo_no hh)
        have hcs : Hid (((i - (P8.heldTo st i).length : Nat) : Int) + 1 = ((i + 1 - (P8.heldTo st (i + 1)).length : Nat) : Int)) := by show _ = _; rw [HY.out]; omega
        obtain ⟨c, hc⟩ : ∃ c, c = i - (P8.heldTo st i).length := ⟨_, rfl⟩
        have hcl : c ≤ 256 := by omega
        rw [← hc] at hcs ⊢
        clear hh hc hle
        go_wp2
        go_roundw
        case rel => exact ⟨i + 1, by omega, by go_num, by rw [← hcs.out], by first | exact hb | exact hb.alloc hbs _⟩
        case measure => simp [intOf]; omega
      | true =>
        rw [hh] at c0
        have HY := Lib.hid (P8.heldTo_yes hh)
        have hcs : Hid ((i - (P8.heldTo st i).length : Nat) = i + 1 - (P8.heldTo st (i + 1)).length) := by show _ = _; rw [HY.out, List.length_append, List.length_singleton]; omega
        generalize i - (P8.heldTo st i).length = c at *
        go_wp2
        go_roundw
        case rel => exact ⟨i + 1, by omega, by go_num, by rw [← hcs.out], by first | exact hb | exact hb.alloc hbs _⟩
        case measure => simp [intOf]; omega
    · obtain rfl : i = n := by omega
      go_wp2
      go_ret
      exact ⟨rfl, hb⟩

theorem infoOne : (Try.prog.info? 36).map (fun i => (i.zero, i.size, i.bytes)) = some (some (.agg #[.bool false, .string ⟨#[]⟩]), 2, 24) := by kernel_rfl
theorem makeOnes (n : Nat) (hn : n ≤ 256) (w : World) : (Instr.makeSlice 28 (.int .i64 (n : Int)) (.int .i64 (n : Int))).run Try.prog w = .ok (.slice (some ⟨w.heap.size, 0, none⟩) n n) (w.alloc (.cells (P8.ones (List.replicate n none)).toArray 36 (0, 0))) := by
  obtain ⟨i0, hi, hz0, hz1, hz2⟩ := info_parts infoOne
  have h := run_makeSlice (P := Try.prog) w 28 36 i0 _ Try.underlying28 hi hz0 .i64 .i64 n n (by omega) (Int.le_refl _) (by rw [hz1]; simp; omega) (by rw [hz2]; omega) (by omega)
  rw [hz1, Int.toNat_natCast] at h
  have e : madeCells (Value.agg #[.bool false, .string ⟨#[]⟩]).cells (n * 2) = (P8.ones (List.replicate n none)).toArray := by
    apply Array.toList_inj.1
    apply List.ext_getElem?
    intro j
    have hl := P8.ones_length (List.replicate n none)
    rw [List.length_replicate] at hl
    show (madeCells #[.bool false, .string ⟨#[]⟩] (n * 2)).toList[j]? = (P8.ones (List.replicate n none))[j]?
    by_cases hj : j < n * 2
    · have h0 : (madeCells #[Value.bool false, .string ⟨#[]⟩] (n * 2)).toList[j]? = some ((#[Value.bool false, .string ⟨#[]⟩] : Array Value)[j % 2]!) := by
        simp [madeCells, hj]
      rw [h0]
      obtain ⟨k, hk⟩ : ∃ k, k = j / 2 := ⟨_, rfl⟩
      have hkn : k < (List.replicate n (none : Option (List UInt8))).length := by rw [List.length_replicate]; omega
      have hr : (List.replicate n (none : Option (List UInt8))).getD k none = none := by
        rw [List.getD_eq_getElem?_getD, List.getElem?_replicate]; split <;> rfl
      rcases (show j = 2 * k ∨ j = 2 * k + 1 by omega) with rfl | rfl
      · rw [P8.ones_at0 _ hkn, show 2 * k % 2 = 0 from by omega, hr]
        rfl
      · rw [P8.ones_at1 _ hkn, show (2 * k + 1) % 2 = 1 from by omega, hr]
        rfl
    · rw [List.getElem?_eq_none (by simp [madeCells]; omega), List.getElem?_eq_none (by omega)]
  rw [e] at h
  exact h

end Go.Proofs.Ytealpdofcgbnlaa
