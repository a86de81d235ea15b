/-
  Layer 8: Get, Read, Write, Put, Raw, Ever.
-/
import Derived.Test.YtealpdofcgbnlaaPCalls
namespace Go.Proofs.Ytealpdofcgbnlaa
open Go.RowKit
set_option linter.unusedVariables false

theorem bufText {w : World} {q : Nat} {x t : List UInt8} {n : Nat} {h : Bool} {k cap : Nat} (hk : k = t.length) (hx : ∀ j, j < k → x.getD j 0 = t.getD j 0) (hl : k ≤ x.length) (r : Row w q 62 (P8.bufC x n h)) :
    (convert 53 9 (.slice (some ⟨q, 0, none⟩) k cap)).run Try.prog w = .ok (.string ⟨t.toArray⟩) w := by
  subst hk
  exact run_convert_bytes_back (P := Try.prog) w 53 9 5 ⟨q, 0, none⟩ cap t Try.underlying53 Try.underlying5 Try.underlying9 (fun j hj => by
    have e : (⟨q, 0, none⟩ : Addr).add j = ⟨q, j, none⟩ := by unfold Addr.add; split <;> simp_all
    have hj' : j < t.length := by simpa using hj
    rw [e, r.cell]
    unfold P8.bufC
    rw [List.getElem?_append_left (by rw [c8_len]; omega), c8_at (by omega), hx j hj']
    simp [List.getD_eq_getElem?_getD, hj'])

theorem pad_at {t : List UInt8} {j : Nat} (h : j < t.length) : (P8.pad t).getD j 0 = t.getD j 0 := by
  simp only [P8.pad, List.getD_eq_getElem?_getD]
  rw [List.getElem?_append_left h]

set_option maxHeartbeats 1000000 in
theorem get_long (b : Nat) (s : ByteArray) (w : World) (hs : 512 < s.size) :
    Calls Try.prog 13 #[.pointer (some ⟨b, 0, none⟩), .string s] w fun e w' => e = .returned (.tuple #[.int .i64 0, .int .i64 5]) ∧ w' = w := by
  have h1 : (512 : Int) < s.size := by omega
  go_enter Try.func13, Try.ntmps13
  go_wp2
  go_ret2
  exact ⟨rfl, rfl⟩

set_option maxHeartbeats 1000000 in
theorem get_full (b n : Nat) (st : List (Option (List UInt8))) (ever : Nat) (s : ByteArray) (w : World) (hp : P8.PoolAt w b n st ever) (hs : s.size ≤ 512) (hf : P8.first st = -1) :
    Calls Try.prog 13 #[.pointer (some ⟨b + 1, 0, none⟩), .string s] w fun e w' => e = .returned (.tuple #[.int .i64 0, .int .i64 13]) ∧ w' = w := by
  have h1 : ¬ (512 : Int) < s.size := by omega
  have T := Lib.hid (index_any b n st ever w hp)
  rw [hf] at T
  have c0 := bufArr hp
  clear hf
  go_enter Try.func13, Try.ntmps13
  go_wp2_with (go_at_call 23; refine T.out.mono ?_; rintro e w ⟨rfl, rfl⟩)
  go_ret2
  exact ⟨rfl, rfl⟩

set_option maxHeartbeats 1000000 in
theorem get_yes (b n i : Nat) (st : List (Option (List UInt8))) (ever : Nat) (s : ByteArray) (w : World) (hp : P8.PoolAt w b n st ever) (hs : s.size ≤ 512) (hi : i < n) (hf : P8.first st = (i : Int)) (he : ever ≤ 1000000) :
    Calls Try.prog 13 #[.pointer (some ⟨b + 1, 0, none⟩), .string s] w fun e w' => e = .returned (.tuple #[.int .i64 (i : Int), .int .i64 0]) ∧ P8.PoolAt w' b n (st.set i (some s.data.toList)) (ever + 1) ∧ Out b (b + 2 + n) w w' ∧ w'.heap.size = w.heap.size := by
  have h1 : ¬ (512 : Int) < s.size := by omega
  have h0 : ¬ (i : Int) < 0 := by omega
  have hf1 := hp.few
  have T := Lib.hid (index_any b n st ever w hp)
  rw [hf] at T
  have F := Lib.hid (fill_any (b + 2 + i) (P8.pad ((st.getD i none).getD [])) ((st.getD i none).getD []).length (st.getD i none).isSome s w (P8.pad_length (hp.small i hi)) hs (hp.buf i hi))
  have c0 := bufArr hp
  have c1 := bufPtr hp hi
  clear hf
  go_enter Try.func13, Try.ntmps13
  go_wp2_with (go_at_call 23; refine T.out.mono ?_; rintro e w ⟨rfl, rfl⟩)
  refine F.out.mono ?_
  rintro e w1 ⟨rfl, r1, o1, z1⟩
  have hsl : s.data.toList.length = s.size := by simp
  have hpl := P8.pad_length (s := s.data.toList) (by rw [hsl]; exact hs)
  have r2 := r1.set 513 (.bool true)
  rw [P8.bufC_held hpl, ← hsl] at r2
  have p2 := hp.turn hi (some s.data.toList) (by simpa using hs) (w' := w1.setCell ⟨b + 2 + i, 513, none⟩ (.bool true)) r2 (o1.setCell (Nat.le_refl _) (by omega) _)
  have o2 : Out b (b + 2 + n) w (w1.setCell ⟨b + 2 + i, 513, none⟩ (.bool true)) := (o1.setCell (Nat.le_refl _) (by omega) _).mono (by omega) (by omega)
  have z2 : Hid ((w1.setCell ⟨b + 2 + i, 513, none⟩ (.bool true)).heap.size = w.heap.size) := by show _ = _; simpa [World.setCell] using z1
  have d0 : w1.cell? ⟨b + 1, 0, none⟩ = some (.slice (some ⟨b, 0, none⟩) n n) := (bufArr hp) ▸ (by rw [(o1.row hp.top (by omega)).cell, hp.top.cell])
  have d1 : w1.cell? ⟨b, i, none⟩ = some (.pointer (some ⟨b + 2 + i, 0, none⟩)) := ((o1.row hp.arr (by omega)).cell i).trans (P8.ptrs_at hi)
  have d2 := (r1.cell 513).trans (P8.bufC_at513 hpl _ _)
  have d3 := r1.frozen 513
  have d4 : w1.cell? ⟨b + 1, 1, none⟩ = some (.int .u64 (ever : Int)) := ((o1.row hp.top (by omega)).cell 1).trans rfl
  have d5 : w1.frozen? ⟨b + 1, 1, none⟩ = false := (o1.row hp.top (by omega)).frozen 1
  clear z1 r1 o1 hsl hpl r2 c0 c1 T F hp h1
  go_wp2_with fail
  go_ret2
  refine ⟨rfl, ?_, o2.setCell (by omega) (by omega) _, by simpa [World.setCell] using z2.out⟩
  have := p2.again (ever + 1)
  rw [show ((ever + 1 : Nat) : Int) = (ever : Int) + 1 from by omega] at this
  exact this

end Go.Proofs.Ytealpdofcgbnlaa
