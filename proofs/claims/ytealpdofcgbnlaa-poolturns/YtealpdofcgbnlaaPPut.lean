/-
  Layer 8: Read, Write, Put, Raw, Ever.
-/
import Derived.Test.YtealpdofcgbnlaaPGet
namespace Go.Proofs.Ytealpdofcgbnlaa
open Go.RowKit
set_option linter.unusedVariables false

/-- Held, by whoever asks. -/
def P8.Owns (n : Nat) (st : List (Option (List UInt8))) (i : Int) : Prop := 0 ≤ i ∧ i < n ∧ (st.getD i.toNat none).isSome = true

set_option maxHeartbeats 1000000 in
theorem read_no (b n : Nat) (i : Int) (st : List (Option (List UInt8))) (ever : Nat) (w : World) (hp : P8.PoolAt w b n st ever) (hi : ¬ P8.Owns n st i) :
    Calls Try.prog 9 #[.pointer (some ⟨b + 1, 0, none⟩), .int .i64 i] w fun e w' => e = .returned (.tuple #[.string ⟨#[]⟩, .int .i64 14]) ∧ w' = w := by
  have T := Lib.hid (owned_no b n i st ever w hp hi)
  clear hi
  go_enter Try.func9, Try.ntmps9
  go_wp2_with (go_at_call 21; refine T.out.mono ?_; rintro e w ⟨rfl, rfl⟩)
  go_ret2
  exact ⟨rfl, rfl⟩

set_option maxHeartbeats 1000000 in
theorem read_yes (b n i : Nat) (t : List UInt8) (st : List (Option (List UInt8))) (ever : Nat) (w : World) (hp : P8.PoolAt w b n st ever) (hi : i < n) (ht : st.getD i none = some t) :
    Calls Try.prog 9 #[.pointer (some ⟨b + 1, 0, none⟩), .int .i64 (i : Int)] w fun e w' => e = .returned (.tuple #[.string ⟨t.toArray⟩, .int .i64 0]) ∧ w' = w.drew := by
  have T := Lib.hid (owned_yes b n i st ever w hp hi (by rw [ht]; rfl))
  have c1 := bufSize hp hi
  have hsm := hp.small i hi
  rw [ht] at c1 hsm
  simp only [Option.getD_some] at c1 hsm
  have r := hp.buf i hi
  rw [ht] at r
  have cv := bufText (t := t) (k := t.length) (cap := 512) rfl (fun j hj => pad_at (t := t) hj) (by show _ ≤ (P8.pad t).length; rw [P8.pad_length hsm]; exact hsm) r.drew
  have n0 : ¬ (t.length : Int) < 0 := by omega
  have n1 : ¬ (512 : Int) < t.length := by omega
  clear ht r
  go_enter Try.func9, Try.ntmps9
  go_wp2_with (go_at_call 21; refine T.out.mono ?_; rintro e w ⟨rfl, rfl⟩)
  go_region_held3 (fun w' => w'.cell? ⟨b + 2 + i, 512, none⟩ = some (.int .i64 (t.length : Int)) ∧ (convert 53 9 (.slice (some ⟨b + 2 + i, 0, none⟩) t.length 512)).run Try.prog w' = .ok (.string ⟨t.toArray⟩) w') (exact ⟨c1, cv⟩) (fail)
  go_wp2
  go_ret2
  exact ⟨rfl, rfl⟩

set_option maxHeartbeats 1000000 in
theorem write_no (b n : Nat) (i : Int) (s : ByteArray) (st : List (Option (List UInt8))) (ever : Nat) (w : World) (hp : P8.PoolAt w b n st ever) (hi : ¬ P8.Owns n st i) :
    Calls Try.prog 11 #[.pointer (some ⟨b + 1, 0, none⟩), .int .i64 i, .string s] w fun e w' => e = .returned (.int .i64 14) ∧ w' = w := by
  have T := Lib.hid (owned_no b n i st ever w hp hi)
  clear hi
  go_enter Try.func11, Try.ntmps11
  go_wp2_with (go_at_call 21; refine T.out.mono ?_; rintro e w ⟨rfl, rfl⟩)
  go_ret
  exact ⟨rfl, rfl⟩

set_option maxHeartbeats 1000000 in
theorem write_long (b n i : Nat) (s : ByteArray) (st : List (Option (List UInt8))) (ever : Nat) (w : World) (hp : P8.PoolAt w b n st ever) (hi : i < n) (ht : (st.getD i none).isSome = true) (hs : 512 < s.size) :
    Calls Try.prog 11 #[.pointer (some ⟨b + 1, 0, none⟩), .int .i64 (i : Int), .string s] w fun e w' => e = .returned (.int .i64 5) ∧ w' = w := by
  have T := Lib.hid (owned_yes b n i st ever w hp hi ht)
  have h1 : (512 : Int) < s.size := by omega
  clear ht
  go_enter Try.func11, Try.ntmps11
  go_wp2_with (go_at_call 21; refine T.out.mono ?_; rintro e w ⟨rfl, rfl⟩)
  go_ret
  exact ⟨rfl, rfl⟩

set_option maxHeartbeats 1000000 in
theorem write_yes (b n i : Nat) (s : ByteArray) (st : List (Option (List UInt8))) (ever : Nat) (w : World) (hp : P8.PoolAt w b n st ever) (hi : i < n) (ht : (st.getD i none).isSome = true) (hs : s.size ≤ 512) :
    Calls Try.prog 11 #[.pointer (some ⟨b + 1, 0, none⟩), .int .i64 (i : Int), .string s] w fun e w' => e = .returned (.int .i64 0) ∧ P8.PoolAt w' b n (st.set i (some s.data.toList)) ever ∧ Out b (b + 2 + n) w w' ∧ w'.heap.size = w.heap.size := by
  have T := Lib.hid (owned_yes b n i st ever w hp hi ht)
  have h1 : ¬ (512 : Int) < s.size := by omega
  have F := Lib.hid (fill_any (b + 2 + i) (P8.pad ((st.getD i none).getD [])) ((st.getD i none).getD []).length (st.getD i none).isSome s w (P8.pad_length (hp.small i hi)) hs (hp.buf i hi))
  rw [ht] at F
  clear ht
  go_enter Try.func11, Try.ntmps11
  go_wp2_with (go_at_call 21; refine T.out.mono ?_; rintro e w ⟨rfl, rfl⟩)
  refine F.out.mono ?_
  rintro e w1 ⟨rfl, r1, o1, z1⟩
  have Z1 := Lib.hid z1
  clear z1
  have hsl : s.data.toList.length = s.size := by simp
  rw [← hsl] at r1
  have p2 := hp.turn hi (some s.data.toList) (by simpa using hs) r1 o1
  have o2 : Out b (b + 2 + n) w w1 := o1.mono (by omega) (by omega)
  clear hsl
  go_wp2
  go_ret
  exact ⟨rfl, p2, o2, Z1.out⟩

set_option maxHeartbeats 1000000 in
theorem put_no (b n : Nat) (i : Int) (st : List (Option (List UInt8))) (ever : Nat) (w : World) (hp : P8.PoolAt w b n st ever) (hi : ¬ P8.Owns n st i) :
    Calls Try.prog 12 #[.pointer (some ⟨b + 1, 0, none⟩), .int .i64 i] w fun e w' => e = .returned (.int .i64 14) ∧ w' = w := by
  have T := Lib.hid (owned_no b n i st ever w hp hi)
  clear hi
  go_enter Try.func12, Try.ntmps12
  go_wp2_with (go_at_call 21; refine T.out.mono ?_; rintro e w ⟨rfl, rfl⟩)
  go_ret
  exact ⟨rfl, rfl⟩

set_option maxHeartbeats 1000000 in
theorem put_yes (b n i : Nat) (st : List (Option (List UInt8))) (ever : Nat) (w : World) (hp : P8.PoolAt w b n st ever) (hi : i < n) (ht : (st.getD i none).isSome = true) :
    Calls Try.prog 12 #[.pointer (some ⟨b + 1, 0, none⟩), .int .i64 (i : Int)] w fun e w' => e = .returned (.int .i64 0) ∧ P8.PoolAt w' b n (st.set i none) ever ∧ Out b (b + 2 + n) w w' ∧ w'.heap.size = w.heap.size := by
  have T := Lib.hid (owned_yes b n i st ever w hp hi ht)
  have F := Lib.hid (fill_any (b + 2 + i) (P8.pad ((st.getD i none).getD [])) ((st.getD i none).getD []).length (st.getD i none).isSome ⟨#[]⟩ w (P8.pad_length (hp.small i hi)) (by decide) (hp.buf i hi))
  rw [ht] at F
  clear ht
  go_enter Try.func12, Try.ntmps12
  go_wp2_with (go_at_call 21; refine T.out.mono ?_; rintro e w ⟨rfl, rfl⟩)
  refine F.out.mono ?_
  rintro e w1 ⟨rfl, r1, o1, z1⟩
  have Z1 := Lib.hid z1
  clear z1
  have r1' : Row w1 (b + 2 + i) 62 (P8.bufC (P8.pad []) 0 true) := r1
  have hpl : (P8.pad []).length = 512 := P8.pad_length (by decide)
  have r2 : Row (w1.setCell ⟨b + 2 + i, 513, none⟩ (.bool false)) (b + 2 + i) 62 (P8.cellsB none) := by
    have := r1'.set 513 (.bool false)
    rw [P8.bufC_held hpl] at this
    exact this
  have p2 := hp.turn hi none (by decide) r2 (o1.setCell (Nat.le_refl _) (by omega) _)
  have o2 : Out b (b + 2 + n) w (w1.setCell ⟨b + 2 + i, 513, none⟩ (.bool false)) := (o1.setCell (Nat.le_refl _) (by omega) _).mono (by omega) (by omega)
  have d2 := (r1'.cell 513).trans (P8.bufC_at513 hpl _ _)
  have d3 := r1'.frozen 513
  clear r1 r1' r2 o1 hpl
  go_wp2
  go_ret
  exact ⟨rfl, p2, o2, by simpa [World.setCell] using Z1.out⟩

set_option maxHeartbeats 1000000 in
theorem raw_no (b n : Nat) (i : Int) (st : List (Option (List UInt8))) (ever : Nat) (w : World) (hp : P8.PoolAt w b n st ever) (hi : ¬ (0 ≤ i ∧ i < n)) :
    Calls Try.prog 19 #[.pointer (some ⟨b + 1, 0, none⟩), .int .i64 i] w fun e w' => e = .returned (.string ⟨#[]⟩) ∧ w' = w := by
  have T := Lib.hid (there_no b n i st ever w hp hi)
  clear hi
  go_enter Try.func19, Try.ntmps19
  go_wp2_with (go_at_call 25; refine T.out.mono ?_; rintro e w ⟨rfl, rfl⟩)
  go_ret
  exact ⟨rfl, rfl⟩

set_option maxHeartbeats 1000000 in
theorem raw_yes (b n i : Nat) (st : List (Option (List UInt8))) (ever : Nat) (w : World) (hp : P8.PoolAt w b n st ever) (hi : i < n) :
    Calls Try.prog 19 #[.pointer (some ⟨b + 1, 0, none⟩), .int .i64 (i : Int)] w fun e w' => e = .returned (.string ⟨(P8.pad ((st.getD i none).getD [])).toArray⟩) ∧ w' = w := by
  have T := Lib.hid (there_yes b n i st ever w hp hi)
  have hf := hp.few
  have c0 := bufArr hp
  have c1 := bufPtr hp hi
  have hpl := P8.pad_length (hp.small i hi)
  have cv := bufText (t := P8.pad ((st.getD i none).getD [])) (k := 512) (cap := 512) hpl.symm (fun j hj => rfl) (by rw [hpl]; exact Nat.le_refl _) (hp.buf i hi)
  clear hpl
  go_enter Try.func19, Try.ntmps19
  go_wp2_with (go_at_call 25; refine T.out.mono ?_; rintro e w ⟨rfl, rfl⟩)
  go_ret
  exact ⟨rfl, rfl⟩

set_option maxHeartbeats 1000000 in
theorem ever_any (b n : Nat) (st : List (Option (List UInt8))) (ever : Nat) (w : World) (hp : P8.PoolAt w b n st ever) :
    Calls Try.prog 18 #[.pointer (some ⟨b + 1, 0, none⟩)] w fun e w' => e = .returned (.int .u64 (ever : Int)) ∧ w' = w := by
  have c0 := bufEver hp
  go_enter Try.func18, Try.ntmps18
  go_wp2
  go_ret
  exact ⟨rfl, rfl⟩

end Go.Proofs.Ytealpdofcgbnlaa
