/-
  Layer 6: Stream, Turn.
-/
import Derived.Test.YtbkeodgiflfakaaCStream
import Derived.Laws.IdiomStrings
namespace Go.Proofs.Ytbkeodgiflfakaa
open Go.RowKit
set_option linter.unusedVariables false
set_option maxRecDepth 20000

theorem rowText {w : World} {g : Nat} {l : List UInt8} {n : Nat} (hn : n = l.length) (h : Row w g 5 (W.cellsOf l)) : (convert 78 9 (.slice (some ⟨g, 0, none⟩) n n)).run Try.prog w = .ok (.string ⟨l.toArray⟩) w := by
  subst hn
  exact run_convert_bytes_back (P := Try.prog) w 78 9 5 ⟨g, 0, none⟩ l.length l Try.underlying78 Try.underlying5 Try.underlying9 (fun t ht => by
    have e : (⟨g, 0, none⟩ : Addr).add t = ⟨g, t, none⟩ := by unfold Addr.add; split <;> simp_all
    rw [e, h.cell, c8_at ht]; simp [List.getD_eq_getElem?_getD, ht])

set_option maxHeartbeats 1000000 in
theorem stream_no (k : List UInt8) (m : Nat) (n : Int) (hk : k.length = 16) (hn : n < 0 ∨ 65536 < n) (w : World) :
    Calls Try.prog 83 #[.agg (W.cellsOf k).toArray, .int .u64 (m : Int), .int .i64 n] w fun e w' => e = .returned (.tuple #[.string ⟨#[]⟩, .int .i64 7]) ∧ Below w.heap.size w w' := by
  go_enter Try.func83, Try.ntmps83
  rcases hn with hn | hn
  · go_wp2
    go_ret2
    exact ⟨rfl, (Below.refl _ _).alloc (Nat.le_refl _) _⟩
  · have h0 : ¬ n < 0 := by omega
    go_wp2
    go_ret2
    exact ⟨rfl, (Below.refl _ _).alloc (Nat.le_refl _) _⟩

set_option maxHeartbeats 1000000 in
theorem stream_yes (k : List UInt8) (m n : Nat) (hk : k.length = 16) (hm : m ≤ 18446744073709551615) (hn : n ≤ 65536) (w : World) :
    Calls Try.prog 83 #[.agg (W.cellsOf k).toArray, .int .u64 (m : Int), .int .i64 (n : Int)] w fun e w' => e = .returned (.tuple #[.string ⟨(C.streamL k m n).toArray⟩, .int .i64 0]) ∧ Below w.heap.size w w' := by
  have CS : Hid (∀ wx, Calls Try.prog 56 #[.agg (W.cellsOf k).toArray, .int .u64 (m : Int), .int .i64 (n : Int)] wx fun e w' => e = .returned (.slice (some ⟨wx.heap.size + 1, 0, none⟩) n n) ∧ Row w' (wx.heap.size + 1) 5 (W.cellsOf (C.streamL k m n)) ∧ Below wx.heap.size wx w') := fun wx => stream_any k m n hk hm hn wx
  have hik := info16k hk
  have HL := Lib.hid (C.streamL_length k m n)
  have h1 : ¬ ((n : Int) < 0) := by omega
  have h2 : ¬ (65536 < (n : Int)) := by omega
  generalize C.streamL k m n = F at *
  clear hn hk hm
  have r0 : Row (w.alloc (.cells (W.cellsOf k).toArray 53 (0, 0))) w.heap.size 53 (W.cellsOf k) := Row.new' rfl rfl
  go_enter Try.func83, Try.ntmps83
  go_wp2_with (first | refine wpList_load_row rfl 53 (.tmp 3) rfl w.heap.size rfl _ _ _ _ r0 Try.underlying53 rfl hik ?_)
  refine (CS.out _).mono ?_
  rintro e w1 ⟨rfl, r1, b1⟩
  have hb1 : Below w.heap.size w w1 := ((Below.refl _ _).alloc (Nat.le_refl _) _).trans (b1.mono (by simp))
  have hsz : (w.alloc (.cells (W.cellsOf k).toArray 53 (0, 0))).heap.size = w.heap.size + 1 := by simp
  rw [hsz] at r1
  have hcv := rowText HL.out.symm r1
  clear b1 r0 r1 h1 h2 hsz
  go_wp2
  go_ret2
  exact ⟨rfl, hb1⟩

theorem byteAt (s : ByteArray) (i : Nat) (h : i < s.size) : s.data.toList.getD i 0 = s[i] := by
  have h' : i < s.data.toList.length := by simpa using h
  rw [List.getD_eq_getElem?_getD, List.getElem?_eq_getElem h', Option.getD_some]
  simp
  rfl

set_option maxHeartbeats 1000000 in
theorem turn_any (k : List UInt8) (m : Nat) (s : ByteArray) (hk : k.length = 16) (hm : m ≤ 18446744073709551615) (hn : s.size ≤ 65536) (w : World) :
    Calls Try.prog 42 #[.agg (W.cellsOf k).toArray, .int .u64 (m : Int), .string s] w fun e w' => e = .returned (.string ⟨(C.turnL k m s.data.toList).toArray⟩) ∧ Below w.heap.size w w' := by
  have CS : Hid (∀ wx, Calls Try.prog 56 #[.agg (W.cellsOf k).toArray, .int .u64 (m : Int), .int .i64 (s.size : Int)] wx fun e w' => e = .returned (.slice (some ⟨wx.heap.size + 1, 0, none⟩) s.size s.size) ∧ Row w' (wx.heap.size + 1) 5 (W.cellsOf (C.streamL k m s.size)) ∧ Below wx.heap.size wx w') := fun wx => stream_any k m s.size hk hm hn wx
  have hik := info16k hk
  have hsl : s.data.toList.length = s.size := by simp
  have HFL := Lib.hid (C.streamL_length k m s.size)
  have HTL : Hid ((C.turnL k m s.data.toList).length = s.size) := by
    show _ = _
    rw [C.turnL_length, hsl]
  have HF : Hid ((C.turnL k m s.data.toList).length = (C.streamL k m s.size).length) := HTL.out.trans HFL.out.symm
  have HFull := Lib.hid (E.fill_full HTL.out HFL.out)
  have HAT : Hid (∀ i (h : i < s.size), (C.turnL k m s.data.toList).getD i 0 = (C.streamL k m s.size).getD i 0 ^^^ s[i]) := fun i h => by
    rw [C.turnL_at _ _ _ _ (by rw [hsl]; exact h), hsl, byteAt s i h]
  generalize C.turnL k m s.data.toList = T at *
  generalize C.streamL k m s.size = F at *
  clear hk hm hsl
  have r0 : Row (w.alloc (.cells (W.cellsOf k).toArray 53 (0, 0))) w.heap.size 53 (W.cellsOf k) := Row.new' rfl rfl
  go_enter Try.func42, Try.ntmps42
  go_wp2_with (first | refine wpList_load_row rfl 53 (.tmp 3) rfl w.heap.size rfl _ _ _ _ r0 Try.underlying53 rfl hik ?_)
  refine (CS.out _).mono ?_
  rintro e w1 ⟨rfl, r1, b1⟩
  have hb1 : Below w.heap.size w w1 := ((Below.refl _ _).alloc (Nat.le_refl _) _).trans (b1.mono (by simp))
  have hsz : (w.alloc (.cells (W.cellsOf k).toArray 53 (0, 0))).heap.size = w.heap.size + 1 := by simp
  rw [hsz] at r1
  clear b1 r0 hsz
  go_wp2
  go_loopw [8, 16] (fun _ iv wr => ∃ i : Nat, i ≤ s.size ∧ iv = .int .i64 i ∧ Row wr (w.heap.size + 1 + 1) 5 (W.cellsOf (E.fill T F i)) ∧ Below w.heap.size w wr) (fun _ iv _ => s.size - (intOf iv).toNat)
  case atStart => exact ⟨0, Nat.zero_le _, rfl, by rw [E.fill_zero]; exact r1, hb1⟩
  case round =>
    clear r1 hb1
    obtain ⟨i, hi, rfl, r1, rb⟩ := hrel
    by_cases hlt : i < s.size
    · have hs : (i : Int) < s.size := by omega
      have hfl : i < F.length := by rw [HFL.out]; exact hlt
      have c1 := (r1.cell i).trans (c8_at (by rw [E.fill_length HF.out]; exact hfl))
      rw [E.fill_at HF.out hfl] at c1
      have f1 := r1.frozen i
      have hx := xor8 (F.getD i 0) s[i]
      rw [← HAT.out i hlt] at hx
      have r1' := r1.set i (.int .u8 ((T.getD i 0).toNat : Int))
      rw [c8_set, E.fill_step HF.out hfl] at r1'
      generalize T.getD i 0 = z at *
      generalize F.getD i 0 = y at *
      go_wp2
      go_region
      go_wp2
      go_roundw
      case rel => exact ⟨i + 1, by omega, by go_num, r1'.drew, (rb.setCell (by simp; omega) _).drew⟩
      case measure => simp [intOf]; omega
    · obtain rfl : i = s.size := by omega
      rw [HFull.out] at r1
      have hcv := rowText HTL.out.symm r1
      go_wp2
      go_ret
      exact ⟨rfl, rb⟩

end Go.Proofs.Ytbkeodgiflfakaa
