/-
  Several texts in one module: SWhole.
-/
import Derived.Test.YtbkeodgiflfakaaMod19
import Derived.Test.YtbkeodgiflfakaaMod6
import Derived.Test.YtbkeodgiflfakaaMod2
import Derived.Laws.CopyOwn
import Derived.Lib.LazyBuf
import Derived.Lib.BufferWrite
/-
  Layer 3: what blocks are cut of; a block of a text.
-/
namespace Go.Proofs.Ytbkeodgiflfakaa
open Go.RowKit
set_option linter.unusedVariables false
set_option maxRecDepth 20000

theorem own_later {w w' : World} {B e size n : Nat} {v : Value} {xs : List Value} (h : w.ownsRow B e size v n xs) (hb : Below w.heap.size w w') : w'.ownsRow B e size v n xs :=
  h.kept (row := none) ⟨hb.os, hb.tape, hb.output, hb.size, fun k hk _ => hb.block k hk⟩ (by cases v <;> simp [Value.ownBlock] <;> (rename_i a _ _; cases a <;> simp))

theorem strCells_is (s : ByteArray) : Lib.strCells s = Lib.byteCells s.data.toList := rfl
theorem byteCells_append (a b : List UInt8) : Lib.byteCells (a ++ b) = Lib.byteCells a ++ Lib.byteCells b := by simp [Lib.byteCells]
theorem byteCells_length (a : List UInt8) : (Lib.byteCells a).length = a.length := by simp [Lib.byteCells]

theorem builder_below {T e B b : Nat} {p : Value} {bs : List Value} {w w' : World} (h : Lib.BuilderAt T e B b p bs w) (hb : Below w.heap.size w w') : Lib.BuilderAt T e B b p bs w' := by
  have hlt := h.lt
  obtain ⟨hB, v, hc, ho, hne⟩ := h
  exact ⟨hB, v, (hb.block b hlt).trans hc, own_later ho hb, hne⟩

set_option maxHeartbeats 1000000 in
theorem whole_any (s : ByteArray) (hs : s.size ≤ 1000000) (w : World) :
    Calls Try.prog 76 #[.string s] w fun e w' => e = .returned (.string ⟨(S.padL s.data.toList).toArray⟩) ∧ Below w.heap.size w w' := by
  obtain ⟨n, hn⟩ : ∃ n, n = S.noughts s.size := ⟨_, rfl⟩
  have hn64 : n < 64 := by rw [hn]; exact S.noughts_le _
  have e1 : ((64 : Int) - ((s.size : Int) + 1 + 8) % 64) % 64 = (n : Int) := by rw [hn]; unfold S.noughts; omega
  have HN := Lib.hid hn
  clear hn
  go_enter Try.func76, Try.ntmps76
  go_wp2_with fail
  rw [show ((s.size : Int) + 1 + 8 + (n : Int)) = ((s.size + 9 + n : Nat) : Int) from by omega]
  refine (Try.Builder_Grow_fresh w.heap.size w.heap.size _ _ (Nat.le_refl _) (by show (w.heap.push _)[w.heap.size]? = _; simp) (by simp) (by omega)).mono ?_
  rintro e w1 ⟨rfl, h1, b1⟩
  have z1 : w.heap.size < w1.heap.size := h1.lt
  have b1' : Below w.heap.size w w1 := ((Below.refl _ _).alloc (Nat.le_refl _) _).trans b1
  clear b1
  go_wp2_with fail
  refine (writeString_any w.heap.size w.heap.size _ s _ (.inr h1) (by simp; omega) (by omega)).mono ?_
  rintro e w2 ⟨rfl, h2, b2⟩
  have b2' := b1'.trans b2
  have z2 : w.heap.size < w2.heap.size := h2.lt
  clear b1' b2 h1 z1
  rw [List.nil_append, strCells_is] at h2
  go_wp2_with fail
  refine (writeByte_any w.heap.size w.heap.size _ 128 _ (.inr h2) (by rw [byteCells_length]; simp; omega) (by omega)).mono ?_
  rintro e w3 ⟨rfl, h3, b3⟩
  have b3' := b2'.trans b3
  clear b2' b3 h2 z2
  have h3' : Lib.BuilderAt 80 5 w.heap.size w.heap.size (.pointer (some ⟨w.heap.size, 0, none⟩)) (Lib.byteCells (s.data.toList ++ 128 :: List.replicate 0 0)) w3 := by
    rw [byteCells_append]; exact h3
  clear h3
  go_wp2
  go_loopw [22] (fun iv wr => ∃ k : Nat, k ≤ n ∧ iv = .int .i64 k ∧ Lib.BuilderAt 80 5 w.heap.size w.heap.size (.pointer (some ⟨w.heap.size, 0, none⟩)) (Lib.byteCells (s.data.toList ++ 128 :: List.replicate k 0)) wr ∧ Below w.heap.size w wr) (fun iv _ => n - (intOf iv).toNat)
  case atStart => exact ⟨0, Nat.zero_le _, rfl, h3', b3'⟩
  case round =>
    clear h3' b3'
    obtain ⟨k, hk, rfl, h, hb⟩ := hrel
    have hz : w.heap.size < wr.heap.size := h.lt
    have hlen : (Lib.byteCells (s.data.toList ++ 128 :: List.replicate k 0)).length = s.size + 1 + k := by rw [byteCells_length]; simp; omega
    have HLN := Lib.hid hlen
    clear hlen
    by_cases hlt : k < n
    · go_wp2_with fail
      refine (writeByte_any w.heap.size w.heap.size _ 0 _ (.inr h) (by rw [HLN.out]; omega) (by omega)).mono ?_
      rintro e w4 ⟨rfl, h4, b4⟩
      have b4' := hb.trans b4
      clear h hb b4
      go_wp2
      go_roundw
      case rel =>
        refine ⟨k + 1, by omega, by go_num, ?_, b4'⟩
        rw [List.replicate_succ', ← List.cons_append, ← List.append_assoc, byteCells_append]
        exact h4
      case measure => simp [intOf]; omega
    · obtain rfl : k = n := by omega
      go_wp2_with fail
      rw [show (8 * (s.size : Int)) = ((8 * s.size : Nat) : Int) from by omega]
      refine (put_any ((8 * s.size : Nat) : Int) 8 (by omega) (by omega) _).mono ?_
      rintro e w4 ⟨rfl, b4⟩
      have h4 : Lib.BuilderAt 80 5 w.heap.size w.heap.size (.pointer (some ⟨w.heap.size, 0, none⟩)) (Lib.byteCells (s.data.toList ++ 128 :: List.replicate k 0)) w4 := builder_below h b4
      have b4' := hb.trans (b4.mono hb.size)
      have z4 := b4.size
      rw [Int.toNat_natCast, show W.clamp 8 = 8 from by decide]
      clear h hb b4
      go_wp2_with fail
      refine (writeString_any w.heap.size w.heap.size _ _ _ (.inr h4) ?hl1 (by omega)).mono ?_
      case hl1 => rw [HLN.out]; show _ + (W.putL (8 * s.size) 8).toArray.size ≤ _; rw [List.size_toArray, W.putL_length]; omega
      rintro e w5 ⟨rfl, h5, b5⟩
      have b5' := b4'.trans b5
      have z5 : w.heap.size < w5.heap.size := h5.lt
      have h5' : Lib.BuilderAt 80 5 w.heap.size w.heap.size (.pointer (some ⟨w.heap.size, 0, none⟩)) (Lib.byteCells (S.padL s.data.toList)) w5 := by
        have e : S.padL s.data.toList = (s.data.toList ++ 128 :: List.replicate k 0) ++ W.putL (8 * s.size) 8 := by
          unfold S.padL
          rw [show s.data.toList.length = s.size from by simp, ← HN.out]
          simp
        rw [e, byteCells_append]
        exact h5
      clear h4 h5 b4' b5
      go_wp2_with fail
      refine (Try.Builder_String_any w.heap.size w.heap.size _ _ (.inr h5') (by omega)).mono ?_
      rintro e w6 ⟨rfl, b6⟩
      have b6' := b5'.trans b6
      clear b6 b5' h5'
      go_wp2
      go_ret
      exact ⟨rfl, b6'⟩

end Go.Proofs.Ytbkeodgiflfakaa
