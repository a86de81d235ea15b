/-
  Plain mathematics for layer 6: a stream of bytes, and a text turned by it. No condition.
-/
import Derived.Test.YtbkeodgiflfakaaAPlain
namespace Go.Proofs.Ytbkeodgiflfakaa.C
open Go.Proofs.Ytbkeodgiflfakaa.W
set_option linter.unusedVariables false
set_option maxRecDepth 20000

/-- The block of two numbers. -/
def blk (n c : Nat) : List UInt8 := putL n 8 ++ putL c 8
theorem blk_length (n c : Nat) : (blk n c).length = 16 := by simp [blk, putL_length]
/-- So many blocks of the stream. -/
def str (k : List UInt8) (n : Nat) : Nat → List UInt8
  | 0 => []
  | j + 1 => str k n j ++ E.enc k (blk n j)
theorem str_length (k : List UInt8) (n : Nat) : ∀ j, (str k n j).length = 16 * j
  | 0 => rfl
  | j + 1 => by simp [str, str_length k n j, E.enc_length]; omega
theorem str_take (k : List UInt8) (n j : Nat) : ∀ d, (str k n (j + d)).take (16 * j) = str k n j
  | 0 => by rw [Nat.add_zero, List.take_of_length_le (by rw [str_length]; exact Nat.le_refl _)]
  | d + 1 => by
    show ((str k n (j + d)) ++ _).take (16 * j) = _
    rw [List.take_append_of_le_length (by rw [str_length]; omega), str_take k n j d]
/-- The first m bytes of the stream. -/
def streamL (k : List UInt8) (n m : Nat) : List UInt8 := (str k n ((m + 15) / 16)).take m
theorem streamL_length (k : List UInt8) (n m : Nat) : (streamL k n m).length = m := by
  rw [streamL, List.length_take, str_length]; omega
theorem streamL_of (k : List UInt8) (n m j : Nat) (h : m ≤ 16 * j) : (str k n j).take m = streamL k n m := by
  obtain ⟨d, rfl⟩ : ∃ d, j = (m + 15) / 16 + d := ⟨j - (m + 15) / 16, by omega⟩
  unfold streamL
  rw [← str_take k n ((m + 15) / 16) d, List.take_take]
  congr 1; omega
/-- A longer stream begins with a shorter one. -/
theorem streamL_take (k : List UInt8) (n m d : Nat) : (streamL k n (m + d)).take m = streamL k n m := by
  rw [streamL, List.take_take, Nat.min_eq_left (by omega), streamL_of k n m _ (by omega)]
theorem streamL_getD (k : List UInt8) (n m m' i : Nat) (h : i < m) (h' : i < m') : (streamL k n m).getD i 0 = (streamL k n m').getD i 0 := by
  have h1 := streamL_take k n (i + 1) (m - (i + 1))
  have h2 := streamL_take k n (i + 1) (m' - (i + 1))
  rw [show i + 1 + (m - (i + 1)) = m from by omega] at h1
  rw [show i + 1 + (m' - (i + 1)) = m' from by omega] at h2
  have e : ((streamL k n m).take (i + 1)).getD i 0 = ((streamL k n m').take (i + 1)).getD i 0 := by rw [h1, h2]
  simpa [List.getD_eq_getElem?_getD, List.getElem?_take] using e
/-- The stream's row: so many blocks of it laid. -/
theorem streamL_block (k : List UInt8) (n m j : Nat) (h : 16 * j < m) : ((streamL k n m).drop (16 * j)).take (min 16 (m - 16 * j)) = (E.enc k (blk n j)).take (min 16 (m - 16 * j)) := by
  have e : streamL k n m = (str k n (j + 1 + (m + 15) / 16)).take m := (streamL_of k n m _ (by omega)).symm
  have s := str_take k n (j + 1) ((m + 15) / 16)
  rw [e, List.drop_take, List.take_take]
  have e2 : min (min 16 (m - 16 * j)) (m - 16 * j) = min 16 (m - 16 * j) := by omega
  rw [e2]
  have e3 : ((str k n (j + 1 + (m + 15) / 16)).drop (16 * j)).take 16 = E.enc k (blk n j) := by
    have : ((str k n (j + 1 + (m + 15) / 16)).take (16 * (j + 1))).drop (16 * j) = E.enc k (blk n j) := by
      rw [s]
      show (str k n j ++ E.enc k (blk n j)).drop (16 * j) = _
      rw [List.drop_append, List.drop_eq_nil_of_le (by rw [str_length]; exact Nat.le_refl _), str_length, Nat.sub_self]; rfl
    rw [List.drop_take] at this
    rw [← this]; congr 1; omega
  have : min 16 (m - 16 * j) = min (min 16 (m - 16 * j)) 16 := by omega
  rw [this, ← List.take_take, e3]
  rw [← this]

/-- A text, turned by the stream. -/
def turnL (k : List UInt8) (n : Nat) (s : List UInt8) : List UInt8 := (List.range s.length).map fun i => (streamL k n s.length).getD i 0 ^^^ s.getD i 0
theorem turnL_length (k : List UInt8) (n : Nat) (s : List UInt8) : (turnL k n s).length = s.length := by simp [turnL]
theorem turnL_at (k : List UInt8) (n : Nat) (s : List UInt8) (i : Nat) (h : i < s.length) : (turnL k n s).getD i 0 = (streamL k n s.length).getD i 0 ^^^ s.getD i 0 := by simp [turnL, h]
theorem list_ext {a b : List UInt8} (hl : a.length = b.length) (h : ∀ i, i < a.length → a.getD i 0 = b.getD i 0) : a = b := by
  apply List.ext_getElem hl
  intro i h1 h2
  have := h i h1
  simpa [List.getD_eq_getElem?_getD, h1, h2] using this
/-- Turned twice it is as it was. -/
theorem turnL_twice (k : List UInt8) (n : Nat) (s : List UInt8) : turnL k n (turnL k n s) = s := by
  apply list_ext (by rw [turnL_length, turnL_length])
  intro i hi
  rw [turnL_length, turnL_length] at hi
  rw [turnL_at _ _ _ _ (by rw [turnL_length]; exact hi), turnL_length, turnL_at _ _ _ _ hi, ← UInt8.xor_assoc]
  simp
/-- Of noughts comes the stream. -/
theorem turnL_zero (k : List UInt8) (n m : Nat) : turnL k n (List.replicate m 0) = streamL k n m := by
  apply list_ext (by rw [turnL_length, streamL_length, List.length_replicate])
  intro i hi
  rw [turnL_length, List.length_replicate] at hi
  rw [turnL_at _ _ _ _ (by rw [List.length_replicate]; exact hi), List.length_replicate]
  simp [List.getD_eq_getElem?_getD, hi]
/-- The beginning of a text is turned as the whole text's beginning is. -/
theorem turnL_append (k : List UInt8) (n : Nat) (s t : List UInt8) : (turnL k n (s ++ t)).take s.length = turnL k n s := by
  have hl : ((turnL k n (s ++ t)).take s.length).length = s.length := by rw [List.length_take, turnL_length, List.length_append]; omega
  apply list_ext (by rw [hl, turnL_length])
  intro i hi
  rw [hl] at hi
  rw [turnL_at _ _ _ _ hi]
  have e : ((turnL k n (s ++ t)).take s.length).getD i 0 = (turnL k n (s ++ t)).getD i 0 := by simp [List.getD_eq_getElem?_getD, hi]
  rw [e, turnL_at _ _ _ _ (by rw [List.length_append]; omega), streamL_getD k n (s ++ t).length s.length i (by rw [List.length_append]; omega) hi]
  congr 1
  simp [List.getD_eq_getElem?_getD, List.getElem?_append_left hi]

end Go.Proofs.Ytbkeodgiflfakaa.C
