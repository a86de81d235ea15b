/-
  Plain mathematics for layer 4: HMAC on lists of bytes; bytes that are derived. No condition.
-/
import Derived.Test.YtbkeodgiflfakaaSPlain
namespace Go.Proofs.Ytbkeodgiflfakaa.H
open Go.Proofs.Ytbkeodgiflfakaa.W Go.Proofs.Ytbkeodgiflfakaa.S
set_option linter.unusedVariables false
set_option maxRecDepth 20000

/-- A key brought to 64 bytes. -/
def short (k : List UInt8) : List UInt8 := if 64 < k.length then sumL k else k
def keyL (k : List UInt8) : List UInt8 := short k ++ List.replicate (64 - (short k).length) 0
/-- One byte laid over each. -/
def over (l : List UInt8) (p : UInt8) : List UInt8 := l.map (· ^^^ p)
/-- The sum of a text by a key. -/
def hmacL (k m : List UInt8) : List UInt8 := sumL (over (keyL k) 92 ++ sumL (over (keyL k) 54 ++ m))

/-- T1, T2, .. -/
def tt (k l : List UInt8) : Nat → List UInt8
  | 0 => []
  | i + 1 => hmacL k (tt k l i ++ (l ++ [UInt8.ofNat (i + 1)]))
/-- The first n of them, one behind the other. -/
def cat (k l : List UInt8) : Nat → List UInt8
  | 0 => []
  | i + 1 => cat k l i ++ tt k l (i + 1)

theorem short_length (k : List UInt8) : (short k).length ≤ 64 := by
  unfold short; split
  · rw [sumL_length]; decide
  · omega
theorem keyL_length (k : List UInt8) : (keyL k).length = 64 := by
  have := short_length k
  simp [keyL]; omega
theorem over_length (l : List UInt8) (p : UInt8) : (over l p).length = l.length := by simp [over]
theorem hmacL_length (k m : List UInt8) : (hmacL k m).length = 32 := sumL_length _
theorem tt_length (k l : List UInt8) (i : Nat) : (tt k l (i + 1)).length = 32 := hmacL_length _ _
theorem tt_le (k l : List UInt8) : ∀ i, (tt k l i).length ≤ 32
  | 0 => Nat.zero_le _
  | i + 1 => by rw [tt_length]; exact Nat.le_refl _
theorem cat_length (k l : List UInt8) : ∀ i, (cat k l i).length = 32 * i
  | 0 => rfl
  | i + 1 => by simp [cat, cat_length k l i, tt_length]; omega
theorem cat_prefix (k l : List UInt8) (i : Nat) : ∀ d, (cat k l i) <+: (cat k l (i + d))
  | 0 => List.prefix_refl _
  | d + 1 => (cat_prefix k l i d).trans (by show _ <+: cat k l (i + d) ++ _; exact List.prefix_append _ _)
/-- However many of them, their first bytes are the same. -/
theorem cat_take (k l : List UInt8) {i j n : Nat} (hi : n ≤ 32 * i) (hj : n ≤ 32 * j) : (cat k l i).take n = (cat k l j).take n := by
  have key : ∀ a b, a ≤ b → n ≤ 32 * a → (cat k l a).take n = (cat k l b).take n := by
    intro a b hab ha
    obtain ⟨d, rfl⟩ := Nat.exists_eq_add_of_le hab
    obtain ⟨r, hr⟩ := cat_prefix k l a d
    rw [← hr, List.take_append_of_le_length (by rw [cat_length]; exact ha)]
  rcases Nat.le_total i j with h | h
  · exact key i j h hi
  · exact (key j i h hj).symm
/-- The bytes that are derived. -/
def deriveL (k l : List UInt8) (n : Nat) : List UInt8 := (cat k l ((n + 31) / 32)).take n
theorem deriveL_length (k l : List UInt8) (n : Nat) : (deriveL k l n).length = n := by
  unfold deriveL; rw [List.length_take, cat_length]; omega
theorem deriveL_of (k l : List UInt8) {n i : Nat} (h : n ≤ 32 * i) : (cat k l i).take n = deriveL k l n := cat_take k l h (by omega)
theorem deriveL_whole (k l : List UInt8) (i : Nat) : deriveL k l (32 * i) = cat k l i := by
  rw [← deriveL_of k l (Nat.le_refl _), List.take_of_length_le (by rw [cat_length]; exact Nat.le_refl _)]
theorem deriveL_prefix (k l : List UInt8) {n m : Nat} (h : n ≤ m) : (deriveL k l n) <+: (deriveL k l m) := by
  have e : deriveL k l n = (deriveL k l m).take n := by
    unfold deriveL
    rw [List.take_take, Nat.min_eq_left h]
    exact cat_take k l (by omega) (by omega)
  rw [e]; exact List.take_prefix _ _
/-- The i-th 32 bytes are T(i+1). -/
theorem cat_part (k l : List UInt8) {i n : Nat} (h : i < n) : ((cat k l n).drop (32 * i)).take 32 = tt k l (i + 1) := by
  obtain ⟨d, rfl⟩ := Nat.exists_eq_add_of_le (show i + 1 ≤ n from h)
  obtain ⟨r, hr⟩ := cat_prefix k l (i + 1) d
  rw [← hr]
  show List.take 32 (List.drop (32 * i) ((cat k l i ++ tt k l (i + 1)) ++ r)) = _
  rw [List.append_assoc, List.drop_append_of_le_length (by rw [cat_length]; exact Nat.le_refl _), List.drop_eq_nil_of_le (by rw [cat_length]; exact Nat.le_refl _), List.nil_append]
  rw [List.take_append_of_le_length (by rw [tt_length]; exact Nat.le_refl _), List.take_of_length_le (by rw [tt_length]; exact Nat.le_refl _)]

theorem keyL_pad (k : List UInt8) (n : Nat) (h : k.length + n ≤ 64) : keyL (k ++ List.replicate n 0) = keyL k := by
  have s1 : short k = k := by unfold short; rw [if_neg (by omega)]
  have s2 : short (k ++ List.replicate n 0) = k ++ List.replicate n 0 := by unfold short; rw [if_neg (by simp; omega)]
  unfold keyL
  rw [s1, s2, List.append_assoc, List.replicate_append_replicate]
  congr 2
  simp; omega
theorem keyL_sum (k : List UInt8) (h : 64 < k.length) : keyL (sumL k) = keyL k := by
  have s1 : short k = sumL k := by unfold short; rw [if_pos h]
  have s2 : short (sumL k) = sumL k := by unfold short; rw [if_neg (by rw [sumL_length]; decide)]
  unfold keyL; rw [s1, s2]
theorem hmacL_key {a b : List UInt8} (h : keyL a = keyL b) (m : List UInt8) : hmacL a m = hmacL b m := by unfold hmacL; rw [h]

theorem jefe : (hmacL [74, 101, 102, 101] [119, 104, 97, 116, 32, 100, 111, 32, 121, 97, 32, 119, 97, 110, 116, 32, 102, 111, 114, 32, 110, 111, 116, 104, 105, 110, 103, 63]).take 4 = [0x5b, 0xdc, 0xc1, 0x46] := by decide +kernel

end Go.Proofs.Ytbkeodgiflfakaa.H
