/-
  Plain mathematics for layer 1: bytes of a number, a number of bytes, parts of a text. No condition.
-/
import Derived.WalkKit
namespace Go.Proofs.Ytngoighdpmeepaa.W

/-- The last k bytes of n, the highest first. -/
def putL (n : Nat) : Nat → List UInt8
  | 0 => []
  | k + 1 => UInt8.ofNat (n / 256 ^ k) :: putL n k

theorem putL_length (n : Nat) : ∀ k, (putL n k).length = k
  | 0 => rfl
  | k + 1 => by simp [putL, putL_length n k]

theorem less_step {A B r s M : Nat} (hr : r < M) (hs : s < M) : (r + M * A < s + M * B) ↔ (A < B ∨ (A = B ∧ r < s)) := by
  rcases Nat.lt_trichotomy A B with h | h | h
  · have := Nat.mul_le_mul_left M (show A + 1 ≤ B from h)
    rw [Nat.mul_add] at this
    constructor
    · intro _; exact .inl h
    · intro _; omega
  · subst h
    constructor
    · intro _; exact .inr ⟨rfl, by omega⟩
    · rintro (h | ⟨_, h⟩) <;> omega
  · have := Nat.mul_le_mul_left M (show B + 1 ≤ A from h)
    rw [Nat.mul_add] at this
    constructor
    · intro _; omega
    · rintro (h' | ⟨h', _⟩) <;> omega

theorem bytesLess_putL (a b : Nat) : ∀ k, Op.bytesLess (putL a k) (putL b k) = decide (a % 256 ^ k < b % 256 ^ k)
  | 0 => by simp [putL, Op.bytesLess, Nat.mod_one]
  | k + 1 => by
    have ih := bytesLess_putL a b k
    have hM : 0 < 256 ^ k := Nat.pow_pos (by decide)
    have e := less_step (A := a / 256 ^ k % 256) (B := b / 256 ^ k % 256) (Nat.mod_lt a hM) (Nat.mod_lt b hM)
    rw [← Nat.mod_pow_succ, ← Nat.mod_pow_succ] at e
    have e1 : (UInt8.ofNat (a / 256 ^ k) < UInt8.ofNat (b / 256 ^ k)) ↔ a / 256 ^ k % 256 < b / 256 ^ k % 256 := by
      rw [UInt8.lt_iff_toNat_lt]; simp
    have e2 : (UInt8.ofNat (a / 256 ^ k) = UInt8.ofNat (b / 256 ^ k)) ↔ a / 256 ^ k % 256 = b / 256 ^ k % 256 := by
      rw [← UInt8.toNat_inj]; simp
    simp only [putL, Op.bytesLess, ih]
    rw [Bool.eq_iff_iff]
    simp only [Bool.or_eq_true, Bool.and_eq_true, decide_eq_true_eq, beq_iff_eq, e1, e2, e]

/-- The number of bytes. -/
def getN (l : List UInt8) : Nat := l.foldl (fun n b => n * 256 + b.toNat) 0

theorem getN_snoc (l : List UInt8) (b : UInt8) : getN (l ++ [b]) = getN l * 256 + b.toNat := by simp [getN]

theorem foldl_lt : ∀ (l : List UInt8) (acc n : Nat), acc < 256 ^ n → l.foldl (fun n b => n * 256 + b.toNat) acc < 256 ^ (n + l.length)
  | [], acc, n, h => by simpa using h
  | b :: l, acc, n, h => by
    have hb := b.toNat_lt
    have := foldl_lt l (acc * 256 + b.toNat) (n + 1) (by rw [Nat.pow_succ]; omega)
    rw [List.foldl_cons, List.length_cons, show n + (l.length + 1) = n + 1 + l.length from by omega]
    exact this

theorem getN_lt (l : List UInt8) : getN l < 256 ^ l.length := by
  have := foldl_lt l 0 0 (by decide)
  rwa [Nat.zero_add] at this

theorem take_snoc (s : ByteArray) (k : Nat) (h : k < s.size) : s.data.toList.take (k + 1) = s.data.toList.take k ++ [s[k]] := by
  rw [List.take_succ_eq_append_getElem (by simpa using h)]; rfl

theorem getN_take_lt (s : ByteArray) (k : Nat) (h : k < 8) : getN (s.data.toList.take k) < 72057594037927936 := by
  have h1 := getN_lt (s.data.toList.take k)
  have h2 : (s.data.toList.take k).length ≤ 7 := Nat.le_trans (List.length_take_le _ _) (by omega)
  have h3 : 256 ^ (s.data.toList.take k).length ≤ 256 ^ 7 := Nat.pow_le_pow_right (by decide) h2
  have : (256 : Nat) ^ 7 = 72057594037927936 := by decide
  omega

/-- So many bytes of a number, as 'size' asks: none below 1, at most 8. -/
def clamp (size : Int) : Nat := (min (max size 0) 8).toNat

theorem clamp_low {size : Int} (h : size < 0) : clamp size = 0 := by unfold clamp; omega
theorem clamp_mid {k : Nat} (h : k ≤ 8) : clamp (k : Int) = k := by unfold clamp; omega
theorem clamp_high {size : Int} (h : 8 < size) : clamp size = 8 := by unfold clamp; omega

/-- The cells of bytes. -/
def cellsOf (l : List UInt8) : List Value := l.map fun b => Value.int .u8 (b.toNat : Int)

/-- What lies in the row behind i rounds. -/
def rowAt (n k i : Nat) : List Value := List.replicate (k - i) (Value.int .u8 0) ++ cellsOf (putL n i)

theorem rowAt_zero (n k : Nat) : rowAt n k 0 = List.replicate k (Value.int .u8 0) := by simp [rowAt, putL, cellsOf]
theorem rowAt_full (n k : Nat) : rowAt n k k = cellsOf (putL n k) := by simp [rowAt]

theorem rowAt_at (n k i : Nat) (h : i < k) : (rowAt n k i)[k - 1 - i]? = some (Value.int .u8 0) := by
  unfold rowAt
  rw [List.getElem?_append_left (by simp; omega), List.getElem?_replicate, if_pos (by omega)]

theorem rowAt_step (n k i : Nat) (h : i < k) : (rowAt n k i).set (k - 1 - i) (Value.int .u8 (((n / 256 ^ i % 256 : Nat)) : Int)) = rowAt n k (i + 1) := by
  unfold rowAt
  have e : k - i = (k - 1 - i) + 1 := by omega
  have e' : k - (i + 1) = k - 1 - i := by omega
  rw [e, e', List.replicate_succ', List.append_assoc, List.set_append_right _ _ (by simp)]
  simp [cellsOf, putL]

end Go.Proofs.Ytngoighdpmeepaa.W
