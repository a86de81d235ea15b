/-
  Plain mathematics for layer 3: words out of a sum's bytes; a longer text's blocks. No condition.
-/
import Derived.Test.YtjkaignfomlflaaSPlain
import Derived.Laws.BitsAllLaws
namespace Go.Proofs.Ytjkaignfomlflaa.S
open Go.Proofs.Ytjkaignfomlflaa.W
set_option linter.unusedVariables false

theorem bytesAt : ∀ (h : List Nat) (k : Nat), k < 4 * h.length → (bytesOf h)[k]? = some (UInt8.ofNat (h.getD (k / 4) 0 / 256 ^ (3 - k % 4)))
  | [], k, hk => by simp at hk
  | x :: t, k, hk => by
    by_cases h4 : k < 4
    · have hc : k = 0 ∨ k = 1 ∨ k = 2 ∨ k = 3 := by omega
      rcases hc with rfl | rfl | rfl | rfl <;> rfl
    · obtain ⟨k', rfl⟩ : ∃ k', k = k' + 4 := ⟨k - 4, by omega⟩
      rw [show bytesOf (x :: t) = putL x 4 ++ bytesOf t from rfl, List.getElem?_append_right (by rw [putL_length]; omega), putL_length, Nat.add_sub_cancel, bytesAt t k' (by simp at hk; omega), show (k' + 4) / 4 = k' / 4 + 1 from by omega, show (k' + 4) % 4 = k' % 4 from by omega]
      rfl
/-- The byte's own number. -/
theorem byteNo (h : List Nat) (hh : h.length = 8) (i j : Nat) (hi : i < 8) (hj : j < 4) : ∃ c : UInt8, (bytesOf h)[4 * i + j]? = some c ∧ c.toNat = h.getD i 0 / 256 ^ (3 - j) % 256 := by
  refine ⟨_, bytesAt h (4 * i + j) (by rw [hh]; omega), ?_⟩
  rw [UInt8.toNat_ofNat', show (4 * i + j) / 4 = i from by omega, show (4 * i + j) % 4 = j from by omega]

theorem or_two (a b n : Nat) (h : b < 2 ^ n) : (2 ^ n * a ||| b) = 2 ^ n * a + b := (Nat.two_pow_add_eq_or_of_lt h a).symm
theorem or4 (a b c d : Nat) (ha : a < 256) (hb : b < 256) (hc : c < 256) (hd : d < 256) :
    bits .or .u32 (bits .or .u32 (bits .or .u32 ((a : Int) * 16777216) ((b : Int) * 65536)) ((c : Int) * 256)) (d : Int) = ((a * 16777216 + b * 65536 + c * 256 + d : Nat) : Int) := by
  have e1 : (a * 16777216 ||| b * 65536) = a * 16777216 + b * 65536 := by
    have := or_two a (b * 65536) 24 (by omega)
    rw [show 2 ^ 24 * a = a * 16777216 from by omega] at this; exact this
  have e2 : (a * 16777216 + b * 65536 ||| c * 256) = a * 16777216 + b * 65536 + c * 256 := by
    have := or_two (a * 256 + b) (c * 256) 16 (by omega)
    rw [show 2 ^ 16 * (a * 256 + b) = a * 16777216 + b * 65536 from by omega] at this; exact this
  have e3 : (a * 16777216 + b * 65536 + c * 256 ||| d) = a * 16777216 + b * 65536 + c * 256 + d := by
    have := or_two (a * 65536 + b * 256 + c) d 8 (by omega)
    rw [show 2 ^ 8 * (a * 65536 + b * 256 + c) = a * 16777216 + b * 65536 + c * 256 from by omega] at this; exact this
  rw [show (a : Int) * 16777216 = ((a * 16777216 : Nat) : Int) from by omega, show (b : Int) * 65536 = ((b * 65536 : Nat) : Int) from by omega, show (c : Int) * 256 = ((c * 256 : Nat) : Int) from by omega,
    u32_or_nat _ _ (by omega) (by omega), e1, u32_or_nat _ _ (by omega) (by omega), e2, u32_or_nat _ _ (by omega) (by omega), e3]
theorem wordBack (x : Nat) (h : x < 4294967296) : x / 256 ^ 3 % 256 * 16777216 + x / 256 ^ 2 % 256 * 65536 + x / 256 ^ 1 % 256 * 256 + x / 256 ^ 0 % 256 = x := by
  simp only [show (256 : Nat) ^ 3 = 16777216 from rfl, show (256 : Nat) ^ 2 = 65536 from rfl, Nat.pow_one, Nat.pow_zero, Nat.div_one]
  omega
/-- A word out of its four bytes. -/
theorem or_word (h : List Nat) (hh : h.length = 8) (oh : Ok h) (i : Nat) (hi : i < 8) (a b c d : UInt8) (ha : (bytesOf h)[4 * i]? = some a) (hb : (bytesOf h)[4 * i + 1]? = some b) (hc : (bytesOf h)[4 * i + 2]? = some c) (hd : (bytesOf h)[4 * i + 3]? = some d) :
    bits .or .u32 (bits .or .u32 (bits .or .u32 ((a.toNat : Int) * 16777216) ((b.toNat : Int) * 65536)) ((c.toNat : Int) * 256)) (d.toNat : Int) = ((h.getD i 0 : Nat) : Int) := by
  obtain ⟨a', ea, na⟩ := byteNo h hh i 0 hi (by decide)
  obtain ⟨b', eb, nb⟩ := byteNo h hh i 1 hi (by decide)
  obtain ⟨c', ec, nc⟩ := byteNo h hh i 2 hi (by decide)
  obtain ⟨d', ed, nd⟩ := byteNo h hh i 3 hi (by decide)
  rw [Nat.add_zero] at ea
  rw [ha] at ea; rw [hb] at eb; rw [hc] at ec; rw [hd] at ed
  cases ea; cases eb; cases ec; cases ed
  rw [or4 _ _ _ _ a.toNat_lt b.toNat_lt c.toNat_lt d.toNat_lt, na, nb, nc, nd]
  exact congrArg _ (wordBack _ (oh.getD i))

theorem blocks_front (p r : List UInt8) (h : List Nat) : ∀ k, 64 * k ≤ p.length → blocks (p ++ r) h k = blocks p h k
  | 0, _ => rfl
  | k + 1, hk => by
    show stepL (blocks (p ++ r) h k) (((p ++ r).drop (64 * k)).take 64) = stepL (blocks p h k) ((p.drop (64 * k)).take 64)
    rw [blocks_front p r h k (by omega), List.drop_append_of_le_length (by omega), List.take_append_of_le_length (by simp; omega)]
/-- Behind a text's whole blocks the words are its sum's. -/
theorem words_front (s t : List UInt8) : blocks (padL (padL s ++ t)) start ((padL s).length / 64) = wordsOf s := by
  obtain ⟨r, hr⟩ : ∃ r, padL (padL s ++ t) = padL s ++ r := ⟨t ++ 128 :: (List.replicate (noughts (padL s ++ t).length) 0 ++ putL (8 * (padL s ++ t).length) 8), by rw [padL, List.append_assoc]⟩
  rw [hr, blocks_front _ _ _ _ (by omega)]
  rfl

/-- So many words already laid into a fresh row. -/
def wordRow (h : List Nat) (k : Nat) : List Nat := h.take k ++ List.replicate (8 - k) 0
theorem wordRow_length (h : List Nat) (hh : h.length = 8) (k : Nat) (hk : k ≤ 8) : (wordRow h k).length = 8 := by simp [wordRow, hh]; omega
theorem wordRow_step (h : List Nat) (hh : h.length = 8) (k : Nat) (hk : k < 8) : (wordRow h k).set k (h.getD k 0) = wordRow h (k + 1) := by
  have hl : (h.take k).length = k := by simp; omega
  unfold wordRow
  rw [List.set_append_right _ _ (by omega), hl, Nat.sub_self, show 8 - k = (8 - (k + 1)) + 1 from by omega, List.replicate_succ, List.set_cons_zero, List.take_succ_eq_append_getElem (i := k) (by omega), List.append_assoc]
  simp [List.getD_eq_getElem?_getD, List.getElem?_eq_getElem (show k < h.length by omega)]
theorem wordRow_full (h : List Nat) (hh : h.length = 8) : wordRow h 8 = h := by simp [wordRow, hh, List.take_of_length_le]

end Go.Proofs.Ytjkaignfomlflaa.S
