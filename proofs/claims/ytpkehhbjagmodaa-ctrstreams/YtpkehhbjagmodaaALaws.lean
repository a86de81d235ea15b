/-
  Plain laws of layer 5: the next round key, byte by byte; the steps of a block can be undone. No condition.
-/
import Derived.Test.YtpkehhbjagmodaaAPlain
namespace Go.Proofs.Ytpkehhbjagmodaa.E
set_option linter.unusedVariables false

theorem next_zero (k : List UInt8) (c : UInt8) : k.getD 0 0 ^^^ sub (k.getD 13 0) ^^^ c = (next k c).getD 0 0 := by
  show _ = sub (k.getD 13 0) ^^^ c ^^^ k.getD 0 0
  rw [UInt8.xor_comm (k.getD 0 0), UInt8.xor_assoc, UInt8.xor_comm (k.getD 0 0), ← UInt8.xor_assoc]
theorem next_lo (k : List UInt8) (c : UInt8) (i : Nat) (h0 : i ≠ 0) (hi : i < 4) : k.getD i 0 ^^^ sub (k.getD (12 + (i + 1) % 4) 0) = (next k c).getD i 0 := by
  obtain rfl | rfl | rfl : i = 1 ∨ i = 2 ∨ i = 3 := by omega
  all_goals exact UInt8.xor_comm _ _
theorem col_same (k : List UInt8) (c : UInt8) (j : Nat) : (col k c (j + 1)).getD (j % 4) 0 = (col k c j).getD (j % 4) 0 ^^^ k.getD j 0 := by
  have h : j % 4 < (col k c j).length := by rw [col_length]; exact Nat.mod_lt _ (by decide)
  show ((col k c j).set (j % 4) _).getD (j % 4) 0 = _
  rw [List.getD_eq_getElem?_getD, List.getElem?_set_self h]; rfl
theorem col_other (k : List UInt8) (c : UInt8) (j r : Nat) (h : j % 4 ≠ r) : (col k c (j + 1)).getD r 0 = (col k c j).getD r 0 := by
  show ((col k c j).set (j % 4) _).getD r 0 = _
  rw [List.getD_eq_getElem?_getD, List.getElem?_set_ne h, List.getD_eq_getElem?_getD]
theorem next_at (k : List UInt8) (c : UInt8) (i : Nat) (hi : i < 16) : (next k c).getD i 0 = (col k c (i + 1)).getD (i % 4) 0 := by simp [next, hi]
theorem next_hi (k : List UInt8) (c : UInt8) (i : Nat) (h0 : 4 ≤ i) (hi : i < 16) : k.getD i 0 ^^^ (next k c).getD (i - 4) 0 = (next k c).getD i 0 := by
  obtain ⟨n, rfl⟩ : ∃ n, i = n + 4 := ⟨i - 4, by omega⟩
  rw [show n + 4 - 4 = n from by omega, next_at _ _ _ (by omega), next_at _ _ _ hi, col_same k c (n + 4), show (n + 4) % 4 = n % 4 from by omega, col_other k c (n + 3) _ (by omega), col_other k c (n + 2) _ (by omega), col_other k c (n + 1) _ (by omega), UInt8.xor_comm]

theorem mul_two (a : UInt8) : mul a 2 = dbl a := by
  show (0 : UInt8) ^^^ dbl a = dbl a
  simp

/-! What is linear over exclusive or is known by its eight bits. -/
theorem dbl_xor (a b : UInt8) : dbl (a ^^^ b) = dbl a ^^^ dbl b := by
  have hs (x : UInt8) : x >>> 7 = 0 ∨ x >>> 7 = 1 := by
    have h : ∀ n : Nat, n < 256 → (UInt8.ofNat n) >>> 7 = 0 ∨ (UInt8.ofNat n) >>> 7 = 1 := by decide +kernel
    have := h x.toNat x.toNat_lt
    rwa [UInt8.ofNat_toNat] at this
  have h1 : (a ^^^ b) <<< 1 = (a <<< 1) ^^^ (b <<< 1) := UInt8.shiftLeft_xor
  have h2 : (a ^^^ b) >>> 7 = (a >>> 7) ^^^ (b >>> 7) := UInt8.shiftRight_xor
  unfold dbl
  rw [h1, h2]
  generalize a <<< 1 = x
  generalize b <<< 1 = y
  have hx : ((0 : UInt8) ^^^ 0) * 27 = 0 ∧ ((0 : UInt8) ^^^ 1) * 27 = 27 ∧ ((1 : UInt8) ^^^ 0) * 27 = 27 ∧ ((1 : UInt8) ^^^ 1) * 27 = 0 ∧ (0 : UInt8) * 27 = 0 ∧ (1 : UInt8) * 27 = 27 := by decide
  obtain ⟨e1, e2, e3, e4, e5, e6⟩ := hx
  rcases hs a with ha | ha <;> rcases hs b with hb | hb <;> rw [ha, hb]
  · rw [e1, e5]; simp
  · rw [e2, e5, e6]; simp [UInt8.xor_assoc]
  · rw [e3, e5, e6]; simp [UInt8.xor_assoc, UInt8.xor_comm y]
  · rw [e4, e6]; simp [UInt8.xor_assoc]; rw [UInt8.xor_comm y, ← UInt8.xor_assoc 27]; simp
end Go.Proofs.Ytpkehhbjagmodaa.E
