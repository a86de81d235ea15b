/-
  Plain mathematics for layer 5: the laws of the field; the document's product and the document's box. No condition.
-/
import Derived.Test.YtpkehhbjagmodaaALaws
namespace Go.Proofs.Ytpkehhbjagmodaa.E
open Go.Proofs.Ytpkehhbjagmodaa.W
set_option linter.unusedVariables false

/-- A bit of a sum is the sum of the bits. -/
theorem bit_xor (x y k : Nat) : ((x ^^^ y) / 2 ^ k % 2 = 1) = ((x / 2 ^ k % 2 = 1) ≠ (y / 2 ^ k % 2 = 1)) := by
  have h := Nat.testBit_xor x y k
  simp only [Nat.testBit_eq_decide_div_mod_eq] at h
  by_cases h1 : x / 2 ^ k % 2 = 1 <;> by_cases h2 : y / 2 ^ k % 2 = 1 <;> simp [h1, h2] at h <;> simp [h1, h2, h]
theorem n_cancel (x y : Nat) : x ^^^ (x ^^^ y) = y := by rw [← Nat.xor_assoc, Nat.xor_self, Nat.zero_xor]
theorem n_comm (x y z : Nat) : x ^^^ (y ^^^ z) = y ^^^ (x ^^^ z) := by rw [← Nat.xor_assoc, Nat.xor_comm x y, Nat.xor_assoc]
theorem u_cancel (x y : UInt8) : x ^^^ (x ^^^ y) = y := by rw [← UInt8.xor_assoc]; simp
theorem u_comm (x y z : UInt8) : x ^^^ (y ^^^ z) = y ^^^ (x ^^^ z) := by rw [← UInt8.xor_assoc, UInt8.xor_comm x y, UInt8.xor_assoc]

theorem u_two (x y d : UInt8) : x ^^^ y = x ^^^ d ^^^ (y ^^^ d) := by rw [UInt8.xor_assoc, u_comm d y d, UInt8.xor_self, UInt8.xor_zero]
theorem n_two (x y d : Nat) : x ^^^ y = x ^^^ d ^^^ (y ^^^ d) := by rw [Nat.xor_assoc, n_comm d y d, Nat.xor_self, Nat.xor_zero]

theorem dblN_xor (a b : UInt8) : ∀ i, dblN (a ^^^ b) i = dblN a i ^^^ dblN b i
  | 0 => rfl
  | i + 1 => by simp only [dblN, dblN_xor a b i, dbl_xor]
theorem mulTo_left (a b c : UInt8) : ∀ i, mulTo (a ^^^ b) c i = mulTo a c i ^^^ mulTo b c i
  | 0 => by simp [mulTo]
  | i + 1 => by
    simp only [mulTo, mulTo_left a b c i, dblN_xor]
    split
    · ac_rfl
    · rfl
theorem mulTo_right (a b c : UInt8) : ∀ i, mulTo a (b ^^^ c) i = mulTo a b i ^^^ mulTo a c i
  | 0 => by simp [mulTo]
  | i + 1 => by
    have hb := bit_xor b.toNat c.toNat i
    simp only [mulTo, mulTo_right a b c i, UInt8.toNat_xor, hb]
    by_cases h1 : b.toNat / 2 ^ i % 2 = 1 <;> by_cases h2 : c.toNat / 2 ^ i % 2 = 1
    · rw [if_pos h1, if_pos h2, if_neg (by simp [h1, h2])]
      exact u_two _ _ _
    · rw [if_pos h1, if_neg h2, if_pos (by simp [h1, h2])]
      ac_rfl
    · rw [if_neg h1, if_pos h2, if_pos (by simp [h1, h2])]
      ac_rfl
    · rw [if_neg h1, if_neg h2, if_neg (by simp [h1, h2])]
theorem mul_left (a b c : UInt8) : mul (a ^^^ b) c = mul a c ^^^ mul b c := mulTo_left a b c 8
theorem mul_right (a b c : UInt8) : mul a (b ^^^ c) = mul a b ^^^ mul a c := mulTo_right a b c 8

/-- What keeps sums is told by eight bytes. -/
def bitOf (a : UInt8) (j : Nat) : UInt8 := if a.toNat / 2 ^ j % 2 = 1 then UInt8.ofNat (2 ^ j) else 0
theorem of_bits (a : UInt8) : a = bitOf a 0 ^^^ bitOf a 1 ^^^ bitOf a 2 ^^^ bitOf a 3 ^^^ bitOf a 4 ^^^ bitOf a 5 ^^^ bitOf a 6 ^^^ bitOf a 7 := by
  have : ∀ n, n < 256 → UInt8.ofNat n = bitOf (UInt8.ofNat n) 0 ^^^ bitOf (UInt8.ofNat n) 1 ^^^ bitOf (UInt8.ofNat n) 2 ^^^ bitOf (UInt8.ofNat n) 3 ^^^ bitOf (UInt8.ofNat n) 4 ^^^ bitOf (UInt8.ofNat n) 5 ^^^ bitOf (UInt8.ofNat n) 6 ^^^ bitOf (UInt8.ofNat n) 7 := by decide +kernel
  have := this a.toNat a.toNat_lt
  rwa [UInt8.ofNat_toNat] at this
theorem by_bits {f g : UInt8 → UInt8} (hf : ∀ x y, f (x ^^^ y) = f x ^^^ f y) (hg : ∀ x y, g (x ^^^ y) = g x ^^^ g y) (h : ∀ j, j < 8 → f (UInt8.ofNat (2 ^ j)) = g (UInt8.ofNat (2 ^ j))) (a : UInt8) : f a = g a := by
  have f0 : f 0 = 0 := by have := hf 0 0; simpa using this
  have g0 : g 0 = 0 := by have := hg 0 0; simpa using this
  have hb : ∀ j, j < 8 → f (bitOf a j) = g (bitOf a j) := fun j hj => by
    unfold bitOf
    split
    · exact h j hj
    · rw [f0, g0]
  rw [of_bits a]
  simp only [hf, hg, hb 0 (by decide), hb 1 (by decide), hb 2 (by decide), hb 3 (by decide), hb 4 (by decide), hb 5 (by decide), hb 6 (by decide), hb 7 (by decide)]
theorem mul_comm (a b : UInt8) : mul a b = mul b a := by
  refine by_bits (f := fun a => mul a b) (g := fun a => mul b a) (fun x y => mul_left x y b) (fun x y => mul_right b x y) (fun j hj => ?_) a
  refine by_bits (f := fun b => mul (UInt8.ofNat (2 ^ j)) b) (g := fun b => mul b (UInt8.ofNat (2 ^ j))) (fun x y => mul_right _ x y) (fun x y => mul_left x y _) (fun i hi => ?_) b
  have : ∀ j, j < 8 → ∀ i, i < 8 → mul (UInt8.ofNat (2 ^ j)) (UInt8.ofNat (2 ^ i)) = mul (UInt8.ofNat (2 ^ i)) (UInt8.ofNat (2 ^ j)) := by decide +kernel
  exact this j hj i hi
theorem mul_assoc (a b c : UInt8) : mul (mul a b) c = mul a (mul b c) := by
  refine by_bits (f := fun a => mul (mul a b) c) (g := fun a => mul a (mul b c)) (fun x y => by simp only [mul_left]) (fun x y => by simp only [mul_left]) (fun j hj => ?_) a
  refine by_bits (f := fun b => mul (mul (UInt8.ofNat (2 ^ j)) b) c) (g := fun b => mul (UInt8.ofNat (2 ^ j)) (mul b c)) (fun x y => by simp only [mul_left, mul_right]) (fun x y => by simp only [mul_left, mul_right]) (fun i hi => ?_) b
  refine by_bits (f := fun c => mul (mul (UInt8.ofNat (2 ^ j)) (UInt8.ofNat (2 ^ i))) c) (g := fun c => mul (UInt8.ofNat (2 ^ j)) (mul (UInt8.ofNat (2 ^ i)) c)) (fun x y => by simp only [mul_right]) (fun x y => by simp only [mul_right]) (fun l hl => ?_) c
  have : ∀ j, j < 8 → ∀ i, i < 8 → ∀ l, l < 8 → mul (mul (UInt8.ofNat (2 ^ j)) (UInt8.ofNat (2 ^ i))) (UInt8.ofNat (2 ^ l)) = mul (UInt8.ofNat (2 ^ j)) (mul (UInt8.ofNat (2 ^ i)) (UInt8.ofNat (2 ^ l))) := by decide +kernel
  exact this j hj i hi l hl

/-- The document's product, ahead of the reduction, by so many bits. -/
def pTo (a b : Nat) : Nat → Nat
  | 0 => 0
  | i + 1 => if b / 2 ^ i % 2 = 1 then pTo a b i ^^^ (a * 2 ^ i) else pTo a b i
/-- .. and reduced, by so many of the highest bits. -/
def redTo (p : Nat) : Nat → Nat
  | 0 => p
  | j + 1 => if redTo p j / 2 ^ (14 - j) % 2 = 1 then redTo p j ^^^ (283 * 2 ^ (6 - j)) else redTo p j
theorem redTo_xor (x y : Nat) : ∀ j, redTo (x ^^^ y) j = redTo x j ^^^ redTo y j
  | 0 => rfl
  | j + 1 => by
    have hb := bit_xor (redTo x j) (redTo y j) (14 - j)
    simp only [redTo, redTo_xor x y j, hb]
    by_cases h1 : redTo x j / 2 ^ (14 - j) % 2 = 1 <;> by_cases h2 : redTo y j / 2 ^ (14 - j) % 2 = 1
    · rw [if_pos h1, if_pos h2, if_neg (by simp [h1, h2])]
      exact n_two _ _ _
    · rw [if_pos h1, if_neg h2, if_pos (by simp [h1, h2])]
      ac_rfl
    · rw [if_neg h1, if_pos h2, if_pos (by simp [h1, h2])]
      ac_rfl
    · rw [if_neg h1, if_neg h2, if_neg (by simp [h1, h2])]
theorem redTo_zero : redTo 0 7 = 0 := by decide +kernel
theorem red_shift : ∀ i, i < 8 → ∀ n, n < 256 → redTo (n * 2 ^ i) 7 = (dblN (UInt8.ofNat n) i).toNat := by decide +kernel
theorem ref_to (a b : UInt8) : ∀ i, i ≤ 8 → redTo (pTo a.toNat b.toNat i) 7 = (mulTo a b i).toNat
  | 0, _ => redTo_zero
  | i + 1, h => by
    have ih := ref_to a b i (by omega)
    simp only [pTo, mulTo]
    split
    · rw [redTo_xor, ih, red_shift i (by omega) _ a.toNat_lt, UInt8.ofNat_toNat, UInt8.toNat_xor]
    · exact ih
/-- The document's product is the product. -/
theorem ref_mul (a b : UInt8) : redTo (pTo a.toNat b.toNat 8) 7 = (mul a b).toNat := ref_to a b 8 (Nat.le_refl _)
theorem pTo_lt (a b : Nat) (ha : a < 256) : ∀ i, i ≤ 8 → pTo a b i < 65536
  | 0, _ => by simp [pTo]
  | i + 1, h => by
    have ih := pTo_lt a b ha i (by omega)
    simp only [pTo]
    split
    · refine Nat.xor_lt_two_pow (n := 16) ih ?_
      have : (2 : Nat) ^ i ≤ 2 ^ 7 := Nat.pow_le_pow_right (by decide) (by omega)
      have := Nat.mul_le_mul (show a ≤ 255 by omega) this
      omega
    · exact ih
theorem redTo_lt (p : Nat) (hp : p < 65536) : ∀ j, j ≤ 7 → redTo p j < 65536
  | 0, _ => hp
  | j + 1, h => by
    have ih := redTo_lt p hp j (by omega)
    simp only [redTo]
    split
    · refine Nat.xor_lt_two_pow (n := 16) ih ?_
      have : (2 : Nat) ^ (6 - j) ≤ 2 ^ 6 := Nat.pow_le_pow_right (by decide) (by omega)
      have := Nat.mul_le_mul (Nat.le_refl 283) this
      omega
    · exact ih

/-- The document's inverse: a power. -/
def sqTo (a : UInt8) : Nat → UInt8
  | 0 => a
  | i + 1 => mul (sqTo a i) (sqTo a i)
def pwTo (a : UInt8) : Nat → UInt8
  | 0 => 1
  | i + 1 => mul (pwTo a i) (sqTo a (i + 1))
def bitAt (c i : Nat) : Nat := c / 2 ^ i + c / 2 ^ ((i + 4) % 8) + c / 2 ^ ((i + 5) % 8) + c / 2 ^ ((i + 6) % 8) + c / 2 ^ ((i + 7) % 8) + 99 / 2 ^ i
def outTo (c : Nat) : Nat → Nat
  | 0 => 0
  | i + 1 => outTo c i + bitAt c i % 2 * 2 ^ i
theorem outTo_lt (c : Nat) : ∀ i, outTo c i < 2 ^ i
  | 0 => by simp [outTo]
  | i + 1 => by
    have := outTo_lt c i
    have h2 : bitAt c i % 2 ≤ 1 := by omega
    have h3 := Nat.mul_le_mul h2 (Nat.le_refl (2 ^ i))
    rw [outTo, Nat.pow_succ]; omega
set_option maxRecDepth 20000 in
theorem ref_sub : ∀ n, n < 256 → outTo (pwTo (UInt8.ofNat n) 7).toNat 8 = (sbox.getD n 0).toNat := by decide +kernel

end Go.Proofs.Ytpkehhbjagmodaa.E
