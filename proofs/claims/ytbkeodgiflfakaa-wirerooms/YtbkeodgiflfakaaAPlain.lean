/-
  Plain mathematics for layer 5: AES-128 on lists of bytes. No condition.
-/
import Derived.Test.YtbkeodgiflfakaaPlain
namespace Go.Proofs.Ytbkeodgiflfakaa.E
open Go.Proofs.Ytbkeodgiflfakaa.W
set_option linter.unusedVariables false
set_option maxRecDepth 20000

/-- A byte times x. -/
def dbl (a : UInt8) : UInt8 := (a <<< 1) ^^^ ((a >>> 7) * 27)
def dblN (a : UInt8) : Nat → UInt8
  | 0 => a
  | k + 1 => dbl (dblN a k)
/-- The product by so many bits. -/
def mulTo (a b : UInt8) : Nat → UInt8
  | 0 => 0
  | i + 1 => if b.toNat / 2 ^ i % 2 = 1 then mulTo a b i ^^^ dblN a i else mulTo a b i
def mul (a b : UInt8) : UInt8 := mulTo a b 8
/-- A byte turned to the left. -/
def rotl (c : UInt8) (k : Nat) : UInt8 := UInt8.ofNat (c.toNat * 2 ^ k % 256 ||| c.toNat / 2 ^ (8 - k))
def spreadTo (c : UInt8) : Nat → UInt8
  | 0 => c ^^^ 99
  | i + 1 => spreadTo c i ^^^ rotl c (i + 1)
def spread (c : UInt8) : UInt8 := spreadTo c 4

/-- What SubBytes makes. -/
def sbox : List UInt8 := [
  99, 124, 119, 123, 242, 107, 111, 197, 48, 1, 103, 43, 254, 215, 171, 118, 202, 130, 201, 125, 250, 89, 71, 240, 173, 212, 162, 175, 156, 164, 114, 192,
  183, 253, 147, 38, 54, 63, 247, 204, 52, 165, 229, 241, 113, 216, 49, 21, 4, 199, 35, 195, 24, 150, 5, 154, 7, 18, 128, 226, 235, 39, 178, 117,
  9, 131, 44, 26, 27, 110, 90, 160, 82, 59, 214, 179, 41, 227, 47, 132, 83, 209, 0, 237, 32, 252, 177, 91, 106, 203, 190, 57, 74, 76, 88, 207,
  208, 239, 170, 251, 67, 77, 51, 133, 69, 249, 2, 127, 80, 60, 159, 168, 81, 163, 64, 143, 146, 157, 56, 245, 188, 182, 218, 33, 16, 255, 243, 210,
  205, 12, 19, 236, 95, 151, 68, 23, 196, 167, 126, 61, 100, 93, 25, 115, 96, 129, 79, 220, 34, 42, 144, 136, 70, 238, 184, 20, 222, 94, 11, 219,
  224, 50, 58, 10, 73, 6, 36, 92, 194, 211, 172, 98, 145, 149, 228, 121, 231, 200, 55, 109, 141, 213, 78, 169, 108, 86, 244, 234, 101, 122, 174, 8,
  186, 120, 37, 46, 28, 166, 180, 198, 232, 221, 116, 31, 75, 189, 139, 138, 112, 62, 181, 102, 72, 3, 246, 14, 97, 53, 87, 185, 134, 193, 29, 158,
  225, 248, 152, 17, 105, 217, 142, 148, 155, 30, 135, 233, 206, 85, 40, 223, 140, 161, 137, 13, 191, 230, 66, 104, 65, 153, 45, 15, 176, 84, 187, 22]
set_option maxRecDepth 4000 in
theorem sbox_length : sbox.length = 256 := by decide +kernel
def sub (a : UInt8) : UInt8 := sbox.getD a.toNat 0

/-- A row, so many of its first cells turned. -/
def fill (F o : List UInt8) (j : Nat) : List UInt8 := F.take j ++ o.drop j
theorem fill_zero (F o : List UInt8) : fill F o 0 = o := by simp [fill]
theorem fill_full {F o : List UInt8} {n : Nat} (hF : F.length = n) (ho : o.length = n) : fill F o n = F := by
  unfold fill; rw [List.drop_eq_nil_of_le (by omega), List.append_nil, List.take_of_length_le (by omega)]
theorem fill_length {F o : List UInt8} (h : F.length = o.length) (j : Nat) : (fill F o j).length = o.length := by simp [fill]; omega
theorem fill_at {F o : List UInt8} (h : F.length = o.length) {j : Nat} (hj : j < o.length) : (fill F o j).getD j 0 = o.getD j 0 := by
  unfold fill
  have : (F.take j).length = j := by simp; omega
  rw [List.getD_eq_getElem?_getD, List.getElem?_append_right (by omega), this, Nat.sub_self, List.getElem?_drop, Nat.add_zero, List.getD_eq_getElem?_getD]
theorem fill_behind {F o : List UInt8} (h : F.length = o.length) {j i : Nat} (hj : j ≤ i) (hi : i < o.length) : (fill F o j).getD i 0 = o.getD i 0 := by
  unfold fill
  have : (F.take j).length = j := by simp; omega
  rw [List.getD_eq_getElem?_getD, List.getElem?_append_right (by omega), this, List.getElem?_drop, List.getD_eq_getElem?_getD]
  congr 2; omega
theorem fill_step {F o : List UInt8} (h : F.length = o.length) {j : Nat} (hj : j < o.length) : (fill F o j).set j (F.getD j 0) = fill F o (j + 1) := by
  have hl : (F.take j).length = j := by simp; omega
  unfold fill
  rw [List.set_append_right _ _ (by omega), hl, Nat.sub_self, List.drop_eq_getElem_cons (by omega), List.set_cons_zero, List.take_succ_eq_append_getElem (by omega), List.append_assoc]
  simp [List.getD_eq_getElem?_getD, List.getElem?_eq_getElem (show j < F.length by omega)]

/-- A block, a round key laid over it. -/
def over (b k : List UInt8) : List UInt8 := (List.range 16).map fun i => b.getD i 0 ^^^ k.getD i 0
/-- The box's bytes, each row turned by its number. -/
def shift (b : List UInt8) : List UInt8 := (List.range 16).map fun i => sub (b.getD ((i + i % 4 * 4) % 16) 0)
/-- One byte of a column, mixed. -/
def mix1 (a b c d : UInt8) : UInt8 := dbl a ^^^ dbl b ^^^ b ^^^ c ^^^ d
/-- Each column mixed. -/
def mix (b : List UInt8) : List UInt8 := (List.range 16).map fun i => mix1 (b.getD (i / 4 * 4 + i % 4) 0) (b.getD (i / 4 * 4 + (i % 4 + 1) % 4) 0) (b.getD (i / 4 * 4 + (i % 4 + 2) % 4) 0) (b.getD (i / 4 * 4 + (i % 4 + 3) % 4) 0)
theorem over_length (b k : List UInt8) : (over b k).length = 16 := by simp [over]
theorem shift_length (b : List UInt8) : (shift b).length = 16 := by simp [shift]
theorem mix_length (b : List UInt8) : (mix b).length = 16 := by simp [mix]

/-- The column that is laid over a key's bytes, at the beginning. -/
def col0 (k : List UInt8) (c : UInt8) : List UInt8 := [sub (k.getD 13 0) ^^^ c, sub (k.getD 14 0), sub (k.getD 15 0), sub (k.getD 12 0)]
def col (k : List UInt8) (c : UInt8) : Nat → List UInt8
  | 0 => col0 k c
  | j + 1 => (col k c j).set (j % 4) ((col k c j).getD (j % 4) 0 ^^^ k.getD j 0)
theorem col_length (k : List UInt8) (c : UInt8) : ∀ j, (col k c j).length = 4
  | 0 => rfl
  | j + 1 => by simp [col, col_length k c j]
/-- The round key behind another one. -/
def next (k : List UInt8) (c : UInt8) : List UInt8 := (List.range 16).map fun i => (col k c (i + 1)).getD (i % 4) 0
theorem next_length (k : List UInt8) (c : UInt8) : (next k c).length = 16 := by simp [next]
/-- A key's round keys. -/
def rk (k : List UInt8) : Nat → List UInt8
  | 0 => k
  | i + 1 => next (rk k i) (dblN 1 i)
theorem rk_length {k : List UInt8} (h : k.length = 16) : ∀ i, (rk k i).length = 16
  | 0 => h
  | i + 1 => next_length _ _
/-- All of them, in a row. -/
def rks (k : List UInt8) : Nat → List UInt8
  | 0 => []
  | i + 1 => rks k i ++ rk k i
theorem rks_length {k : List UInt8} (h : k.length = 16) : ∀ i, (rks k i).length = 16 * i
  | 0 => rfl
  | i + 1 => by simp [rks, rks_length h i, rk_length h i]; omega

/-- A block behind so many rounds. -/
def st (k b : List UInt8) : Nat → List UInt8
  | 0 => over b (rk k 0)
  | i + 1 => over (mix (shift (st k b i))) (rk k (i + 1))
theorem st_length (k b : List UInt8) : ∀ i, (st k b i).length = 16
  | 0 => over_length _ _
  | i + 1 => over_length _ _
/-- A block, encrypted. -/
def enc (k b : List UInt8) : List UInt8 := over (shift (st k b 9)) (rk k 10)
theorem enc_length (k b : List UInt8) : (enc k b).length = 16 := over_length _ _

/-- The powers that the box is filled by, those of their inverses, and which power each is. -/
def PW : List UInt8 := [
  1, 3, 5, 15, 17, 51, 85, 255, 26, 46, 114, 150, 161, 248, 19, 53, 95, 225, 56, 72, 216, 115, 149, 164, 247, 2, 6, 10, 30, 34, 102, 170,
  229, 52, 92, 228, 55, 89, 235, 38, 106, 190, 217, 112, 144, 171, 230, 49, 83, 245, 4, 12, 20, 60, 68, 204, 79, 209, 104, 184, 211, 110, 178, 205,
  76, 212, 103, 169, 224, 59, 77, 215, 98, 166, 241, 8, 24, 40, 120, 136, 131, 158, 185, 208, 107, 189, 220, 127, 129, 152, 179, 206, 73, 219, 118, 154,
  181, 196, 87, 249, 16, 48, 80, 240, 11, 29, 39, 105, 187, 214, 97, 163, 254, 25, 43, 125, 135, 146, 173, 236, 47, 113, 147, 174, 233, 32, 96, 160,
  251, 22, 58, 78, 210, 109, 183, 194, 93, 231, 50, 86, 250, 21, 63, 65, 195, 94, 226, 61, 71, 201, 64, 192, 91, 237, 44, 116, 156, 191, 218, 117,
  159, 186, 213, 100, 172, 239, 42, 126, 130, 157, 188, 223, 122, 142, 137, 128, 155, 182, 193, 88, 232, 35, 101, 175, 234, 37, 111, 177, 200, 67, 197, 84,
  252, 31, 33, 99, 165, 244, 7, 9, 27, 45, 119, 153, 176, 203, 70, 202, 69, 207, 74, 222, 121, 139, 134, 145, 168, 227, 62, 66, 198, 81, 243, 14,
  18, 54, 90, 238, 41, 123, 141, 140, 143, 138, 133, 148, 167, 242, 13, 23, 57, 75, 221, 124, 132, 151, 162, 253, 28, 36, 108, 180, 199, 82, 246, 1]
def IV : List UInt8 := [
  1, 246, 82, 199, 180, 108, 36, 28, 253, 162, 151, 132, 124, 221, 75, 57, 23, 13, 242, 167, 148, 133, 138, 143, 140, 141, 123, 41, 238, 90, 54, 18,
  14, 243, 81, 198, 66, 62, 227, 168, 145, 134, 139, 121, 222, 74, 207, 69, 202, 70, 203, 176, 153, 119, 45, 27, 9, 7, 244, 165, 99, 33, 31, 252,
  84, 197, 67, 200, 177, 111, 37, 234, 175, 101, 35, 232, 88, 193, 182, 155, 128, 137, 142, 122, 223, 188, 157, 130, 126, 42, 239, 172, 100, 213, 186, 159,
  117, 218, 191, 156, 116, 44, 237, 91, 192, 64, 201, 71, 61, 226, 94, 195, 65, 63, 21, 250, 86, 50, 231, 93, 194, 183, 109, 210, 78, 58, 22, 251,
  160, 96, 32, 233, 174, 147, 113, 47, 236, 173, 146, 135, 125, 43, 25, 254, 163, 97, 214, 187, 105, 39, 29, 11, 240, 80, 48, 16, 249, 87, 196, 181,
  154, 118, 219, 73, 206, 179, 152, 129, 127, 220, 189, 107, 208, 185, 158, 131, 136, 120, 40, 24, 8, 241, 166, 98, 215, 77, 59, 224, 169, 103, 212, 76,
  205, 178, 110, 211, 184, 104, 209, 79, 204, 68, 60, 20, 12, 4, 245, 83, 49, 230, 171, 144, 112, 217, 190, 106, 38, 235, 89, 55, 228, 92, 52, 229,
  170, 102, 34, 30, 10, 6, 2, 247, 164, 149, 115, 216, 72, 56, 225, 95, 53, 19, 248, 161, 150, 114, 46, 26, 255, 85, 51, 17, 15, 5, 3, 1]
def lgs : List Nat := [
  0, 0, 25, 1, 50, 2, 26, 198, 75, 199, 27, 104, 51, 238, 223, 3, 100, 4, 224, 14, 52, 141, 129, 239, 76, 113, 8, 200, 248, 105, 28, 193,
  125, 194, 29, 181, 249, 185, 39, 106, 77, 228, 166, 114, 154, 201, 9, 120, 101, 47, 138, 5, 33, 15, 225, 36, 18, 240, 130, 69, 53, 147, 218, 142,
  150, 143, 219, 189, 54, 208, 206, 148, 19, 92, 210, 241, 64, 70, 131, 56, 102, 221, 253, 48, 191, 6, 139, 98, 179, 37, 226, 152, 34, 136, 145, 16,
  126, 110, 72, 195, 163, 182, 30, 66, 58, 107, 40, 84, 250, 133, 61, 186, 43, 121, 10, 21, 155, 159, 94, 202, 78, 212, 172, 229, 243, 115, 167, 87,
  175, 88, 168, 80, 244, 234, 214, 116, 79, 174, 233, 213, 231, 230, 173, 232, 44, 215, 117, 122, 235, 22, 11, 245, 89, 203, 95, 176, 156, 169, 81, 160,
  127, 12, 246, 111, 23, 196, 73, 236, 216, 67, 31, 45, 164, 118, 123, 183, 204, 187, 62, 90, 251, 96, 177, 134, 59, 82, 161, 108, 170, 85, 41, 157,
  151, 178, 135, 144, 97, 190, 220, 252, 188, 149, 207, 205, 55, 63, 91, 209, 83, 57, 132, 60, 65, 162, 109, 71, 20, 42, 158, 93, 86, 242, 211, 171,
  68, 17, 146, 217, 35, 32, 46, 137, 180, 124, 184, 38, 119, 153, 227, 165, 103, 74, 237, 222, 197, 49, 254, 24, 13, 99, 140, 128, 192, 247, 112, 7]
set_option maxRecDepth 20000
theorem pw_step : ∀ k, k < 255 → dbl (PW.getD k 0) ^^^ PW.getD k 0 = PW.getD (k + 1) 0 := by decide +kernel
theorem iv_step : ∀ k, k < 255 → mul (IV.getD k 0) 246 = IV.getD (k + 1) 0 := by decide +kernel
theorem sub_pw : ∀ k, k < 255 → spread (IV.getD k 0) = sbox.getD (PW.getD k 0).toNat 0 := by decide +kernel
theorem lg_pw : ∀ k, k < 255 → lgs.getD (PW.getD k 0).toNat 0 = k := by decide +kernel
theorem pw_pos : ∀ k, k < 256 → (PW.getD k 0).toNat ≠ 0 := by decide +kernel
theorem pw_lg : ∀ x, x < 256 → x ≠ 0 → (PW.getD (lgs.getD x 0) 0).toNat = x := by decide +kernel
theorem pw_one : ∀ k, k < 254 → (PW.getD (k + 1) 0).toNat ≠ 1 := by decide +kernel
/-- The box, filled by so many powers. -/
def bx (k : Nat) : List UInt8 := (List.range 256).map fun x => if x = 0 ∨ lgs.getD x 0 < k then sbox.getD x 0 else 0
theorem bx_length (k : Nat) : (bx k).length = 256 := by unfold bx; rw [List.length_map, List.length_range]
theorem bx_zero : (List.replicate 256 0).set 0 (spread 0) = bx 0 := by decide +kernel
theorem bx_full : bx 255 = sbox := by decide +kernel
theorem bx_get (k x : Nat) (h : x < (bx k).length) : (bx k)[x] = if x = 0 ∨ lgs.getD x 0 < k then sbox.getD x 0 else 0 := by
  simp only [bx, List.getElem_map, List.getElem_range]
theorem bx_step (k : Nat) (hk : k < 255) : (bx k).set (PW.getD k 0).toNat (spread (IV.getD k 0)) = bx (k + 1) := by
  apply List.ext_getElem
  · rw [List.length_set, bx_length, bx_length]
  · intro x h1 h2
    have hx : x < 256 := by rw [bx_length] at h2; exact h2
    rw [List.getElem_set, bx_get, bx_get]
    by_cases e : (PW.getD k 0).toNat = x
    · rw [if_pos e]
      have := lg_pw k hk
      rw [e] at this
      rw [if_pos (Or.inr (by omega)), sub_pw k hk, e]
    · rw [if_neg e]
      by_cases h0 : x = 0
      · rw [if_pos (Or.inl h0), if_pos (Or.inl h0)]
      · have hne : lgs.getD x 0 ≠ k := fun h => e (by rw [← h]; exact pw_lg x hx h0)
        by_cases hl : lgs.getD x 0 < k
        · rw [if_pos (Or.inr hl), if_pos (Or.inr (by omega))]
        · rw [if_neg (by omega), if_neg (by omega)]

end Go.Proofs.Ytbkeodgiflfakaa.E
