/-
  Plain mathematics for layer 2: how the words of 64-bit floats stand to each other. No condition.
-/
import Derived.WalkKit
import Derived.WalkLawsBesides
import Derived.Laws.FloatArith
import Derived.Laws.Cover2
import Ieee.Arith
namespace Go.Proofs.YtdcpacdfbbdnlaaDoor.R
open Ieee

/-- A word's lower bits; its sign; what it stands for as a place in the order of numbers. -/
def rung (x : Nat) : Nat := x % 9223372036854775808
def sgn (x : Nat) : Bool := x / 9223372036854775808 % 2 == 1
def nan (x : Nat) : Bool := decide (9218868437227405312 < rung x)
def v (x : Nat) : Int := if sgn x = true then -(rung x : Int) else (rung x : Int)

/-- The magnitude of a rung, in units of the least place. -/
def M (r : Nat) : Nat := if r < 4503599627370496 then r else (4503599627370496 + r % 4503599627370496) * 2 ^ (r / 4503599627370496 - 1)

theorem M_succ (r : Nat) : M r < M (r + 1) := by
  unfold M
  by_cases h1 : r + 1 < 4503599627370496
  · rw [if_pos h1, if_pos (by omega)]; omega
  · rw [if_neg h1]
    by_cases h2 : r < 4503599627370496
    · rw [if_pos h2]
      have e1 : (r + 1) / 4503599627370496 = 1 := by omega
      have e2 : (r + 1) % 4503599627370496 = 0 := by omega
      rw [e1, e2]; simp; omega
    · rw [if_neg h2]
      by_cases h3 : (r + 1) % 4503599627370496 = 0
      · have e1 : (r + 1) / 4503599627370496 - 1 = (r / 4503599627370496 - 1) + 1 := by omega
        have e2 : r % 4503599627370496 = 4503599627370495 := by omega
        rw [h3, e1, e2, Nat.pow_succ]
        have hp : 0 < 2 ^ (r / 4503599627370496 - 1) := Nat.two_pow_pos _
        generalize 2 ^ (r / 4503599627370496 - 1) = p at *
        omega
      · have e1 : (r + 1) / 4503599627370496 = r / 4503599627370496 := by omega
        have e2 : (r + 1) % 4503599627370496 = r % 4503599627370496 + 1 := by omega
        rw [e1, e2]
        have hp : 0 < 2 ^ (r / 4503599627370496 - 1) := Nat.two_pow_pos _
        exact Nat.mul_lt_mul_of_pos_right (by omega) hp
theorem M_add (r k : Nat) : M r < M (r + k + 1) := by
  induction k with
  | zero => exact M_succ r
  | succ k ih => exact Nat.lt_trans ih (M_succ _)
theorem M_lt (r s : Nat) (h : r < s) : M r < M s := by
  have := M_add r (s - r - 1)
  rwa [show r + (s - r - 1) + 1 = s from by omega] at this
theorem M_inj (r s : Nat) (h : M r = M s) : r = s := by
  rcases Nat.lt_trichotomy r s with h' | h' | h'
  · have := M_lt r s h'; omega
  · exact h'
  · have := M_lt s r h'; omega
theorem M_zero : M 0 = 0 := rfl

/-- A finite word's datum. -/
theorem read_num (x : Nat) (h : rung x < 9218868437227405312) : ∃ (m e : Nat), double.read x = .number (sgn x) m ((e : Int) - 1074) ∧ m * 2 ^ e = M (rung x) := by
  have e1 : double.signWeight = 9223372036854775808 := by decide
  have e2 : double.binade = 4503599627370496 := by decide
  have e3 : double.infRung = 9218868437227405312 := by decide
  have e4 : double.leastPlace = -1074 := by decide
  unfold Format.read
  simp only [e1, e2, e3, e4]
  have hr : x % 9223372036854775808 = rung x := rfl
  rw [hr]
  unfold M
  by_cases h1 : rung x < 4503599627370496
  · rw [if_pos h1, if_pos h1]
    exact ⟨rung x, 0, by simp [sgn], by simp⟩
  · rw [if_neg h1, if_pos h, if_neg h1]
    exact ⟨4503599627370496 + rung x % 4503599627370496, rung x / 4503599627370496 - 1, by simp [sgn]; omega, rfl⟩
theorem read_inf (x : Nat) (h : rung x = 9218868437227405312) : double.read x = .infinity (sgn x) := by
  have e1 : double.signWeight = 9223372036854775808 := by decide
  have e2 : double.binade = 4503599627370496 := by decide
  have e3 : double.infRung = 9218868437227405312 := by decide
  unfold Format.read
  simp only [e1, e2, e3]
  have hr : x % 9223372036854775808 = rung x := rfl
  rw [hr, if_neg (by omega), if_neg (by omega), if_pos h]
  rfl
theorem read_nan (x : Nat) (h : 9218868437227405312 < rung x) : ∃ t, double.read x = .nan (sgn x) t := by
  have e1 : double.signWeight = 9223372036854775808 := by decide
  have e2 : double.binade = 4503599627370496 := by decide
  have e3 : double.infRung = 9218868437227405312 := by decide
  unfold Format.read
  simp only [e1, e2, e3]
  have hr : x % 9223372036854775808 = rung x := rfl
  rw [hr, if_neg (by omega), if_neg (by omega), if_neg (by omega)]
  exact ⟨_, rfl⟩

theorem cmp_scale (a b : Int) (p : Nat) (hp : 0 < p) : compare (a * (p : Int)) (b * (p : Int)) = compare a b := by
  have hp' : (0 : Int) < p := by omega
  rcases Int.lt_trichotomy a b with h | h | h
  · have h2 := Int.mul_lt_mul_of_pos_right h hp'
    rw [Int.compare_eq_lt.2 h, Int.compare_eq_lt.2 h2]
  · subst h; rw [Int.compare_eq_eq.2 rfl, Int.compare_eq_eq.2 rfl]
  · have h2 := Int.mul_lt_mul_of_pos_right h hp'
    rw [Int.compare_eq_gt.2 h, Int.compare_eq_gt.2 h2]

def sg (s : Bool) (m : Nat) : Int := if s = true then -(m : Int) else (m : Int)

theorem signed_scale (s : Bool) (m up low : Nat) : signed s m up * ((2 ^ low : Nat) : Int) = sg s (m * 2 ^ (up + low)) := by
  unfold signed sg
  rw [Nat.shiftLeft_eq, Nat.pow_add]
  cases s <;> simp [Int.mul_assoc, Int.neg_mul]

theorem sg_cmp (s t : Bool) (a b : Nat) : compare (sg s (M a)) (sg t (M b)) = compare (sg s a) (sg t b) := by
  have m0 := M_zero
  have ha : a = 0 ∨ 0 < M a := by
    by_cases h : a = 0
    · exact .inl h
    · right; have := M_lt 0 a (by omega); omega
  have hb : b = 0 ∨ 0 < M b := by
    by_cases h : b = 0
    · exact .inl h
    · right; have := M_lt 0 b (by omega); omega
  have hlt := M_lt a b
  have hgt := M_lt b a
  have h0a : a = 0 → M a = 0 := fun h => by rw [h]; rfl
  have h0b : b = 0 → M b = 0 := fun h => by rw [h]; rfl
  have hab : a = b → M a = M b := fun h => by rw [h]
  have key : ∀ (p q r u : Int), (p < q ↔ r < u) → (p = q ↔ r = u) → compare p q = compare r u := fun p q r u h1 h2 => by
    rcases Int.lt_trichotomy p q with h | h | h
    · rw [Int.compare_eq_lt.2 h, Int.compare_eq_lt.2 (h1.1 h)]
    · rw [Int.compare_eq_eq.2 h, Int.compare_eq_eq.2 (h2.1 h)]
    · have : u < r := by
        rcases Int.lt_trichotomy r u with h' | h' | h'
        · have := h1.2 h'; omega
        · have := h2.2 h'; omega
        · exact h'
      rw [Int.compare_eq_gt.2 h, Int.compare_eq_gt.2 this]
  apply key
  · unfold sg; cases s <;> cases t <;> simp <;> omega
  · unfold sg; cases s <;> cases t <;> simp <;> omega

theorem order_fin (x y : Nat) (hx : rung x < 9218868437227405312) (hy : rung y < 9218868437227405312) : double.order x y = some (compare (v x) (v y)) := by
  obtain ⟨m, e, rx, mx⟩ := read_num x hx
  obtain ⟨n, f, ry, my⟩ := read_num y hy
  unfold Format.order
  rw [rx, ry]
  simp only [Datum.order]
  have b1 : ((e : Int) - 1074 - min ((e : Int) - 1074) ((f : Int) - 1074)).toNat = e - min e f := by omega
  have b2 : ((f : Int) - 1074 - min ((e : Int) - 1074) ((f : Int) - 1074)).toNat = f - min e f := by omega
  rw [b1, b2]
  congr 1
  have hp : 0 < 2 ^ (min e f) := Nat.two_pow_pos _
  rw [← cmp_scale _ _ _ hp, signed_scale, signed_scale, show e - min e f + min e f = e from by omega, show f - min e f + min e f = f from by omega, mx, my, sg_cmp]
  rfl

theorem order_nan_left (x y : Nat) (hx : 9218868437227405312 < rung x) : double.order x y = none := by
  obtain ⟨t, h⟩ := read_nan x hx
  unfold Format.order
  rw [h]
  rfl
theorem order_nan_right (x y : Nat) (hy : 9218868437227405312 < rung y) : double.order x y = none := by
  obtain ⟨t, h⟩ := read_nan y hy
  unfold Format.order
  rw [h]
  cases double.read x <;> rfl

theorem rung_lt (x : Nat) : rung x < 9223372036854775808 := Nat.mod_lt _ (by decide)

/-- THE ORDER OF WORDS. -/
theorem order_eq (x y : Nat) (hx : rung x ≤ 9218868437227405312) (hy : rung y ≤ 9218868437227405312) : double.order x y = some (compare (v x) (v y)) := by
  by_cases h1 : rung x = 9218868437227405312
  · by_cases h2 : rung y = 9218868437227405312
    · unfold Format.order
      rw [read_inf x h1, read_inf y h2]
      unfold v
      rw [h1, h2]
      cases sgn x <;> cases sgn y <;> rfl
    · obtain ⟨n, f, ry, my⟩ := read_num y (by omega)
      unfold Format.order
      rw [read_inf x h1, ry]
      simp only [Datum.order]
      congr 1
      unfold v
      rw [h1]
      cases sgn x
      · symm
        simp only [Bool.false_eq_true, if_false]
        rw [Int.compare_eq_gt]
        split <;> omega
      · symm
        simp only [if_true]
        rw [Int.compare_eq_lt]
        split <;> omega
  · by_cases h2 : rung y = 9218868437227405312
    · obtain ⟨m, e, rx, mx⟩ := read_num x (by omega)
      unfold Format.order
      rw [read_inf y h2, rx]
      simp only [Datum.order]
      congr 1
      unfold v
      rw [h2]
      cases sgn y
      · symm
        simp only [Bool.false_eq_true, if_false]
        rw [Int.compare_eq_lt]
        split <;> omega
      · symm
        simp only [if_true]
        rw [Int.compare_eq_gt]
        split <;> omega
    · exact order_fin x y (by omega) (by omega)

end Go.Proofs.YtdcpacdfbbdnlaaDoor.R
