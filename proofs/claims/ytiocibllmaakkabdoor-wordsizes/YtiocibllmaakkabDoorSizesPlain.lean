/-
  Plain mathematics for layer 1: of two numbers the lesser one has no more digits, and of as many digits stands first; a number in some bytes. No condition.
-/
import Derived.Test.YtiocibllmaakkabDoorDigPlain
import Derived.Test.YtiocibllmaakkabDoorPlain
namespace Go.Proofs.YtiocibllmaakkabDoor.W
open Go.Lib

theorem bytesLess_snoc : ∀ (r s : List UInt8) (c d : UInt8), r.length = s.length → Op.bytesLess (r ++ [c]) (s ++ [d]) = (Op.bytesLess r s || (decide (r = s) && decide (c < d)))
  | [], [], c, d, _ => by simp [Op.bytesLess]
  | [], _ :: _, _, _, h => by simp at h
  | _ :: _, [], _, _, h => by simp at h
  | x :: r, y :: s, c, d, h => by
    have ih := bytesLess_snoc r s c d (by simpa using h)
    simp only [List.cons_append, Op.bytesLess, ih]
    rw [Bool.eq_iff_iff]
    simp only [Bool.or_eq_true, Bool.and_eq_true, decide_eq_true_eq, beq_iff_eq, List.cons.injEq]
    constructor
    · rintro (h | ⟨h1, h2 | ⟨h2, h3⟩⟩)
      · exact .inl (.inl h)
      · exact .inl (.inr ⟨h1, h2⟩)
      · exact .inr ⟨⟨h1, h2⟩, h3⟩
    · rintro ((h | ⟨h1, h2⟩) | ⟨⟨h1, h2⟩, h3⟩)
      · exact .inl h
      · exact .inr ⟨h1, .inl h2⟩
      · exact .inr ⟨h1, .inr ⟨h2, h3⟩⟩

theorem less_val : ∀ (n : Nat) (r s : List UInt8), r.length = n → s.length = n → r.all isDig = true → s.all isDig = true →
    Op.bytesLess r s = decide (val r < val s) ∧ (val r = val s → r = s) := by
  intro n
  induction n with
  | zero =>
    intro r s hr hs _ _
    rw [List.length_eq_zero_iff] at hr hs
    subst hr hs
    exact ⟨rfl, fun _ => rfl⟩
  | succ n ih =>
    intro r s hr hs ar as
    rcases snoc_cases r with rfl | ⟨r, c, rfl⟩
    · simp at hr
    rcases snoc_cases s with rfl | ⟨s, d, rfl⟩
    · simp at hs
    rw [List.all_append] at ar as
    simp only [List.all_cons, List.all_nil, Bool.and_true, Bool.and_eq_true] at ar as
    obtain ⟨h1, h2⟩ := ih r s (by simpa using hr) (by simpa using hs) ar.1 as.1
    have hc : 48 ≤ c.toNat ∧ c.toNat ≤ 57 := by have := ar.2; simpa [isDig] using this
    have hd : 48 ≤ d.toNat ∧ d.toNat ≤ 57 := by have := as.2; simpa [isDig] using this
    rw [bytesLess_snoc r s c d (by simp at hr hs; omega), val_snoc, val_snoc, h1]
    refine ⟨?_, fun e => ?_⟩
    · rw [Bool.eq_iff_iff]
      simp only [Bool.or_eq_true, Bool.and_eq_true, decide_eq_true_eq, UInt8.lt_iff_toNat_lt]
      constructor
      · rintro (h | ⟨rfl, h⟩) <;> omega
      · intro h
        by_cases e : val r < val s
        · exact .inl e
        · exact .inr ⟨h2 (by omega), by omega⟩
    · have e1 : val r = val s := by omega
      have e2 : c = d := by rw [← UInt8.toNat_inj]; omega
      rw [h2 e1, e2]

theorem nDigits_mono : ∀ (a b : Nat), a ≤ b → nDigits a ≤ nDigits b := by
  intro a
  induction a using Nat.strongRecOn with
  | ind a ih =>
    intro b h
    rw [nDigits]
    split
    · rw [nDigits]; split <;> omega
    · next ha =>
      have := ih (a / 10) (by omega) (b / 10) (by omega)
      have hb : nDigits b = nDigits (b / 10) + 1 := by rw [nDigits]; exact dif_neg (by omega)
      omega

theorem less_dec (a b : Nat) (h : nDigits a = nDigits b) : Op.bytesLess (decDigits a) (decDigits b) = decide (a < b) := by
  have := (less_val (nDigits a) (decDigits a) (decDigits b) (decDigits_length a) (by rw [decDigits_length, h]) (all_dec a) (all_dec b)).1
  rwa [val_dec, val_dec] at this

theorem foldl_from (l : List UInt8) (x : Nat) : l.foldl (fun n b => n * 256 + b.toNat) x = x * 256 ^ l.length + getN l := by
  induction l generalizing x with
  | nil => simp [getN]
  | cons b l ih =>
    have h1 := ih (x * 256 + b.toNat)
    have h2 := ih b.toNat
    simp only [getN, List.foldl_cons, List.length_cons, Nat.zero_mul, Nat.zero_add] at *
    rw [h1, h2, Nat.pow_succ, Nat.add_mul, Nat.mul_assoc, Nat.mul_comm 256, Nat.add_assoc]

theorem get_put (a : Nat) : ∀ k, getN (putL a k) = a % 256 ^ k
  | 0 => by simp [putL, getN, Nat.mod_one]
  | k + 1 => by
    have ih := get_put a k
    have h : getN (putL a (k + 1)) = (UInt8.ofNat (a / 256 ^ k)).toNat * 256 ^ k + getN (putL a k) := by
      have := foldl_from (putL a k) (UInt8.ofNat (a / 256 ^ k)).toNat
      rw [putL_length] at this
      simp only [putL, getN, List.foldl_cons, Nat.zero_mul, Nat.zero_add] at this ⊢
      exact this
    rw [h, ih, Nat.mod_pow_succ]
    simp
    rw [Nat.mul_comm, Nat.add_comm]

theorem fits (a k : Nat) : ((a % 256 ^ k : Nat) == a) = ((a / 256 ^ k : Nat) == 0) := by
  rw [Bool.eq_iff_iff, beq_iff_eq, beq_iff_eq]
  have hp : 0 < 256 ^ k := Nat.pow_pos (by decide)
  rw [Nat.mod_eq_iff_lt (by omega), Nat.div_eq_zero_iff]
  omega

end Go.Proofs.YtiocibllmaakkabDoor.W
