/-
  Plain mathematics for layer 1: the parts of a text, put together, are it; each has its size; the error by sizes alone. No condition.
-/
import Derived.Test.YtiocibllmaakkaaCutPlain
import Derived.Lib.Join
namespace Go.Proofs.Ytiocibllmaakkaa.W

/-- The error, by how many bytes are left. -/
def errL (n : Nat) : List Int → Int
  | [] => 0
  | z :: zs => if z < 0 then 2 else if (n : Int) < z then 3 else errL (n - z.toNat) zs

theorem cut_err : ∀ (zs : List Int) (s : List UInt8), (cutE s zs).2 = errL s.length zs
  | [], s => rfl
  | z :: zs, s => by
    have ih := cut_err zs (s.drop z.toNat)
    rw [List.length_drop] at ih
    simp only [cutE, errL]
    by_cases a : z < 0
    · simp [a]
    · by_cases b : (s.length : Int) < z
      · simp [a, b]
      · rw [if_neg a, if_neg b, if_neg a, if_neg b, ← ih]
        split
        · next h => exact h.symm
        · rfl

theorem cut_join : ∀ (zs : List Int) (s : List UInt8), (cutE s zs).2 = 0 → (cutE s zs).1.flatten = s
  | [], s, _ => by simp [cutE]
  | z :: zs, s, h => by
    have ih := cut_join zs (s.drop z.toNat)
    simp only [cutE] at h ⊢
    by_cases a : z < 0
    · simp [a] at h
    · by_cases b : (s.length : Int) < z
      · simp [a, b] at h
      · by_cases c : (cutE (s.drop z.toNat) zs).2 = 0
        · simp [a, b, c, ih c]
        · simp [a, b, c] at h

theorem cut_sizes : ∀ (zs : List Int) (s : List UInt8), (cutE s zs).2 = 0 → ∀ i, i < zs.length → ((((cutE s zs).1.getD i []).length : Nat) : Int) = zs.getD i 0
  | [], s, _, i, hi => by simp at hi
  | z :: zs, s, h, i, hi => by
    have ih := cut_sizes zs (s.drop z.toNat)
    simp only [cutE] at h ⊢
    by_cases a : z < 0
    · simp [a] at h
    · by_cases b : (s.length : Int) < z
      · simp [a, b] at h
      · by_cases c : (cutE (s.drop z.toNat) zs).2 = 0
        · match i, hi with
          | 0, _ => simp [a, b, c]; omega
          | i + 1, hi => simpa [a, b, c] using ih c i (by simpa using hi)
        · simp [a, b, c] at h

theorem strs_at (P : List (List UInt8)) (j : Nat) (h : j < P.length) : (strs P)[j]? = some (Value.string ⟨(P.getD j []).toArray⟩) := by
  simp [strs, List.getElem?_eq_getElem h]

theorem join_flat (l : List (List UInt8)) : Lib.join l [] = l.flatten := by
  cases l with
  | nil => rfl
  | cons x r => rw [Lib.join_cons]; simp [Lib.joinTail]

end Go.Proofs.Ytiocibllmaakkaa.W
