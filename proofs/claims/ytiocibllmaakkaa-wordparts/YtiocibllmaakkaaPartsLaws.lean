/-
  Plain mathematics for layer 1: cut by some sizes, and what is left by others. No condition.
-/
import Derived.Test.YtiocibllmaakkaaCutLaws
namespace Go.Proofs.Ytiocibllmaakkaa.W

theorem cut_length : ∀ (zs : List Int) (s : List UInt8), (cutE s zs).2 = 0 → (cutE s zs).1.length = zs.length + 1
  | [], s, _ => rfl
  | z :: zs, s, h => by
    have ih := cut_length zs (s.drop z.toNat)
    simp only [cutE] at h ⊢
    by_cases a : z < 0
    · simp [a] at h
    · by_cases b : (s.length : Int) < z
      · simp [a, b] at h
      · by_cases c : (cutE (s.drop z.toNat) zs).2 = 0
        · simp [a, b, c, ih c]
        · simp [a, b, c] at h

theorem cut_app_err : ∀ (a b : List Int) (s : List UInt8), (cutE s a).2 ≠ 0 → cutE s (a ++ b) = ([], (cutE s a).2)
  | [], b, s, h => absurd rfl h
  | z :: a, b, s, h => by
    have ih := cut_app_err a b (s.drop z.toNat)
    simp only [cutE, List.cons_append] at h ⊢
    by_cases x : z < 0
    · simp [x]
    · by_cases y : (s.length : Int) < z
      · simp [x, y]
      · by_cases c : (cutE (s.drop z.toNat) a).2 = 0
        · simp [x, y, c] at h
        · simp [x, y, c, ih c]

theorem cut_app : ∀ (a b : List Int) (s : List UInt8), (cutE s a).2 = 0 → cutE s (a ++ b) =
    if (cutE ((cutE s a).1.getD a.length []) b).2 = 0 then ((cutE s a).1.take a.length ++ (cutE ((cutE s a).1.getD a.length []) b).1, 0) else ([], (cutE ((cutE s a).1.getD a.length []) b).2)
  | [], b, s, _ => by
    have h := comb_nil s b
    simp only [comb] at h
    simp only [cutE, List.nil_append, List.length_nil, List.take_zero, List.getD_eq_getElem?_getD, List.getElem?_cons_zero, Option.getD_some]
    exact h.symm
  | z :: a, b, s, h => by
    have ih := cut_app a b (s.drop z.toNat)
    by_cases x : z < 0
    · simp [cutE, x] at h
    · by_cases y : (s.length : Int) < z
      · simp [cutE, x, y] at h
      · by_cases c : (cutE (s.drop z.toNat) a).2 = 0
        · have e1 : cutE s (z :: a) = (s.take z.toNat :: (cutE (s.drop z.toNat) a).1, 0) := by simp [cutE, x, y, c]
          have ih := ih c
          rw [e1, List.cons_append]
          simp only [List.length_cons, List.getD_cons_succ, List.take_succ_cons]
          generalize (cutE (s.drop z.toNat) a).1 = P at ih
          by_cases d : (cutE (P.getD a.length []) b).2 = 0
          · rw [if_pos d] at ih ⊢
            simp [cutE, x, y, ih]
          · rw [if_neg d] at ih ⊢
            simp [cutE, x, y, ih]
            simpa using d
        · simp [cutE, x, y, c] at h

theorem cut_part_le : ∀ (zs : List Int) (s : List UInt8) (i : Nat), ((cutE s zs).1.getD i []).length ≤ s.length
  | [], s, i => by
    simp only [cutE]
    match i with
    | 0 => simp
    | i + 1 => simp
  | z :: zs, s, i => by
    have ih := cut_part_le zs (s.drop z.toNat)
    simp only [cutE]
    by_cases x : z < 0
    · simp [x]
    · by_cases y : (s.length : Int) < z
      · simp [x, y]
      · by_cases c : (cutE (s.drop z.toNat) zs).2 = 0
        · match i with
          | 0 => simp [x, y, c]; omega
          | i + 1 =>
            have := ih i
            simp only [x, y, c, if_false, if_true, List.getD_cons_succ]
            rw [List.length_drop] at this
            omega
        · simp [x, y, c]

end Go.Proofs.Ytiocibllmaakkaa.W
