/-
  Plain mathematics for layer 3: what the filled text ends with. No condition.
-/
import Derived.Test.YtfdodmfkjbmilaaSPlain
namespace Go.Proofs.Ytfdodmfkjbmilaa.S
open Go.Proofs.Ytfdodmfkjbmilaa.W
set_option linter.unusedVariables false

theorem putL8 (n : Nat) : putL n 8 = [UInt8.ofNat (n / 256 ^ 7), UInt8.ofNat (n / 256 ^ 6), UInt8.ofNat (n / 256 ^ 5), UInt8.ofNat (n / 256 ^ 4), UInt8.ofNat (n / 256 ^ 3), UInt8.ofNat (n / 256 ^ 2), UInt8.ofNat (n / 256 ^ 1), UInt8.ofNat (n / 256 ^ 0)] := rfl

theorem padL_front (l : List UInt8) : ∃ r, padL l = (l ++ [128]) ++ r := ⟨_, by unfold padL; rw [List.append_assoc]; rfl⟩
theorem padL_prefix (l : List UInt8) : (l ++ [128]).isPrefixOf (padL l) = true := by
  obtain ⟨r, hr⟩ := padL_front l
  rw [List.isPrefixOf_iff_prefix, hr]
  exact List.prefix_append _ _
theorem padL_prefix' (l : List UInt8) : l.isPrefixOf (padL l) = true := by
  obtain ⟨r, hr⟩ := padL_front l
  rw [List.isPrefixOf_iff_prefix, hr, List.append_assoc]
  exact List.prefix_append _ _

theorem padL_split (l : List UInt8) : ∃ f, f.length = (padL l).length - 8 ∧ padL l = f ++ putL (8 * l.length) 8 :=
  ⟨l ++ 128 :: List.replicate (noughts l.length) 0, by rw [padL_length]; simp; omega, by unfold padL; simp⟩
theorem padL_last (l : List UInt8) : (padL l)[(padL l).length - 1]? = some (UInt8.ofNat (8 * l.length)) := by
  obtain ⟨f, hf, e⟩ := padL_split l
  have := padL_length l
  rw [e, putL8, List.getElem?_append_right (by simp)]
  simp
theorem padL_last2 (l : List UInt8) : (padL l)[(padL l).length - 2]? = some (UInt8.ofNat (8 * l.length / 256)) := by
  obtain ⟨f, hf, e⟩ := padL_split l
  have := padL_length l
  rw [e, putL8, List.getElem?_append_right (by simp)]
  simp

theorem getN_eq_of_append {a b : List UInt8} (h : a = b) : a.length = b.length := by rw [h]
theorem padL_inj {a b : List UInt8} (ha : a.length ≤ 1000000) (hb : b.length ≤ 1000000) (h : padL a = padL b) : a = b := by
  obtain ⟨f, hf, ea⟩ := padL_split a
  obtain ⟨g, hg, eb⟩ := padL_split b
  have hl : f.length = g.length := by rw [hf, hg, h]
  have h8 : putL (8 * a.length) 8 = putL (8 * b.length) 8 := (List.append_inj (ea.symm.trans (h.trans eb)) hl).2
  have hn : a.length = b.length := by
    rw [putL8, putL8] at h8
    simp only [List.cons.injEq, and_true] at h8
    obtain ⟨_, _, _, _, h3, h2, h1, h0⟩ := h8
    have k0 := congrArg UInt8.toNat h0
    have k1 := congrArg UInt8.toNat h1
    have k2 := congrArg UInt8.toNat h2
    have k3 := congrArg UInt8.toNat h3
    simp only [UInt8.toNat_ofNat', Nat.pow_zero, Nat.pow_one, Nat.div_one] at k0 k1 k2 k3
    omega
  have ha' : (padL a).take a.length = a := by obtain ⟨r, hr⟩ := padL_front a; rw [hr, List.append_assoc, List.take_left']; rfl
  have hb' : (padL b).take b.length = b := by obtain ⟨r, hr⟩ := padL_front b; rw [hr, List.append_assoc, List.take_left']; rfl
  rw [← ha', ← hb', h, hn]

end Go.Proofs.Ytfdodmfkjbmilaa.S
