/-
  Plain mathematics for layer 11: plain bytes on a blank screen; line ends. No condition.
-/
import Derived.Test.YtekpbfbipkjibaaNPlain
namespace Go.Proofs.Ytekpbfbipkjibaa.N11

theorem blank_after {l : List UInt8} {n k : Nat} {b : UInt8} (hk : l.length = k) (hn : k < n) : (l ++ List.replicate (n - k) 32).set k b = (l ++ [b]) ++ List.replicate (n - (k + 1)) 32 := by
  rw [List.set_append_right _ _ (by omega), hk, Nat.sub_self, show n - k = (n - (k + 1)) + 1 by omega, List.replicate_succ, List.set_cons_zero]
  simp
theorem dm_step {wd k : Nat} (h : k % wd + 1 < wd) : (k + 1) % wd = k % wd + 1 ∧ (k + 1) / wd = k / wd := by
  have hp : 0 < wd := by omega
  have e : k + 1 = wd * (k / wd) + (k % wd + 1) := by have := Nat.div_add_mod k wd; omega
  constructor
  · rw [e, Nat.mul_add_mod, Nat.mod_eq_of_lt h]
  · rw [e, Nat.mul_add_div hp, Nat.div_eq_of_lt h, Nat.add_zero]
theorem dm_wrap {wd k : Nat} (hp : 0 < wd) (h : k % wd + 1 = wd) : (k + 1) % wd = 0 ∧ (k + 1) / wd = k / wd + 1 := by
  have e : k + 1 = wd * (k / wd + 1) := by have := Nat.div_add_mod k wd; rw [Nat.mul_add]; omega
  constructor
  · rw [e]; exact Nat.mul_mod_right _ _
  · have : (wd * (k / wd + 1)) / wd = k / wd + 1 := Nat.mul_div_cancel_left _ hp
    rw [← e] at this
    exact this
theorem put_take {wd ht : Nat} {l : List UInt8} (hs : ∀ b ∈ l, shown b = true) (hw : 1 ≤ wd) (hh : 1 ≤ ht) : ∀ k, k ≤ l.length → k < wd * ht → put wd ht (new wd ht) (l.take k) = ⟨k % wd, k / wd, l.take k ++ List.replicate (wd * ht - k) 32⟩
  | 0, _, _ => by simp [put, new]
  | k + 1, hk, hn => by
    have ih := put_take hs hw hh k (by omega) (by omega)
    have hkl : k < l.length := by omega
    have hsb := hs l[k] (List.getElem_mem hkl)
    have hp : 0 < wd := by omega
    have hdm := Nat.div_add_mod k wd
    rw [List.take_succ_eq_append_getElem hkl, put_snoc, ih]
    unfold step
    rw [if_pos hsb]
    show (if k % wd + 1 = wd then down wd ht ⟨k % wd + 1, k / wd, (l.take k ++ List.replicate (wd * ht - k) 32).set (k / wd * wd + k % wd) l[k]⟩ else ⟨k % wd + 1, k / wd, (l.take k ++ List.replicate (wd * ht - k) 32).set (k / wd * wd + k % wd) l[k]⟩) = _
    rw [Nat.mul_comm (k / wd) wd, hdm, blank_after (by rw [List.length_take]; omega) (by omega)]
    by_cases hx : k % wd + 1 = wd
    · rw [if_pos hx, (dm_wrap hp hx).1, (dm_wrap hp hx).2]
      unfold down
      have hy : k / wd + 1 < ht := by
        have e := (dm_wrap hp hx).2
        rw [← e]
        exact (Nat.div_lt_iff_lt_mul hp).2 (by rw [Nat.mul_comm]; exact hn)
      rw [if_pos hy]
    · rw [if_neg hx]
      have hx' : k % wd + 1 < wd := by have := Nat.mod_lt k hp; omega
      rw [(dm_step hx').1, (dm_step hx').2]
theorem put_few {wd ht : Nat} {l : List UInt8} (hs : ∀ b ∈ l, shown b = true) (hw : 1 ≤ wd) (hh : 1 ≤ ht) (hn : l.length < wd * ht) : put wd ht (new wd ht) l = ⟨l.length % wd, l.length / wd, l ++ List.replicate (wd * ht - l.length) 32⟩ := by
  have := put_take hs hw hh l.length (Nat.le_refl _) hn
  rwa [List.take_length] at this
theorem put_full {wd ht : Nat} {l : List UInt8} (hs : ∀ b ∈ l, shown b = true) (hw : 1 ≤ wd) (hh : 1 ≤ ht) (hn : l.length = wd * ht) : put wd ht (new wd ht) l = ⟨0, ht - 1, l.drop wd ++ List.replicate wd 32⟩ := by
  have hp : 0 < wd := by omega
  have hpos : 1 ≤ wd * ht := Nat.mul_pos hp hh
  obtain ⟨k, hk⟩ : ∃ k, k + 1 = wd * ht := ⟨wd * ht - 1, by omega⟩
  have hkl : k < l.length := by omega
  have ih := put_take hs hw hh k (by omega) (by omega)
  have hsb := hs l[k] (List.getElem_mem hkl)
  have hdm := Nat.div_add_mod k wd
  have e := List.take_succ_eq_append_getElem hkl
  rw [hk, ← hn, List.take_length] at e
  have hfull : (k + 1) % wd = 0 := by rw [hk]; exact Nat.mul_mod_right _ _
  have hx : k % wd + 1 = wd := by
    have h1 := Nat.mod_lt k hp
    by_cases hx : k % wd + 1 < wd
    · have := (dm_step hx).1; omega
    · omega
  have hy : k / wd + 1 = ht := by
    rw [← (dm_wrap hp hx).2, hk]; exact Nat.mul_div_cancel_left _ hp
  rw [e, put_snoc, ih]
  unfold step
  rw [if_pos hsb]
  show (if k % wd + 1 = wd then down wd ht ⟨k % wd + 1, k / wd, (l.take k ++ List.replicate (wd * ht - k) 32).set (k / wd * wd + k % wd) l[k]⟩ else ⟨k % wd + 1, k / wd, (l.take k ++ List.replicate (wd * ht - k) 32).set (k / wd * wd + k % wd) l[k]⟩) = _
  rw [Nat.mul_comm (k / wd) wd, hdm, blank_after (by rw [List.length_take]; omega) (by omega), if_pos hx]
  unfold down
  rw [if_neg (by show ¬ k / wd + 1 < ht; omega), ← hk, Nat.sub_self, List.replicate_zero, List.append_nil, ← e]
  show (⟨0, k / wd, l.drop wd ++ List.replicate wd 32⟩ : St) = _
  rw [show k / wd = ht - 1 by omega]

end Go.Proofs.Ytekpbfbipkjibaa.N11
