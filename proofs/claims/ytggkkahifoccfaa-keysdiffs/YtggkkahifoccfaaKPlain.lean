/-
  Plain mathematics for layer 13: keys as a number and a text. No condition.
-/
import Derived.WalkKit
namespace Go.Proofs.Ytggkkahifoccfaa.K13

/-- A text without its first n bytes. -/
def cut (t : ByteArray) (n : Nat) : ByteArray := ⟨(t.data.toList.drop n).toArray⟩
theorem len_list (t : ByteArray) : t.data.toList.length = t.size := by simp
theorem cut_list (t : ByteArray) (n : Nat) : (cut t n).data.toList = t.data.toList.drop n := rfl
theorem cut_size (t : ByteArray) (n : Nat) : (cut t n).size = t.size - n := by
  rw [← len_list, cut_list, List.length_drop, len_list]
theorem eq_of {s t : ByteArray} (h : s.data.toList = t.data.toList) : s = t := by
  apply ByteArray.ext
  apply Array.ext'
  exact h
theorem cut_zero (t : ByteArray) : cut t 0 = t := eq_of (by rw [cut_list, List.drop_zero])
theorem cut_cut (t : ByteArray) (a b : Nat) : cut (cut t a) b = cut t (a + b) := eq_of (by rw [cut_list, cut_list, cut_list, List.drop_drop])
theorem cut_all (t : ByteArray) {n : Nat} (h : t.size ≤ n) : cut t n = ⟨#[]⟩ := eq_of (by rw [cut_list, List.drop_eq_nil_of_le (by rw [len_list]; exact h)])
theorem cut_min (t : ByteArray) (n : Nat) : cut t (min n t.size) = cut t n := by
  by_cases h : n ≤ t.size
  · rw [Nat.min_eq_left h]
  · rw [Nat.min_eq_right (by omega), cut_all t (Nat.le_refl _), cut_all t (by omega)]
theorem extract_cut (t : ByteArray) (n m : Nat) (h : m = t.size) : t.extract n m = cut t n := by
  subst h
  apply ByteArray.ext
  apply Array.ext'
  rw [cut_list]
  simp [ByteArray.data_extract]
  rw [List.take_of_length_le (by simp)]
theorem extract_all (t : ByteArray) : t.extract 0 t.size = t := by rw [extract_cut t 0 t.size rfl, cut_zero]
theorem extract_end (t : ByteArray) (n : Nat) (h : t.size ≤ n) : t.extract n t.size = ByteArray.empty := by rw [extract_cut t n t.size rfl, cut_all t h]; rfl
theorem app_list (s t : ByteArray) : (s ++ t).data.toList = s.data.toList ++ t.data.toList := by simp [ByteArray.data_append]
theorem app_assoc (s t u : ByteArray) : s ++ t ++ u = s ++ (t ++ u) := eq_of (by rw [app_list, app_list, app_list, app_list, List.append_assoc])
theorem cut_app (s t : ByteArray) : cut (s ++ t) s.size = t := eq_of (by rw [cut_list, app_list, ← len_list, List.drop_left])

/-- Keys without those ahead of a number: the number of the first one then. -/
def fgtN (f : Nat) (t : ByteArray) (n : Nat) : Nat := f + min (n - f) t.size
/-- ..: those that are left. -/
def fgtT (f : Nat) (t : ByteArray) (n : Nat) : ByteArray := cut t (n - f)
theorem fgt_end (f : Nat) (t : ByteArray) (n : Nat) : fgtN f t n + (fgtT f t n).size = f + t.size := by
  unfold fgtN fgtT; rw [cut_size]; omega
theorem fgt_none {f : Nat} {t : ByteArray} {n : Nat} (h : n ≤ f) : fgtN f t n = f ∧ fgtT f t n = t := by
  unfold fgtN fgtT; rw [show n - f = 0 by omega]; exact ⟨by simp, cut_zero t⟩
theorem fgt_some {f : Nat} {t : ByteArray} {n : Nat} (h : f ≤ n) (h2 : n ≤ f + t.size) : fgtN f t n = n := by unfold fgtN; omega

/-- Have two the same end, and, as far as both have them, the same bytes? -/
def Same (f : Nat) (t : ByteArray) (g : Nat) (u : ByteArray) : Prop := f + t.size = g + u.size ∧ (t.data.toList <:+ u.data.toList ∨ u.data.toList <:+ t.data.toList)
theorem Same.refl (f : Nat) (t : ByteArray) : Same f t f t := ⟨rfl, .inl (List.suffix_refl _)⟩
theorem Same.swap {f : Nat} {t : ByteArray} {g : Nat} {u : ByteArray} (h : Same f t g u) : Same g u f t := ⟨h.1.symm, h.2.symm⟩
theorem drop_suffix {a b : List UInt8} (h : a <:+ b ∨ b <:+ a) (n : Nat) : a.drop n <:+ b ∨ b <:+ a.drop n := by
  rcases h with h | h
  · exact .inl ((List.drop_suffix n a).trans h)
  · exact List.suffix_or_suffix_of_suffix (List.drop_suffix n a) h
theorem Same.forget {f : Nat} {t : ByteArray} {g : Nat} {u : ByteArray} (h : Same f t g u) (n : Nat) : Same (fgtN f t n) (fgtT f t n) g u :=
  ⟨by rw [fgt_end]; exact h.1, drop_suffix h.2 _⟩
theorem suf_app {a b s : List UInt8} (h : a <:+ b) : a ++ s <:+ b ++ s := by
  obtain ⟨c, rfl⟩ := h
  exact ⟨c, by rw [List.append_assoc]⟩
theorem Same.app {f : Nat} {t : ByteArray} {g : Nat} {u : ByteArray} (h : Same f t g u) (s : ByteArray) : Same f (t ++ s) g (u ++ s) := by
  refine ⟨by rw [ByteArray.size_append, ByteArray.size_append]; have := h.1; omega, ?_⟩
  rw [app_list, app_list]
  rcases h.2 with h | h
  · exact .inl (suf_app h)
  · exact .inr (suf_app h)
theorem suffix_iff {a b : List UInt8} (h : a.length ≤ b.length) : (a <:+ b ∨ b <:+ a) ↔ b.drop (b.length - a.length) = a := by
  constructor
  · intro hs
    have hab : a <:+ b := by
      rcases hs with hs | hs
      · exact hs
      · have := List.IsSuffix.eq_of_length hs (by have := hs.length_le; omega)
        rw [this]; exact List.suffix_refl _
    obtain ⟨c, rfl⟩ := hab
    rw [List.length_append, show c.length + a.length - a.length = c.length by omega, List.drop_left]
  · intro he
    exact .inl ⟨b.take (b.length - a.length), by
      have h2 := List.take_append_drop (b.length - a.length) b
      rwa [he] at h2⟩
theorem same_iff (f : Nat) (t : ByteArray) (g : Nat) (u : ByteArray) : (fgtN f t g = fgtN g u f ∧ fgtT f t g = fgtT g u f) ↔ Same f t g u := by
  have e1 := fgt_end f t g
  have e2 := fgt_end g u f
  have l1 := len_list t
  have l2 := len_list u
  constructor
  · rintro ⟨h1, h2⟩
    have he : f + t.size = g + u.size := by rw [← e1, ← e2, h1, h2]
    refine ⟨he, ?_⟩
    by_cases hfg : f ≤ g
    · have h3 := congrArg (·.data.toList) h2
      simp only [fgtT, cut_list] at h3
      rw [show f - g = 0 by omega, List.drop_zero] at h3
      rw [← h3]
      exact .inr (List.drop_suffix _ _)
    · have h3 := congrArg (·.data.toList) h2
      simp only [fgtT, cut_list] at h3
      rw [show g - f = 0 by omega, List.drop_zero] at h3
      rw [h3]
      exact .inl (List.drop_suffix _ _)
  · rintro ⟨he, hs⟩
    by_cases hfg : f ≤ g
    · have hl : u.data.toList.length ≤ t.data.toList.length := by omega
      have h3 := (suffix_iff hl).1 hs.symm
      refine ⟨by unfold fgtN; omega, eq_of ?_⟩
      simp only [fgtT, cut_list]
      rw [show f - g = 0 by omega, List.drop_zero, show g - f = t.data.toList.length - u.data.toList.length by omega]
      exact h3
    · have hl : t.data.toList.length ≤ u.data.toList.length := by omega
      have h3 := (suffix_iff hl).1 hs
      refine ⟨by unfold fgtN; omega, eq_of ?_⟩
      simp only [fgtT, cut_list]
      rw [show g - f = 0 by omega, List.drop_zero, show f - g = u.data.toList.length - t.data.toList.length by omega]
      exact h3.symm
/-- Byte by byte, from the ends on. -/
theorem same_bytes (f : Nat) (t : ByteArray) (g : Nat) (u : ByteArray) (he : f + t.size = g + u.size) :
    Same f t g u ↔ ∀ i, 1 ≤ i → i ≤ t.size → i ≤ u.size → t.data.toList.getD (t.size - i) 0 = u.data.toList.getD (u.size - i) 0 := by
  have key : ∀ a b : List UInt8, a.length ≤ b.length → ((a <:+ b ∨ b <:+ a) ↔ ∀ i, 1 ≤ i → i ≤ a.length → a.getD (a.length - i) 0 = b.getD (b.length - i) 0) := by
    intro a b h
    rw [suffix_iff h]
    constructor
    · intro e i h1 h2
      have := congrArg (fun l => l.getD (a.length - i) 0) e
      simp only [List.getD_eq_getElem?_getD, List.getElem?_drop] at this ⊢
      rw [← this, show b.length - a.length + (a.length - i) = b.length - i by omega]
    · intro e
      apply List.ext_getElem?
      intro j
      by_cases hj : j < a.length
      · have := e (a.length - j) (by omega) (by omega)
        rw [show a.length - (a.length - j) = j by omega, show b.length - (a.length - j) = b.length - a.length + j by omega] at this
        rw [List.getElem?_drop, List.getElem?_eq_getElem hj, List.getElem?_eq_getElem (show b.length - a.length + j < b.length by omega)]
        rw [List.getD_eq_getElem?_getD, List.getD_eq_getElem?_getD, List.getElem?_eq_getElem hj, List.getElem?_eq_getElem (show b.length - a.length + j < b.length by omega)] at this
        simpa using this.symm
      · rw [List.getElem?_eq_none (by rw [List.length_drop]; omega), List.getElem?_eq_none (by omega)]
  unfold Same
  rw [← len_list t, ← len_list u]
  constructor
  · rintro ⟨_, h⟩ i h1 h2 h3
    by_cases hl : t.data.toList.length ≤ u.data.toList.length
    · exact (key _ _ hl).1 h i h1 h2
    · exact ((key _ _ (by omega)).1 h.symm i h1 h3).symm
  · intro h
    refine ⟨by rw [len_list, len_list]; exact he, ?_⟩
    by_cases hl : t.data.toList.length ≤ u.data.toList.length
    · exact (key _ _ hl).2 (fun i h1 h2 => h i h1 h2 (by omega))
    · exact ((key _ _ (by omega)).2 (fun i h1 h2 => (h i h1 (by omega) h2).symm)).symm

/-- Keys with some more, without their front as far as there were more than 256. -/
def doN (f : Nat) (t s : ByteArray) : Nat := fgtN f (t ++ s) (f + (t ++ s).size - 256)
def doT (f : Nat) (t s : ByteArray) : ByteArray := fgtT f (t ++ s) (f + (t ++ s).size - 256)
theorem do_end (f : Nat) (t s : ByteArray) : doN f t s + (doT f t s).size = f + t.size + s.size := by
  unfold doN doT; rw [fgt_end, ByteArray.size_append]; omega
theorem do_size (f : Nat) (t s : ByteArray) : (doT f t s).size ≤ 256 := by
  unfold doT fgtT; rw [cut_size]; omega
theorem do_short {f : Nat} {t s : ByteArray} (h : (t ++ s).size ≤ 256) : doN f t s = f ∧ doT f t s = t ++ s := fgt_none (by omega)
theorem do_long {f : Nat} {t s : ByteArray} (h : 256 < (t ++ s).size) : doN f t s = f + ((t ++ s).size - 256) ∧ doT f t s = cut (t ++ s) ((t ++ s).size - 256) := by
  unfold doN doT fgtN fgtT
  rw [show f + (t ++ s).size - 256 - f = (t ++ s).size - 256 by omega]
  exact ⟨by omega, rfl⟩

/-- Those from a number on, and the error. -/
def sinceT (f : Nat) (t : ByteArray) (n : Nat) : ByteArray := if n < f ∨ f + t.size < n then ⟨#[]⟩ else cut t (n - f)
def sinceE (f : Nat) (t : ByteArray) (n : Nat) : Int := if n < f ∨ f + t.size < n then 7 else 0
theorem since_no {f : Nat} {t : ByteArray} {n : Nat} (h : n < f ∨ f + t.size < n) : sinceT f t n = ⟨#[]⟩ ∧ sinceE f t n = 7 := by
  unfold sinceT sinceE; rw [if_pos h, if_pos h]; exact ⟨rfl, rfl⟩
theorem since_yes {f : Nat} {t : ByteArray} {n : Nat} (h1 : f ≤ n) (h2 : n ≤ f + t.size) : sinceT f t n = cut t (n - f) ∧ sinceE f t n = 0 := by
  unfold sinceT sinceE; rw [if_neg (by omega), if_neg (by omega)]; exact ⟨rfl, rfl⟩
theorem since_all (f : Nat) (t : ByteArray) : sinceT f t f = t ∧ sinceE f t f = 0 := by
  have := since_yes (f := f) (t := t) (n := f) (Nat.le_refl _) (by omega)
  rw [show f - f = 0 by omega, cut_zero] at this; exact this
/-- Are two the same, as far as both have them? -/
def sameB (f : Nat) (t : ByteArray) (g : Nat) (u : ByteArray) : Bool := decide (fgtN f t g = fgtN g u f ∧ fgtT f t g = fgtT g u f)
theorem sameB_iff (f : Nat) (t : ByteArray) (g : Nat) (u : ByteArray) : sameB f t g u = true ↔ Same f t g u := by
  unfold sameB; rw [decide_eq_true_eq]; exact same_iff f t g u

end Go.Proofs.Ytggkkahifoccfaa.K13
