/-
  Plain mathematics for layer 1: what a text is cut into. No condition.
-/
import Derived.WalkKit
namespace Go.Proofs.Ytngoighdpmeepaa.W

/-- The parts of a text by sizes, and the error: what word.Cut answers. -/
def cutE (s : List UInt8) : List Int → List (List UInt8) × Int
  | [] => ([s], 0)
  | z :: zs => if z < 0 then ([], 2) else if (s.length : Int) < z then ([], 3) else
      if (cutE (s.drop z.toNat) zs).2 = 0 then (s.take z.toNat :: (cutE (s.drop z.toNat) zs).1, 0) else ([], (cutE (s.drop z.toNat) zs).2)

/-- What is done, ahead of what is left to do. -/
def comb (d : List (List UInt8)) (r : List (List UInt8) × Int) : List (List UInt8) × Int := if r.2 = 0 then (d ++ r.1, 0) else ([], r.2)

theorem comb_nil (s : List UInt8) (zs : List Int) : comb [] (cutE s zs) = cutE s zs := by
  unfold comb
  cases zs with
  | nil => simp [cutE]
  | cons z zs =>
    unfold cutE
    by_cases a : z < 0
    · simp [a]
    · by_cases b : (s.length : Int) < z
      · simp [a, b]
      · by_cases c : (cutE (s.drop z.toNat) zs).2 = 0
        · simp [a, b, c]
        · simp [a, b, c]

theorem comb_end (d : List (List UInt8)) (s : List UInt8) : comb d (cutE s []) = (d ++ [s], 0) := by simp [comb, cutE]
theorem comb_arg (d : List (List UInt8)) (s : List UInt8) {z : Int} (zs : List Int) (h : z < 0) : comb d (cutE s (z :: zs)) = ([], 2) := by simp [comb, cutE, h]
theorem comb_short (d : List (List UInt8)) (s : List UInt8) {z : Int} (zs : List Int) (h : ¬ z < 0) (h' : (s.length : Int) < z) : comb d (cutE s (z :: zs)) = ([], 3) := by simp [comb, cutE, h, h']
theorem comb_step (d : List (List UInt8)) (s : List UInt8) {z : Int} (zs : List Int) (h : ¬ z < 0) (h' : ¬ (s.length : Int) < z) : comb d (cutE s (z :: zs)) = comb (d ++ [s.take z.toNat]) (cutE (s.drop z.toNat) zs) := by
  by_cases c : (cutE (s.drop z.toNat) zs).2 = 0
  · simp [comb, cutE, h, h', c]
  · simp [comb, cutE, h, h', c]

theorem drop_get {zs : List Int} {k : Nat} (h : k < zs.length) : zs.drop k = zs.getD k 0 :: zs.drop (k + 1) := by
  rw [List.drop_eq_getElem_cons h, List.getD_eq_getElem?_getD, List.getElem?_eq_getElem h]; rfl

/-- The cells of texts. -/
def strs (l : List (List UInt8)) : List Value := l.map fun x => Value.string ⟨x.toArray⟩
theorem strs_snoc (l : List (List UInt8)) (x : List UInt8) : strs (l ++ [x]) = strs l ++ [Value.string ⟨x.toArray⟩] := by simp [strs]

theorem arr_take (l : List UInt8) (z : Nat) : (⟨l.toArray⟩ : ByteArray).extract 0 z = ⟨(l.take z).toArray⟩ := by
  apply ByteArray.ext
  simp [ByteArray.data_extract]
theorem arr_drop (l : List UInt8) (z : Nat) : (⟨l.toArray⟩ : ByteArray).extract z (⟨l.toArray⟩ : ByteArray).size = ⟨(l.drop z).toArray⟩ := by
  apply ByteArray.ext
  have : (⟨l.toArray⟩ : ByteArray).size = l.length := by simp [ByteArray.size]
  rw [this]
  simp [ByteArray.data_extract]
  rw [List.take_of_length_le (by simp)]

end Go.Proofs.Ytngoighdpmeepaa.W
