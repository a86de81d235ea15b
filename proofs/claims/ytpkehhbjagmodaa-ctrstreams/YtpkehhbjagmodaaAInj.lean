/-
  Plain mathematics for layer 5: unlike blocks are encrypted unlike, by one key; the laws of the field. No condition.
-/
import Derived.Test.YtpkehhbjagmodaaALaws
namespace Go.Proofs.Ytpkehhbjagmodaa.E
open Go.Proofs.Ytpkehhbjagmodaa.W
set_option linter.unusedVariables false

theorem ext16 {a b : List UInt8} (ha : a.length = 16) (hb : b.length = 16) (h : ∀ i, i < 16 → a.getD i 0 = b.getD i 0) : a = b := by
  apply List.ext_getElem (by omega)
  intro i h1 h2
  have := h i (by omega)
  simpa [List.getD_eq_getElem?_getD, h1, h2] using this
theorem xor_left_cancel (x y : UInt8) : x ^^^ (x ^^^ y) = y := by rw [← UInt8.xor_assoc]; simp
theorem xor_left_comm (x y z : UInt8) : x ^^^ (y ^^^ z) = y ^^^ (x ^^^ z) := by rw [← UInt8.xor_assoc, UInt8.xor_comm x y, UInt8.xor_assoc]
theorem xor_right_inj {a b k : UInt8} (h : a ^^^ k = b ^^^ k) : a = b := by
  have := congrArg (fun z => k ^^^ z) h
  simp only [UInt8.xor_comm a k, UInt8.xor_comm b k, xor_left_cancel] at this
  exact this
theorem over_at (b k : List UInt8) (i : Nat) (h : i < 16) : (over b k).getD i 0 = b.getD i 0 ^^^ k.getD i 0 := by simp [over, h]
theorem over_inj {a b k : List UInt8} (ha : a.length = 16) (hb : b.length = 16) (h : over a k = over b k) : a = b := by
  refine ext16 ha hb fun i hi => ?_
  have := congrArg (fun l => l.getD i 0) h
  simp only [over_at _ _ _ hi] at this
  exact xor_right_inj this

/-- What the box makes is made of one byte alone. -/
def isub : List UInt8 := (List.range 256).map fun y => UInt8.ofNat ((List.range 256).findIdx fun x => sbox.getD x 0 == UInt8.ofNat y)
set_option maxRecDepth 20000 in
theorem isub_sub : ∀ n, n < 256 → isub.getD (sbox.getD n 0).toNat 0 = UInt8.ofNat n := by decide +kernel
theorem sub_inj {a b : UInt8} (h : sub a = sub b) : a = b := by
  have h1 := isub_sub a.toNat a.toNat_lt
  have h2 := isub_sub b.toNat b.toNat_lt
  unfold sub at h
  rw [h] at h1
  rw [h1] at h2
  simpa using h2
theorem shift_at (b : List UInt8) (i : Nat) (h : i < 16) : (shift b).getD i 0 = sub (b.getD ((i + i % 4 * 4) % 16) 0) := by simp [shift, h]
theorem back_at : ∀ j, j < 16 → (j + 12 * (j % 4)) % 16 < 16 ∧ ((j + 12 * (j % 4)) % 16 + (j + 12 * (j % 4)) % 16 % 4 * 4) % 16 = j := by decide
theorem shift_inj {a b : List UInt8} (ha : a.length = 16) (hb : b.length = 16) (h : shift a = shift b) : a = b := by
  refine ext16 ha hb fun j hj => ?_
  obtain ⟨h1, h2⟩ := back_at j hj
  have := congrArg (fun l => l.getD ((j + 12 * (j % 4)) % 16) 0) h
  simp only [shift_at _ _ h1, h2] at this
  exact sub_inj this

theorem mix_at (b : List UInt8) (i : Nat) (h : i < 16) : (mix b).getD i 0 = mix1 (b.getD (i / 4 * 4 + i % 4) 0) (b.getD (i / 4 * 4 + (i % 4 + 1) % 4) 0) (b.getD (i / 4 * 4 + (i % 4 + 2) % 4) 0) (b.getD (i / 4 * 4 + (i % 4 + 3) % 4) 0) := by simp [mix, h]
theorem mix_two (a b c d : UInt8) : mix1 (mix1 a b c d) (mix1 b c d a) (mix1 c d a b) (mix1 d a b c) = dbl (dbl a) ^^^ a ^^^ dbl (dbl c) := by
  simp only [mix1, dbl_xor]
  generalize dbl (dbl a) = p
  generalize dbl (dbl b) = q
  generalize dbl (dbl c) = r
  generalize dbl (dbl d) = s
  generalize dbl a = t
  generalize dbl b = u
  generalize dbl c = v
  generalize dbl d = z
  simp only [UInt8.xor_comm, xor_left_comm, xor_left_cancel, UInt8.xor_self, UInt8.xor_zero]
theorem mix_four (a c : UInt8) : dbl (dbl (dbl (dbl a) ^^^ a ^^^ dbl (dbl c))) ^^^ (dbl (dbl a) ^^^ a ^^^ dbl (dbl c)) ^^^ dbl (dbl (dbl (dbl c) ^^^ c ^^^ dbl (dbl a))) = a := by
  simp only [dbl_xor]
  generalize dbl (dbl (dbl (dbl a))) = p
  generalize dbl (dbl (dbl (dbl c))) = q
  generalize dbl (dbl a) = r
  generalize dbl (dbl c) = s
  simp only [UInt8.xor_comm, xor_left_comm, xor_left_cancel, UInt8.xor_self, UInt8.xor_zero]
theorem idx4 : ∀ i, i < 16 → ∀ j, j < 4 → i / 4 * 4 + (i % 4 + j) % 4 < 16 ∧ (i / 4 * 4 + (i % 4 + j) % 4) / 4 = i / 4 ∧ (i / 4 * 4 + (i % 4 + j) % 4) % 4 = (i % 4 + j) % 4 ∧ i / 4 * 4 + i % 4 = i := by decide
theorem mod4 (x j : Nat) : ((x + j) % 4 + 1) % 4 = (x + (j + 1)) % 4 ∧ ((x + j) % 4 + 2) % 4 = (x + (j + 2)) % 4 ∧ ((x + j) % 4 + 3) % 4 = (x + (j + 3)) % 4 := by omega
theorem mix2_at (b : List UInt8) (i : Nat) (h : i < 16) : (mix (mix b)).getD i 0 = dbl (dbl (b.getD i 0)) ^^^ b.getD i 0 ^^^ dbl (dbl (b.getD (i / 4 * 4 + (i % 4 + 2) % 4) 0)) := by
  obtain ⟨a1, a2, a3, _⟩ := idx4 i h 1 (by decide)
  obtain ⟨b1, b2, b3, _⟩ := idx4 i h 2 (by decide)
  obtain ⟨c1, c2, c3, c4⟩ := idx4 i h 3 (by decide)
  have e0 : (i % 4 + 4) % 4 = i % 4 := by omega
  have e1 : (i % 4 + 5) % 4 = (i % 4 + 1) % 4 := by omega
  have e2 : (i % 4 + 6) % 4 = (i % 4 + 2) % 4 := by omega
  rw [mix_at _ _ h, c4, mix_at _ _ h, mix_at _ _ a1, mix_at _ _ b1, mix_at _ _ c1]
  simp only [a2, a3, b2, b3, c2, c3, c4, (mod4 _ _).1, (mod4 _ _).2.1, (mod4 _ _).2.2, Nat.reduceAdd, e0, e1, e2]
  exact mix_two _ _ _ _
theorem mix4 {b : List UInt8} (hb : b.length = 16) : mix (mix (mix (mix b))) = b := by
  refine ext16 (mix_length _) hb fun i h => ?_
  obtain ⟨b1, b2, b3, b4⟩ := idx4 i h 2 (by decide)
  have e0 : ((i % 4 + 2) % 4 + 2) % 4 = i % 4 := by omega
  rw [mix2_at _ _ h, mix2_at _ _ h, mix2_at _ _ b1]
  simp only [b2, b3, b4, e0]
  exact mix_four _ _
theorem mix_inj {a b : List UInt8} (ha : a.length = 16) (hb : b.length = 16) (h : mix a = mix b) : a = b := by
  have := mix4 ha
  rw [h, mix4 hb] at this
  exact this.symm
theorem st_inj {k a b : List UInt8} (ha : a.length = 16) (hb : b.length = 16) : ∀ i, st k a i = st k b i → a = b
  | 0, h => over_inj ha hb h
  | i + 1, h => st_inj ha hb i (shift_inj (st_length _ _ _) (st_length _ _ _) (mix_inj (shift_length _) (shift_length _) (over_inj (mix_length _) (mix_length _) h)))
/-- Unlike blocks are encrypted unlike. -/
theorem enc_inj {k a b : List UInt8} (ha : a.length = 16) (hb : b.length = 16) (h : enc k a = enc k b) : a = b :=
  st_inj ha hb 9 (shift_inj (st_length _ _ _) (st_length _ _ _) (over_inj (shift_length _) (shift_length _) h))

end Go.Proofs.Ytpkehhbjagmodaa.E
