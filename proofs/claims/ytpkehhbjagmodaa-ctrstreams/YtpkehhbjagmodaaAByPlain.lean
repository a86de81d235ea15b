/-
  Plain mathematics for layer 5: the document's state, by rows and columns. No condition.
-/
import Derived.Test.YtpkehhbjagmodaaAWordsPlain
import Derived.Test.YtpkehhbjagmodaaAInj
import Derived.Test.YtpkehhbjagmodaaAField
namespace Go.Proofs.Ytpkehhbjagmodaa.E
open Go.Proofs.Ytpkehhbjagmodaa.W
set_option linter.unusedVariables false

/-- The block by rows and columns. -/
def tp (q : Nat) : Nat := q % 4 * 4 + q / 4
theorem tp_lt {q : Nat} (h : q < 16) : tp q < 16 := by unfold tp; omega
theorem tp_tp : ∀ q, q < 16 → tp (tp q) = q := by decide
def tr (X : List UInt8) : List UInt8 := (List.range 16).map fun q => X.getD (tp q) 0
theorem tr_length (X : List UInt8) : (tr X).length = 16 := by simp [tr]
theorem tr_at (X : List UInt8) (q : Nat) (h : q < 16) : (tr X).getD q 0 = X.getD (tp q) 0 := by simp [tr, h]
theorem tr_back (X : List UInt8) (i : Nat) (h : i < 16) : (tr X).getD (tp i) 0 = X.getD i 0 := by rw [tr_at _ _ (tp_lt h), tp_tp i h]

/-- So many cells filled, column by column. -/
def fillT (F o : List UInt8) (j : Nat) : List UInt8 := (List.range 16).map fun q => if tp q < j then F.getD q 0 else o.getD q 0
theorem fillT_length (F o : List UInt8) (j : Nat) : (fillT F o j).length = 16 := by simp [fillT]
theorem fillT_at (F o : List UInt8) (j q : Nat) (h : q < 16) : (fillT F o j).getD q 0 = if tp q < j then F.getD q 0 else o.getD q 0 := by simp [fillT, h]
theorem fillT_zero {F o : List UInt8} (ho : o.length = 16) : fillT F o 0 = o := by
  refine ext16 (fillT_length _ _ _) ho fun q h => ?_
  rw [fillT_at _ _ _ _ h, if_neg (by omega)]
theorem fillT_full {F o : List UInt8} (hF : F.length = 16) : fillT F o 16 = F := by
  refine ext16 (fillT_length _ _ _) hF fun q h => ?_
  rw [fillT_at _ _ _ _ h, if_pos (tp_lt h)]
theorem getD_set (l : List UInt8) (i q : Nat) (x : UInt8) (hq : q < l.length) : (l.set i x).getD q 0 = if i = q then x else l.getD q 0 := by
  rw [List.getD_eq_getElem?_getD, List.getElem?_set]
  by_cases e : i = q
  · subst e; rw [if_pos rfl, if_pos hq, if_pos rfl]; rfl
  · rw [if_neg e, if_neg e, List.getD_eq_getElem?_getD]
theorem fillT_step (F o : List UInt8) (j : Nat) (h : j < 16) : (fillT F o j).set (tp j) (F.getD (tp j) 0) = fillT F o (j + 1) := by
  refine ext16 (by rw [List.length_set, fillT_length]) (fillT_length _ _ _) fun q hq => ?_
  rw [getD_set _ _ _ _ (by rw [fillT_length]; exact hq), fillT_at _ _ _ _ hq, fillT_at _ _ _ _ hq]
  by_cases e : tp j = q
  · subst e; rw [if_pos rfl, tp_tp j h, if_pos (by omega)]
  · rw [if_neg e]
    have hne : tp q ≠ j := fun h' => e (by rw [← h', tp_tp q hq])
    by_cases hl : tp q < j
    · rw [if_pos hl, if_pos (by omega)]
    · rw [if_neg hl, if_neg (by omega)]

/-- So many columns mixed. -/
def mixC (Y : List UInt8) (c : Nat) : List UInt8 := (List.range 16).map fun q => if q % 4 < c then (tr (mix Y)).getD q 0 else (tr Y).getD q 0
theorem mixC_length (Y : List UInt8) (c : Nat) : (mixC Y c).length = 16 := by simp [mixC]
theorem mixC_at (Y : List UInt8) (c q : Nat) (h : q < 16) : (mixC Y c).getD q 0 = if q % 4 < c then (tr (mix Y)).getD q 0 else (tr Y).getD q 0 := by simp [mixC, h]
theorem mixC_zero (Y : List UInt8) : mixC Y 0 = tr Y := by
  refine ext16 (mixC_length _ _) (tr_length _) fun q h => ?_
  rw [mixC_at _ _ _ h, if_neg (by omega)]
theorem mixC_full (Y : List UInt8) : mixC Y 4 = tr (mix Y) := by
  refine ext16 (mixC_length _ _) (tr_length _) fun q h => ?_
  rw [mixC_at _ _ _ h, if_pos (by omega)]
theorem mixC_now (Y : List UInt8) (c r : Nat) (hc : c < 4) (hr : r < 4) : (mixC Y c).getD (r * 4 + c) 0 = Y.getD (4 * c + r) 0 := by
  rw [mixC_at _ _ _ (by omega), if_neg (by omega), tr_at _ _ (by omega)]
  congr 1; unfold tp; omega
theorem mixC_now4 (Y : List UInt8) (c : Nat) (hc : c < 4) : (mixC Y c).getD c 0 = Y.getD (4 * c) 0 ∧ (mixC Y c).getD (4 + c) 0 = Y.getD (4 * c + 1) 0 ∧ (mixC Y c).getD (8 + c) 0 = Y.getD (4 * c + 2) 0 ∧ (mixC Y c).getD (12 + c) 0 = Y.getD (4 * c + 3) 0 := by
  have h0 := mixC_now Y c 0 hc (by decide)
  rw [Nat.zero_mul, Nat.zero_add, Nat.add_zero] at h0
  exact ⟨h0, mixC_now Y c 1 hc (by decide), mixC_now Y c 2 hc (by decide), mixC_now Y c 3 hc (by decide)⟩
theorem mixC_step (Y : List UInt8) (c : Nat) (hc : c < 4) :
    ((((mixC Y c).set c ((mix Y).getD (4 * c) 0)).set (4 + c) ((mix Y).getD (4 * c + 1) 0)).set (8 + c) ((mix Y).getD (4 * c + 2) 0)).set (12 + c) ((mix Y).getD (4 * c + 3) 0) = mixC Y (c + 1) := by
  have hv : ∀ r, r < 4 → (tr (mix Y)).getD (r * 4 + c) 0 = (mix Y).getD (4 * c + r) 0 := fun r hr => by
    rw [tr_at _ _ (by omega)]; congr 1; unfold tp; omega
  refine ext16 (by simp [mixC_length]) (mixC_length _ _) fun q hq => ?_
  rw [getD_set _ _ _ _ (by simp [mixC_length]; omega), getD_set _ _ _ _ (by simp [mixC_length]; omega), getD_set _ _ _ _ (by simp [mixC_length]; omega), getD_set _ _ _ _ (by rw [mixC_length]; omega), mixC_at _ _ _ hq, mixC_at _ _ _ hq]
  by_cases e3 : 12 + c = q
  · rw [if_pos e3, if_pos (by omega), ← e3, show 12 + c = 3 * 4 + c from rfl, hv 3 (by omega)]
  · rw [if_neg e3]
    by_cases e2 : 8 + c = q
    · rw [if_pos e2, if_pos (by omega), ← e2, show 8 + c = 2 * 4 + c from rfl, hv 2 (by omega)]
    · rw [if_neg e2]
      by_cases e1 : 4 + c = q
      · rw [if_pos e1, if_pos (by omega), ← e1, show 4 + c = 1 * 4 + c from rfl, hv 1 (by omega)]
      · rw [if_neg e1]
        by_cases e0 : c = q
        · rw [if_pos e0, if_pos (by omega), ← e0]; have := hv 0 (by omega); rw [Nat.zero_mul, Nat.zero_add, Nat.add_zero] at this; exact this.symm
        · rw [if_neg e0]
          by_cases hl : q % 4 < c
          · rw [if_pos hl, if_pos (by omega)]
          · rw [if_neg hl, if_neg (by omega)]
theorem mul_three (a : UInt8) : mul a 3 = dbl a ^^^ a := by
  rw [show (3 : UInt8) = 2 ^^^ 1 from by decide, mul_right, mul_two]
  congr 1
  have : ∀ n, n < 256 → mul (UInt8.ofNat n) 1 = UInt8.ofNat n := by decide +kernel
  have := this a.toNat a.toNat_lt
  rwa [UInt8.ofNat_toNat] at this
/-- A column mixed, as the document says. -/
theorem mix_col (Y : List UInt8) (c : Nat) (hc : c < 4) (a b d e : UInt8) (ha : Y.getD (4 * c) 0 = a) (hb : Y.getD (4 * c + 1) 0 = b) (hd : Y.getD (4 * c + 2) 0 = d) (he : Y.getD (4 * c + 3) 0 = e) :
    (mix Y).getD (4 * c) 0 = dbl a ^^^ (dbl b ^^^ b) ^^^ d ^^^ e ∧ (mix Y).getD (4 * c + 1) 0 = a ^^^ dbl b ^^^ (dbl d ^^^ d) ^^^ e ∧ (mix Y).getD (4 * c + 2) 0 = a ^^^ b ^^^ dbl d ^^^ (dbl e ^^^ e) ∧ (mix Y).getD (4 * c + 3) 0 = (dbl a ^^^ a) ^^^ b ^^^ d ^^^ dbl e := by
  have h4 : ∀ r, r < 4 → (4 * c + r) / 4 * 4 = 4 * c ∧ (4 * c + r) % 4 = r := fun r hr => by omega
  subst ha; subst hb; subst hd; subst he
  refine ⟨?_, ?_, ?_, ?_⟩
  · have := mix_at Y (4 * c + 0) (by omega)
    rw [(h4 0 (by decide)).1, (h4 0 (by decide)).2] at this
    rw [Nat.add_zero] at this
    rw [this]; unfold mix1
    show dbl (Y.getD (4 * c) 0) ^^^ dbl (Y.getD (4 * c + 1) 0) ^^^ Y.getD (4 * c + 1) 0 ^^^ Y.getD (4 * c + 2) 0 ^^^ Y.getD (4 * c + 3) 0 = _
    ac_rfl
  · rw [mix_at Y (4 * c + 1) (by omega), (h4 1 (by decide)).1, (h4 1 (by decide)).2]; unfold mix1
    show dbl (Y.getD (4 * c + 1) 0) ^^^ dbl (Y.getD (4 * c + 2) 0) ^^^ Y.getD (4 * c + 2) 0 ^^^ Y.getD (4 * c + 3) 0 ^^^ Y.getD (4 * c) 0 = _
    ac_rfl
  · rw [mix_at Y (4 * c + 2) (by omega), (h4 2 (by decide)).1, (h4 2 (by decide)).2]; unfold mix1
    show dbl (Y.getD (4 * c + 2) 0) ^^^ dbl (Y.getD (4 * c + 3) 0) ^^^ Y.getD (4 * c + 3) 0 ^^^ Y.getD (4 * c) 0 ^^^ Y.getD (4 * c + 1) 0 = _
    ac_rfl
  · rw [mix_at Y (4 * c + 3) (by omega), (h4 3 (by decide)).1, (h4 3 (by decide)).2]; unfold mix1
    show dbl (Y.getD (4 * c + 3) 0) ^^^ dbl (Y.getD (4 * c) 0) ^^^ Y.getD (4 * c) 0 ^^^ Y.getD (4 * c + 1) 0 ^^^ Y.getD (4 * c + 2) 0 = _
    ac_rfl
theorem shift_ix : ∀ r, r < 4 → ∀ c, c < 4 → tp (r * 4 + (c + r) % 4) = (tp (r * 4 + c) + tp (r * 4 + c) % 4 * 4) % 16 := by decide
/-- The box over a row that is turned. -/
theorem shift_tr (X : List UInt8) (r c : Nat) (hr : r < 4) (hc : c < 4) : sub ((tr X).getD (r * 4 + (c + r) % 4) 0) = (tr (shift X)).getD (r * 4 + c) 0 := by
  rw [tr_at _ _ (by omega), tr_at _ _ (by omega), shift_at _ _ (by unfold tp; omega), shift_ix r hr c hc]
/-- A round key laid over the state. -/
theorem over_tr {k : List UInt8} (hk : k.length = 16) (Z : List UInt8) (n r c : Nat) (hn : n < 11) (hr : r < 4) (hc : c < 4) : (tr Z).getD (r * 4 + c) 0 ^^^ (rks k 11).getD ((4 * n + c) * 4 + r) 0 = (tr (over Z (rk k n))).getD (r * 4 + c) 0 := by
  rw [tr_at _ _ (by omega), tr_at _ _ (by omega), over_at _ _ _ (tp_lt (by omega)), show (4 * n + c) * 4 + r = 16 * n + (4 * c + r) from by omega, rks_at hk hn (by omega)]
  congr 2; unfold tp; omega
/-- The state ahead of each round. -/
def rnd (k b : List UInt8) (n : Nat) : List UInt8 := if n < 10 then st k b n else enc k b
theorem rnd_step (k b : List UInt8) (n : Nat) (h : n < 9) : over (mix (shift (rnd k b n))) (rk k (n + 1)) = rnd k b (n + 1) := by
  unfold rnd; rw [if_pos (by omega), if_pos (by omega)]; rfl
theorem rnd_last (k b : List UInt8) : over (shift (rnd k b 9)) (rk k 10) = rnd k b 10 := rfl

end Go.Proofs.Ytpkehhbjagmodaa.E
