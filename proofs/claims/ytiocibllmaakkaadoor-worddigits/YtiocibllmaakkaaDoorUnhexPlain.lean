/-
  Plain mathematics for layer 1: the text of base 16. No condition.
-/
import Derived.Test.YtiocibllmaakkaaDoorHexPlain
import Derived.Lib.Bytealg
namespace Go.Proofs.YtiocibllmaakkaaDoor.W

/-- A digit of base 16; 16: none. -/
def hv (c : UInt8) : Nat := if 48 ≤ c.toNat ∧ c.toNat ≤ 57 then c.toNat - 48 else if 97 ≤ c.toNat ∧ c.toNat ≤ 102 then c.toNat - 87 else 16

/-- The text of base 16. -/
def unhexL : List UInt8 → Option (List UInt8)
  | [] => some []
  | [_] => none
  | a :: b :: l => if 15 < hv a ∨ 15 < hv b then none else (unhexL l).map (UInt8.ofNat (hv a * 16 + hv b) :: ·)

theorem unhex_odd : ∀ (n : Nat) (l : List UInt8), l.length ≤ n → l.length % 2 = 1 → unhexL l = none := by
  intro n
  induction n with
  | zero => intro l h h1; omega
  | succ n ih =>
    intro l h h1
    match l, h, h1 with
    | [], _, h1 => simp at h1
    | [_], _, _ => rfl
    | a :: b :: l, h, h1 =>
      simp only [List.length_cons] at h h1
      rw [unhexL, ih l (by omega) (by omega)]
      simp

theorem idx_fin : ∀ n : Fin 256, Lib.indexByte sixteen (UInt8.ofNat n.val) = if hv (UInt8.ofNat n.val) ≤ 15 then (hv (UInt8.ofNat n.val) : Int) else -1 := by decide +kernel
theorem idx (c : UInt8) : Lib.indexByte sixteen c = if hv c ≤ 15 then (hv c : Int) else -1 := by
  have := idx_fin ⟨c.toNat, c.toNat_lt⟩
  simpa using this

theorem hv_dig_fin : ∀ m : Fin 16, hv (dig m.val) = m.val := by decide
theorem hv_dig (n : Nat) (h : n < 16) : hv (dig n) = n := hv_dig_fin ⟨n, h⟩

theorem unhex_hex : ∀ l : List UInt8, unhexL (hexL l) = some l
  | [] => rfl
  | b :: l => by
    have hb := b.toNat_lt
    simp only [hexL, unhexL, hv_dig _ (show b.toNat / 16 < 16 by omega), hv_dig _ (show b.toNat % 16 < 16 by omega), unhex_hex l]
    rw [if_neg (by omega)]
    simp only [Option.map_some, Option.some.injEq, List.cons.injEq, and_true]
    rw [show b.toNat / 16 * 16 + b.toNat % 16 = b.toNat from by omega]
    exact UInt8.ofNat_toNat

/-- What is done, ahead of what is left. -/
def withP (P : List UInt8) (o : Option (List UInt8)) : Option (List UInt8) := o.map (P ++ ·)

theorem withP_nil (o : Option (List UInt8)) : withP [] o = o := by cases o <;> rfl
theorem two_more (l : List UInt8) (k : Nat) (h : 2 * k + 1 < l.length) : l.drop (2 * k) = l[2 * k] :: l[2 * k + 1] :: l.drop (2 * (k + 1)) := by
  rw [List.drop_eq_getElem_cons (by omega), List.drop_eq_getElem_cons (by omega)]
  rfl
theorem step_no (P l : List UInt8) (k : Nat) (h : 2 * k + 1 < l.length) (hb : 15 < hv l[2 * k] ∨ 15 < hv l[2 * k + 1]) : withP P (unhexL (l.drop (2 * k))) = none := by
  rw [two_more l k h, unhexL, if_pos hb]; rfl
theorem step_on (P l : List UInt8) (k : Nat) (h : 2 * k + 1 < l.length) (hb : ¬ (15 < hv l[2 * k] ∨ 15 < hv l[2 * k + 1])) :
    withP P (unhexL (l.drop (2 * k))) = withP (P ++ [UInt8.ofNat (hv l[2 * k] * 16 + hv l[2 * k + 1])]) (unhexL (l.drop (2 * (k + 1)))) := by
  rw [two_more l k h, unhexL, if_neg hb]
  cases unhexL (l.drop (2 * (k + 1))) <;> simp [withP]
theorem step_end (P l : List UInt8) (k : Nat) (h : l.length = 2 * k) : withP P (unhexL (l.drop (2 * k))) = some P := by
  rw [List.drop_of_length_le (by omega)]; simp [withP, unhexL]

/-- What lies in the row behind some bytes. -/
def uRow (P : List UInt8) (n : Nat) : List Value := cellsOf P ++ List.replicate (n - P.length) (Value.int .u8 0)
theorem uRow_nil (n : Nat) : uRow [] n = List.replicate n (Value.int .u8 0) := by simp [uRow, cellsOf]
theorem uRow_full (P : List UInt8) (n : Nat) (h : P.length = n) : uRow P n = cellsOf P := by simp [uRow, h]
theorem uRow_at (P : List UInt8) (n : Nat) (h : P.length < n) : (uRow P n)[P.length]? = some (Value.int .u8 0) := by
  unfold uRow
  rw [List.getElem?_append_right (by simp [cellsOf]), List.getElem?_replicate, if_pos (by simp [cellsOf]; omega)]
theorem uRow_step (P : List UInt8) (n : Nat) (h : P.length < n) (b : UInt8) : (uRow P n).set P.length (Value.int .u8 (b.toNat : Int)) = uRow (P ++ [b]) n := by
  unfold uRow
  rw [show n - P.length = (n - (P ++ [b]).length) + 1 from by simp; omega, List.replicate_succ, List.set_append_right _ _ (by simp [cellsOf])]
  simp [cellsOf]

theorem hv_lt (c : UInt8) : hv c ≤ 16 := by unfold hv; split; · omega
                                            · split <;> omega

end Go.Proofs.YtiocibllmaakkaaDoor.W
