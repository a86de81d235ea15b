/-
  Plain mathematics for layer 1: base 16. No condition.
-/
import Derived.Test.YtiocibllmaakkaaDoorPlain
namespace Go.Proofs.YtiocibllmaakkaaDoor.W

/-- The digits of base 16. -/
def sixteen : List UInt8 := [48, 49, 50, 51, 52, 53, 54, 55, 56, 57, 97, 98, 99, 100, 101, 102]
def dig (n : Nat) : UInt8 := sixteen.getD n 0

theorem dig_fin : ∀ m : Fin 16, sixteen[m.val]'(m.isLt) = dig m.val := by decide
theorem dig_at (n : Nat) (h : n < (⟨#[48, 49, 50, 51, 52, 53, 54, 55, 56, 57, 97, 98, 99, 100, 101, 102]⟩ : ByteArray).size) : (⟨#[48, 49, 50, 51, 52, 53, 54, 55, 56, 57, 97, 98, 99, 100, 101, 102]⟩ : ByteArray)[n] = dig n :=
  dig_fin ⟨n, h⟩

/-- Base 16 of a text. -/
def hexL : List UInt8 → List UInt8
  | [] => []
  | b :: l => dig (b.toNat / 16) :: dig (b.toNat % 16) :: hexL l

theorem hexL_append : ∀ (a b : List UInt8), hexL (a ++ b) = hexL a ++ hexL b
  | [], b => rfl
  | x :: a, b => by simp [hexL, hexL_append a b]
theorem hexL_length : ∀ (l : List UInt8), (hexL l).length = 2 * l.length
  | [] => rfl
  | b :: l => by simp [hexL, hexL_length l]; omega

/-- What lies in the row behind i bytes. -/
def hexRow (s : List UInt8) (i : Nat) : List Value := cellsOf (hexL (s.take i)) ++ List.replicate (2 * (s.length - i)) (Value.int .u8 0)

theorem hexRow_zero (s : List UInt8) : hexRow s 0 = List.replicate (2 * s.length) (Value.int .u8 0) := by simp [hexRow, hexL, cellsOf]
theorem hexRow_full (s : List UInt8) : hexRow s s.length = cellsOf (hexL s) := by simp [hexRow]
theorem cellsOf_length (l : List UInt8) : (cellsOf l).length = l.length := by simp [cellsOf]
theorem hexRow_step (s : List UInt8) (i : Nat) (h : i < s.length) :
    ((hexRow s i).set (2 * i) (Value.int .u8 ((dig (s[i].toNat / 16)).toNat : Int))).set (2 * i + 1) (Value.int .u8 ((dig (s[i].toNat % 16)).toNat : Int)) = hexRow s (i + 1) := by
  unfold hexRow
  have e : 2 * (s.length - i) = 2 * (s.length - (i + 1)) + 1 + 1 := by omega
  have hl : (cellsOf (hexL (s.take i))).length = 2 * i := by simp [cellsOf_length, hexL_length, Nat.min_eq_left (Nat.le_of_lt h)]
  rw [e, List.replicate_succ, List.replicate_succ, List.set_append_right _ _ (by omega), hl, Nat.sub_self, List.set_cons_zero, List.set_append_right _ _ (by omega), hl,
    show 2 * i + 1 - 2 * i = 0 + 1 from by omega, List.set_cons_succ, List.set_cons_zero, List.take_succ_eq_append_getElem h, hexL_append]
  simp [hexL, cellsOf]
theorem hexRow_at0 (s : List UInt8) (i : Nat) (h : i < s.length) : (hexRow s i)[2 * i]? = some (Value.int .u8 0) := by
  unfold hexRow
  have hl : (cellsOf (hexL (s.take i))).length = 2 * i := by simp [cellsOf_length, hexL_length, Nat.min_eq_left (Nat.le_of_lt h)]
  rw [List.getElem?_append_right (by omega), hl, List.getElem?_replicate, if_pos (by omega)]
theorem hexRow_at1 (s : List UInt8) (i : Nat) (h : i < s.length) : (hexRow s i)[2 * i + 1]? = some (Value.int .u8 0) := by
  unfold hexRow
  have hl : (cellsOf (hexL (s.take i))).length = 2 * i := by simp [cellsOf_length, hexL_length, Nat.min_eq_left (Nat.le_of_lt h)]
  rw [List.getElem?_append_right (by omega), hl, List.getElem?_replicate, if_pos (by omega)]

end Go.Proofs.YtiocibllmaakkaaDoor.W
