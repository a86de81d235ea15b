/-
  Plain mathematics for layer 7: sealed bodies, as lists. No condition.
-/
import Derived.Test.YtbkeodgiflfakaaCPlain
import Derived.Test.YtbkeodgiflfakaaHPlain
namespace Go.Proofs.Ytbkeodgiflfakaa.Z7
open Go.Proofs.Ytbkeodgiflfakaa
set_option linter.unusedVariables false
set_option maxRecDepth 20000

def encK (key : List UInt8) : List UInt8 := H.deriveL key [101, 110, 99] 16
def macK (key : List UInt8) : List UInt8 := H.deriveL key [109, 97, 99] 32
theorem encK_length (key : List UInt8) : (encK key).length = 16 := H.deriveL_length _ _ _
theorem macK_length (key : List UInt8) : (macK key).length = 32 := H.deriveL_length _ _ _
def tagM (m : List UInt8) (id n : Nat) (t : List UInt8) : List UInt8 := (H.hmacL m (C.blk id n ++ t)).take 16
theorem tagM_length (m : List UInt8) (id n : Nat) (t : List UInt8) : (tagM m id n t).length = 16 := by simp [tagM, H.hmacL_length]
def sealL (key : List UInt8) (id n : Nat) (b : List UInt8) : List UInt8 := C.turnL (encK key) n b ++ tagM (macK key) id n (C.turnL (encK key) n b)
theorem sealL_length (key : List UInt8) (id n : Nat) (b : List UInt8) : (sealL key id n b).length = b.length + 16 := by simp [sealL, tagM_length, C.turnL_length]
/-- What a text that is long enough opens to: its body, where the tag is right. -/
def opens (key : List UInt8) (id n : Nat) (s : List UInt8) : Bool := tagM (macK key) id n (s.take (s.length - 16)) == s.drop (s.length - 16)
def bodyL (key : List UInt8) (n : Nat) (s : List UInt8) : List UInt8 := C.turnL (encK key) n (s.take (s.length - 16))
theorem opens_seal (key : List UInt8) (id n : Nat) (b : List UInt8) : opens key id n (sealL key id n b) = true := by
  have h1 : (sealL key id n b).length - 16 = (C.turnL (encK key) n b).length := by rw [sealL_length, C.turnL_length]; omega
  unfold opens
  rw [h1]
  unfold sealL
  rw [List.take_left, List.drop_left]
  exact beq_self_eq_true _
theorem body_seal (key : List UInt8) (id n : Nat) (b : List UInt8) : bodyL key n (sealL key id n b) = b := by
  have h1 : (sealL key id n b).length - 16 = (C.turnL (encK key) n b).length := by rw [sealL_length, C.turnL_length]; omega
  unfold bodyL
  rw [h1]
  unfold sealL
  rw [List.take_left, C.turnL_twice]
theorem bodyL_length (key : List UInt8) (n : Nat) (s : List UInt8) : (bodyL key n s).length = s.length - 16 := by simp [bodyL, C.turnL_length]
/-- What a text opens to, and the error. -/
def openL (key : List UInt8) (id n : Nat) (s : List UInt8) : List UInt8 := if s.length < 16 then [] else if opens key id n s then bodyL key n s else []
def openE (key : List UInt8) (id n : Nat) (s : List UInt8) : Nat := if s.length < 16 then 3 else if opens key id n s then 0 else 8
theorem openE_seal (key : List UInt8) (id n : Nat) (b : List UInt8) : openE key id n (sealL key id n b) = 0 := by
  unfold openE; rw [if_neg (by rw [sealL_length]; omega), opens_seal]; rfl
theorem openL_seal (key : List UInt8) (id n : Nat) (b : List UInt8) : openL key id n (sealL key id n b) = b := by
  unfold openL; rw [if_neg (by rw [sealL_length]; omega), opens_seal, if_pos rfl, body_seal]

end Go.Proofs.Ytbkeodgiflfakaa.Z7
