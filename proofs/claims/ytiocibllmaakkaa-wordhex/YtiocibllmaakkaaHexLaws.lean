/-
  Plain mathematics for layer 1: base 16 stands as texts do. No condition.
-/
import Derived.Test.YtiocibllmaakkaaHexPlain
import Derived.Lib.Bytealg
namespace Go.Proofs.Ytiocibllmaakkaa.W

theorem dig_lt_fin : ∀ m n : Fin 16, (dig m.val < dig n.val) ↔ m.val < n.val := by decide
theorem dig_lt (m n : Nat) (hm : m < 16) (hn : n < 16) : (dig m < dig n) ↔ m < n := dig_lt_fin ⟨m, hm⟩ ⟨n, hn⟩
theorem dig_inj (m n : Nat) (hm : m < 16) (hn : n < 16) (h : dig m = dig n) : m = n := by
  have a := dig_lt m n hm hn
  have b := dig_lt n m hn hm
  rw [h] at a b
  have c : ¬ dig n < dig n := by simp
  have : ¬ m < n := fun x => c (a.2 x)
  have : ¬ n < m := fun x => c (b.2 x)
  omega

theorem hex_cmp : ∀ s t : List UInt8, Lib.compareBytes (hexL s) (hexL t) = Lib.compareBytes s t
  | [], [] => rfl
  | [], _ :: _ => rfl
  | _ :: _, [] => rfl
  | a :: s, b :: t => by
    have ha := a.toNat_lt
    have hb := b.toNat_lt
    have d1 := dig_lt (a.toNat / 16) (b.toNat / 16) (by omega) (by omega)
    have d2 := dig_lt (b.toNat / 16) (a.toNat / 16) (by omega) (by omega)
    have d3 := dig_lt (a.toNat % 16) (b.toNat % 16) (by omega) (by omega)
    have d4 := dig_lt (b.toNat % 16) (a.toNat % 16) (by omega) (by omega)
    simp only [hexL, Lib.compareBytes, d1, d2, d3, d4, hex_cmp s t, UInt8.lt_iff_toNat_lt]
    repeat (first | omega | rfl | split)

theorem hex_inj : ∀ s t : List UInt8, hexL s = hexL t → s = t
  | [], [] => fun _ => rfl
  | [], _ :: _ => fun h => by simp [hexL] at h
  | _ :: _, [] => fun h => by simp [hexL] at h
  | a :: s, b :: t => fun h => by
    have ha := a.toNat_lt
    have hb := b.toNat_lt
    simp only [hexL, List.cons.injEq] at h
    have e1 := dig_inj _ _ (by omega) (by omega) h.1
    have e2 := dig_inj _ _ (by omega) (by omega) h.2.1
    have : a = b := by rw [← UInt8.toNat_inj]; omega
    rw [this, hex_inj s t h.2.2]

end Go.Proofs.Ytiocibllmaakkaa.W
