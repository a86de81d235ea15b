/-
  Layer 1: what word.Unhex comes to, at every text of at most 1,000 bytes.
-/
import Derived.Test.YtiocibllmaakkaaDoorPut
import Derived.Test.YtiocibllmaakkaaDoorUnhexPlain
import Derived.Test.YtiocibllmaakkaaDoorShelf
import Derived.Deep.LoopGhost
import Derived.Lib.HexFns2
namespace Go.Proofs.YtiocibllmaakkaaDoor
open Go.RowKit
set_option linter.unusedVariables false

theorem idx_yes (c : UInt8) (h : W.hv c ≤ 15) (w : World) :
    Calls Tryd.prog 18 #[.string ⟨#[48, 49, 50, 51, 52, 53, 54, 55, 56, 57, 97, 98, 99, 100, 101, 102]⟩, .int .u8 (c.toNat : Int)] w fun e w' => e = .returned (.int .i64 (W.hv c)) ∧ w' = w := by
  refine (Tryd.strings_IndexByte _ _ _).mono ?_
  rintro e w' ⟨rfl, rfl⟩
  have e1 : ((c.toNat : Int).toNat.toUInt8) = c := by simp
  have e2 : (⟨#[48, 49, 50, 51, 52, 53, 54, 55, 56, 57, 97, 98, 99, 100, 101, 102]⟩ : ByteArray).data.toList = W.sixteen := rfl
  rw [e1, e2, W.idx, if_pos h]
  exact ⟨rfl, rfl⟩
theorem idx_no (c : UInt8) (h : 15 < W.hv c) (w : World) :
    Calls Tryd.prog 18 #[.string ⟨#[48, 49, 50, 51, 52, 53, 54, 55, 56, 57, 97, 98, 99, 100, 101, 102]⟩, .int .u8 (c.toNat : Int)] w fun e w' => e = .returned (.int .i64 (-1)) ∧ w' = w := by
  refine (Tryd.strings_IndexByte _ _ _).mono ?_
  rintro e w' ⟨rfl, rfl⟩
  have e1 : ((c.toNat : Int).toNat.toUInt8) = c := by simp
  have e2 : (⟨#[48, 49, 50, 51, 52, 53, 54, 55, 56, 57, 97, 98, 99, 100, 101, 102]⟩ : ByteArray).data.toList = W.sixteen := rfl
  rw [e1, e2, W.idx, if_neg (by omega)]
  exact ⟨rfl, rfl⟩

/-- What Unhex answers: the text, or none; and the error. -/
def unE (l : List UInt8) : Int := if (W.unhexL l).isSome then 0 else 4
def unX (l : List UInt8) : List UInt8 := (W.unhexL l).getD []

/-- What lies in the row behind j digits of the byte at P's end. -/
def halfRow (P : List UInt8) (n : Nat) (a b : UInt8) : Nat → List Value
  | 0 => W.uRow P n
  | 1 => (W.uRow P n).set P.length (Value.int .u8 (W.hv a))
  | _ => W.uRow (P ++ [UInt8.ofNat (W.hv a * 16 + W.hv b)]) n

theorem half1 (P : List UInt8) (n : Nat) (a b : UInt8) (h : P.length < n) : (halfRow P n a b 1)[P.length]? = some (Value.int .u8 (W.hv a)) := by
  have hl : P.length < (W.uRow P n).length := by simp [W.uRow, W.cellsOf]; omega
  show ((W.uRow P n).set P.length (Value.int .u8 (W.hv a)))[P.length]? = _
  rw [List.getElem?_set_self hl]
theorem half2 (P : List UInt8) (n : Nat) (a b : UInt8) (h : P.length < n) : (halfRow P n a b 1).set P.length (Value.int .u8 ((UInt8.ofNat (W.hv a * 16 + W.hv b)).toNat : Int)) = halfRow P n a b 2 := by
  show ((W.uRow P n).set P.length (Value.int .u8 (W.hv a))).set P.length _ = W.uRow (P ++ [UInt8.ofNat (W.hv a * 16 + W.hv b)]) n
  rw [List.set_set, W.uRow_step P n h]

set_option maxHeartbeats 4000000 in
theorem unhex_any (s : ByteArray) (hs : s.size ≤ 1000) (w : World) :
    Calls Tryd.prog 9 #[.string s] w fun e w' => e = .returned (.tuple #[.string ⟨(unX s.data.toList).toArray⟩, .int .i64 (unE s.data.toList)]) ∧ Below w.heap.size w w' := by
  have hlen : s.data.toList.length = s.size := by simp
  by_cases ho : s.size % 2 = 1
  · have hn : W.unhexL s.data.toList = none := W.unhex_odd _ _ (Nat.le_refl _) (by rw [hlen]; exact ho)
    unfold unX unE
    rw [hn]
    have t1 : ((s.size : Int) % 2 != 0) = true := by rw [bne_iff_ne]; omega
    clear hlen hn ho
    go_enter Tryd.func9, Tryd.ntmps9
    go_wp2
    go_step3
    go_wp2
    rw [Exit.noGoto_ret]
    go_ret2
    exact ⟨rfl, Below.refl _ _⟩
  · obtain ⟨n, hn⟩ : ∃ n, s.size = 2 * n := ⟨s.size / 2, by omega⟩
    have t1 : ((s.size : Int) % 2 != 0) = false := by rw [bne_eq_false_iff_eq]; omega
    have hq : (s.size : Int) / 2 = (n : Int) := by omega
    have HLEN := Lib.hid hlen
    have HNN := Lib.hid hn
    have hn0 : n ≤ 500 := by omega
    clear hlen hn ho
    obtain ⟨i0, hi, hz0, hz1, hz2⟩ := info_parts infoByte
    go_enter Tryd.func9, Tryd.ntmps9
    go_wp2
    go_step3
    go_wp2_with (at_make; refine wpList_make_full _ rfl _ _ 42 rfl w.heap.size 5 i0 (.int .u8 0) 1 Tryd.underlying42 hi hz0 hz1 _ _ _ _ n rfl rfl (by first | rfl | omega) (by first | rfl | omega) (by rw [hz2]; omega) (by unfold maxLen; omega) (Nat.le_refl _) ?_)
    intro w1 hown hgrow
    rw [toList_madeCells_one, ← W.uRow_nil n] at hown
    have hb1 : Below w.heap.size w w1 := (Below.refl _ _).grown hgrow (Nat.le_refl _) (by simp)
    clear hgrow hi hz0 hz1 hz2
    go_wp2
    go_step3
    go_wp2
    go_loopg [5, 19] n (fun g ev iv wx => ∃ (k : Nat) (P : List UInt8), k + g = n ∧ P.length = k ∧ ev = .int .i64 0 ∧ iv = .int .i64 k ∧ Hid (W.unhexL s.data.toList = W.withP P (W.unhexL (s.data.toList.drop (2 * k)))) ∧
        wx.ownsRow w.heap.size 5 1 (.slice (some ⟨w.heap.size, 0, none⟩) n n) n (W.uRow P n) ∧ Below w.heap.size w wx)
    case atStart => exact ⟨0, [], by omega, rfl, rfl, rfl, (W.withP_nil _).symm, hown, hb1⟩
    case round =>
      obtain ⟨k, P, hk, hP, rfl, rfl, HU, ho, hb⟩ := hrel
      by_cases hlt : k < n
      · have hsz : s.size = 2 * n := HNN.out
        have l0 : 2 * k < s.size := by omega
        have l1 : 2 * k + 1 < s.size := by omega
        obtain ⟨x0, hx0⟩ : ∃ x0, x0 = s.data.toList[2 * k]'(by rw [HLEN.out]; exact l0) := ⟨_, rfl⟩
        obtain ⟨x1, hx1⟩ : ∃ x1, x1 = s.data.toList[2 * k + 1]'(by rw [HLEN.out]; exact l1) := ⟨_, rfl⟩
        have e0 : s[2 * k] = x0 := by rw [hx0]; rfl
        have e1 : s[2 * k + 1] = x1 := by rw [hx1]; rfl
        have HX0 := Lib.hid hx0
        have HX1 := Lib.hid hx1
        have E0 := Lib.hid e0
        have E1 := Lib.hid e1
        clear hsz hx0 hx1 e0 e1
        go_wp2
        obtain ⟨wo, rfl⟩ : ∃ wo : World, wo = wr := ⟨_, rfl⟩
        go_loopg [5, 22] 2 (fun g2 ev jv wy => ∃ j : Nat, j + g2 = 2 ∧ ev = .int .i64 0 ∧ jv = .int .i64 j ∧ Hid ((1 ≤ j → W.hv x0 ≤ 15) ∧ (2 ≤ j → W.hv x1 ≤ 15)) ∧
            wy.ownsRow w.heap.size 5 1 (.slice (some ⟨w.heap.size, 0, none⟩) n n) n (halfRow P n x0 x1 j) ∧ Below w.heap.size w wy)
        case atStart => exact ⟨0, by omega, rfl, rfl, ⟨by omega, by omega⟩, ho, hb⟩
        case round =>
          clear ho hb
          obtain ⟨j, hj, rfl, rfl, HJ, ho, hb⟩ := hrel
          rcases (show j = 0 ∨ j = 1 ∨ j = 2 from by omega) with rfl | rfl | rfl
          · by_cases c0 : 15 < W.hv x0
            · have HZ : Hid (W.unhexL s.data.toList = none) := HU.out.trans (W.step_no P s.data.toList k (by rw [HLEN.out]; exact l1) (by rw [← HX0.out]; omega))
              clear HU
              go_wp2_with fail
              rw [E0.out]
              refine (idx_no x0 c0 _).mono ?_
              rintro e w2 ⟨rfl, rfl⟩
              go_wp2
              try rw [Exit.noGoto_ret]
              go_ret2
              exact ⟨by unfold unX unE; rw [HZ.out] <;> rfl, hb⟩
            · have v0 : W.hv x0 ≤ 15 := by omega
              have hc : wr.cell? ⟨w.heap.size, k, none⟩ = some (.int .u8 0) := by rw [ho.cellAt k (by omega), ← hP]; exact W.uRow_at P n (by omega)
              have hf := ho.frozenAt k
              have hso := (ho.stored k (.int .u8 (W.hv x0))).1
              have hbs := hb.setCell (p := ⟨w.heap.size, k, none⟩) (Nat.le_refl _) (.int .u8 (W.hv x0))
              have hor : bits BinOp.or IntKind.u8 0 (W.hv x0 : Int) = (W.hv x0 : Int) := by
                have := Lib.Hx.or_digits 0 (W.hv x0) (by omega) (by omega)
                rw [show (((0 : Nat) : Int) * 16) = 0 from by omega] at this
                rw [this]; simp; omega
              clear ho
              go_wp2_with fail
              rw [E0.out]
              refine (idx_yes x0 v0 _).mono ?_
              rintro e w2 ⟨rfl, rfl⟩
              go_wp2
              go_roundg 1
              case measure => omega
              case rel => exact ⟨1, by omega, rfl, rfl, ⟨fun _ => v0, by omega⟩, by rw [← hP] at hso ⊢; exact hso, hbs⟩
          · have v0 : W.hv x0 ≤ 15 := HJ.out.1 (by omega)
            by_cases c1 : 15 < W.hv x1
            · have HZ : Hid (W.unhexL s.data.toList = none) := HU.out.trans (W.step_no P s.data.toList k (by rw [HLEN.out]; exact l1) (by rw [← HX1.out]; omega))
              clear HU
              go_wp2_with fail
              rw [E1.out]
              refine (idx_no x1 c1 _).mono ?_
              rintro e w2 ⟨rfl, rfl⟩
              go_wp2
              try rw [Exit.noGoto_ret]
              go_ret2
              exact ⟨by unfold unX unE; rw [HZ.out] <;> rfl, hb⟩
            · have v1 : W.hv x1 ≤ 15 := by omega
              have hc : wr.cell? ⟨w.heap.size, k, none⟩ = some (.int .u8 (W.hv x0)) := by rw [ho.cellAt k (by omega), ← hP]; exact half1 P n x0 x1 (by omega)
              have hf := ho.frozenAt k
              have hso := (ho.stored k (.int .u8 ((UInt8.ofNat (W.hv x0 * 16 + W.hv x1)).toNat : Int))).1
              rw [← hP, half2 P n x0 x1 (by omega), hP] at hso
              have hbs := hb.setCell (p := ⟨w.heap.size, k, none⟩) (Nat.le_refl _) (.int .u8 ((UInt8.ofNat (W.hv x0 * 16 + W.hv x1)).toNat : Int))
              have HOR := Lib.hid (Lib.Hx.or_digits (W.hv x0) (W.hv x1) (by omega) (by omega))
              clear ho
              go_wp2_with fail
              rw [E1.out]
              refine (idx_yes x1 v1 _).mono ?_
              rintro e w2 ⟨rfl, rfl⟩
              go_wp2
              go_roundg 0
              case measure => omega
              case rel => rw [HOR.out]; exact ⟨2, by omega, rfl, rfl, ⟨fun _ => v0, fun _ => v1⟩, hso, hbs⟩
          · obtain ⟨v0, v1⟩ := HJ.out
            have HZ : Hid (W.unhexL s.data.toList = W.withP (P ++ [UInt8.ofNat (W.hv x0 * 16 + W.hv x1)]) (W.unhexL (s.data.toList.drop (2 * (k + 1))))) := by
              have := HU.out.trans (W.step_on P s.data.toList k (by rw [HLEN.out]; exact l1) (by rw [← HX0.out, ← HX1.out]; have := v0 (by omega); have := v1 (by omega); omega))
              rw [← HX0.out, ← HX1.out] at this
              exact this
            clear HU v0 v1
            go_wp2
            go_roundg (n - (k + 1))
            case measure => omega
            case rel => exact ⟨k + 1, P ++ [UInt8.ofNat (W.hv x0 * 16 + W.hv x1)], by omega, by simp [hP], rfl, by go_num, HZ, ho, hb⟩
      · obtain rfl : k = n := by omega
        have HZ : Hid (W.unhexL s.data.toList = some P) := HU.out.trans (W.step_end P s.data.toList k (by rw [HLEN.out]; exact HNN.out))
        rw [W.uRow_full P k hP] at ho
        have hcv := run_convert_bytes_back (P := Tryd.prog) wr 42 9 5 ⟨w.heap.size, 0, none⟩ k P Tryd.underlying42 Tryd.underlying5 Tryd.underlying9 (fun t ht => ho.cells (g := w.heap.size) rfl t _ (by simp [W.cellsOf, ht]))
        rw [hP] at hcv
        clear hP
        go_wp2
        try rw [Exit.noGoto_ret]
        go_ret2
        exact ⟨by unfold unX unE; rw [HZ.out] <;> rfl, hb⟩

end Go.Proofs.YtiocibllmaakkaaDoor
