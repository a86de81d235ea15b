/-
  Layer 1: what the document's own Unhex comes to, at every text of at most 1,000 bytes.
-/
import Derived.Test.YtiocibllmaakkaaDoorPut
import Derived.Test.YtiocibllmaakkaaDoorUnhexPlain
import Derived.Deep.QuietTactic
import Derived.BigQuiet
import Derived.Deep.RegionWith
namespace Go.Proofs.YtiocibllmaakkaaDoor
open Go.RowKit
set_option linter.unusedVariables false

theorem ret_i {k : IntKind} {a b : Int} (h : a = b) : Ending.returned (.int k a) = .returned (.int k b) := by rw [h]

theorem refDigit_any (c : Nat) (hc : c < 256) (w : World) :
    Calls Tryd.prog 19 #[.int .u8 c] w fun e w' => e = .returned (.int .u8 (W.hv (UInt8.ofNat c))) ∧ w' = w := by
  have e : (UInt8.ofNat c).toNat = c := by simp; omega
  unfold W.hv
  rw [e]
  by_cases h1 : 48 ≤ c ∧ c ≤ 57
  · obtain ⟨a, b⟩ := h1
    rw [if_pos ⟨a, b⟩]
    clear e
    go_enter Tryd.func19, Tryd.ntmps19
    go_wp2
    go_ret
    exact ⟨ret_i (by omega), rfl⟩
  · by_cases h2 : 97 ≤ c ∧ c ≤ 102
    · obtain ⟨a, b⟩ := h2
      rw [if_neg h1, if_pos ⟨a, b⟩]
      clear e h1
      go_enter Tryd.func19, Tryd.ntmps19
      go_wp2
      go_ret
      exact ⟨ret_i (by omega), rfl⟩
    · rw [if_neg h1, if_neg h2]
      clear e
      rcases (show c < 48 ∨ (57 < c ∧ c < 97) ∨ 102 < c from by omega) with h | ⟨h, h'⟩ | h
      all_goals
        clear h1 h2
        go_enter Tryd.func19, Tryd.ntmps19
        go_wp2
        go_ret
        exact ⟨rfl, rfl⟩

/-- What Unhex answers: the text, or none. -/
def unT (l : List UInt8) : List UInt8 := (W.unhexL l).getD []

set_option maxHeartbeats 2000000 in
theorem refUnhex_any (s : ByteArray) (hs : s.size ≤ 1000) (w : World) :
    Calls Tryd.prog 10 #[.string s] w fun e w' => e = .returned (.tuple #[.string ⟨(unT s.data.toList).toArray⟩, .bool (W.unhexL s.data.toList).isSome]) ∧ Below w.heap.size w w' := by
  have hlen : s.data.toList.length = s.size := by simp
  by_cases ho : s.size % 2 = 1
  · have hn : W.unhexL s.data.toList = none := W.unhex_odd _ _ (Nat.le_refl _) (by rw [hlen]; exact ho)
    unfold unT
    rw [hn]
    have t1 : ((s.size : Int) % 2 == 1) = true := by rw [beq_iff_eq]; omega
    clear hlen hn ho
    go_enter Tryd.func10, Tryd.ntmps10
    go_wp2
    go_ret2
    exact ⟨rfl, Below.refl _ _⟩
  · obtain ⟨n, hn⟩ : ∃ n, s.size = 2 * n := ⟨s.size / 2, by omega⟩
    have t1 : ((s.size : Int) % 2 == 1) = false := by rw [beq_eq_false_iff_ne]; omega
    have hq : (s.size : Int) / 2 = (n : Int) := by omega
    have HLEN := Lib.hid hlen
    have HNN := Lib.hid hn
    have hn0 : n ≤ 500 := by omega
    clear hlen hn ho
    obtain ⟨i0, hi, hz0, hz1, hz2⟩ := info_parts infoByte
    go_enter Tryd.func10, Tryd.ntmps10
    go_wp2_with (at_make; refine wpList_make_full _ rfl _ _ 42 rfl w.heap.size 5 i0 (.int .u8 0) 1 Tryd.underlying42 hi hz0 hz1 _ _ _ _ n rfl rfl (by first | rfl | omega) (by first | rfl | omega) (by rw [hz2]; omega) (by unfold maxLen; omega) (Nat.le_refl _) ?_)
    intro w1 hown hgrow
    rw [toList_madeCells_one, ← W.uRow_nil n] at hown
    have hb1 : Below w.heap.size w w1 := (Below.refl _ _).grown hgrow (Nat.le_refl _) (by simp)
    clear hgrow hi hz0 hz1 hz2
    go_wp2
    go_loopw [5, 6, 7] (fun iv _ _ wr => ∃ (k : Nat) (P : List UInt8), k ≤ n ∧ P.length = k ∧ iv = .int .i64 k ∧ Hid (W.unhexL s.data.toList = W.withP P (W.unhexL (s.data.toList.drop (2 * k)))) ∧
        wr.ownsRow w.heap.size 5 1 (.slice (some ⟨w.heap.size, 0, none⟩) n n) n (W.uRow P n) ∧ Below w.heap.size w wr) (fun iv _ _ _ => n - (intOf iv).toNat)
    case atStart => exact ⟨0, [], Nat.zero_le _, rfl, rfl, (W.withP_nil _).symm, hown, hb1⟩
    case round =>
      obtain ⟨k, P, hk, hP, rfl, HU, ho, hb⟩ := hrel
      by_cases hlt : k < n
      · have hsz : s.size = 2 * n := HNN.out
        have l0 : 2 * k < s.size := by omega
        have l1 : 2 * k + 1 < s.size := by omega
        have l0' : (2 * (k : Int)).toNat < s.size := by omega
        have l1' : (2 * (k : Int) + 1).toNat < s.size := by omega
        obtain ⟨x0, hx0⟩ : ∃ x0, x0 = s.data.toList[2 * k]'(by rw [HLEN.out]; exact l0) := ⟨_, rfl⟩
        obtain ⟨x1, hx1⟩ : ∃ x1, x1 = s.data.toList[2 * k + 1]'(by rw [HLEN.out]; exact l1) := ⟨_, rfl⟩
        have q0 : ∀ wx, Calls Tryd.prog 19 #[.int .u8 ((s[(2 * (k : Int)).toNat]'l0').toNat : Int)] wx fun e w' => e = .returned (.int .u8 (W.hv x0)) ∧ w' = wx := fun wx => by
          have h := refDigit_any (s[(2 * (k : Int)).toNat]'l0').toNat (s[(2 * (k : Int)).toNat]'l0').toNat_lt wx
          rw [UInt8.ofNat_toNat] at h
          have e : s[(2 * (k : Int)).toNat]'l0' = x0 := by
            rw [hx0]
            show s.data.toList[(2 * (k : Int)).toNat]'_ = _
            congr 1
          rw [e] at h ⊢
          exact h
        have q1 : ∀ wx, Calls Tryd.prog 19 #[.int .u8 ((s[(2 * (k : Int) + 1).toNat]'l1').toNat : Int)] wx fun e w' => e = .returned (.int .u8 (W.hv x1)) ∧ w' = wx := fun wx => by
          have h := refDigit_any (s[(2 * (k : Int) + 1).toNat]'l1').toNat (s[(2 * (k : Int) + 1).toNat]'l1').toNat_lt wx
          rw [UInt8.ofNat_toNat] at h
          have e : s[(2 * (k : Int) + 1).toNat]'l1' = x1 := by
            rw [hx1]
            show s.data.toList[(2 * (k : Int) + 1).toNat]'_ = _
            congr 1
          rw [e] at h ⊢
          exact h
        have Q0 := Lib.hid q0
        have Q1 := Lib.hid q1
        have HX0 := Lib.hid hx0
        have HX1 := Lib.hid hx1
        have v0 := W.hv_lt x0
        have v1 := W.hv_lt x1
        clear q0 q1 hsz hx0 hx1
        have hw1 : IntKind.i64.wrap (2 * (k : Int)) = 2 * (k : Int) := by rw [IntKind.wrap_i64]; omega
        have hw2 : IntKind.i64.wrap (2 * (k : Int) + 1) = 2 * (k : Int) + 1 := by rw [IntKind.wrap_i64]; omega
        have hst := ho.cellAt k (by omega)
        have hfz := ho.frozenAt k
        rw [← hP, W.uRow_at P n (by omega), hP] at hst
        by_cases c0 : 15 < W.hv x0
        · have HZ : Hid (W.unhexL s.data.toList = none) := HU.out.trans (W.step_no P s.data.toList k (by rw [HLEN.out]; exact l1) (by rw [← HX0.out, ← HX1.out]; omega))
          clear HU
          go_wp2
          have tok : True := trivial
          go_region_with (first | (go_at_call 19; have _t := tok; refine (Q0.out _).mono ?_; rintro e w' ⟨rfl, rfl⟩; clear tok) | (go_at_call 19; refine (Q1.out _).mono ?_; rintro e w' ⟨rfl, rfl⟩))
          all_goals
            go_wp2
            go_ret2
            exact ⟨by unfold unT; rw [HZ.out]; rfl, hb.drew⟩
        · by_cases c1 : 15 < W.hv x1
          · have HZ : Hid (W.unhexL s.data.toList = none) := HU.out.trans (W.step_no P s.data.toList k (by rw [HLEN.out]; exact l1) (by rw [← HX0.out, ← HX1.out]; omega))
            clear HU
            go_wp2
            have tok : True := trivial
            go_region_with (first | (go_at_call 19; have _t := tok; refine (Q0.out _).mono ?_; rintro e w' ⟨rfl, rfl⟩; clear tok) | (go_at_call 19; refine (Q1.out _).mono ?_; rintro e w' ⟨rfl, rfl⟩))
            all_goals
              go_wp2
              go_ret2
              exact ⟨by unfold unT; rw [HZ.out]; rfl, hb.drew⟩
          · obtain ⟨y, hy⟩ : ∃ y : UInt8, y = UInt8.ofNat (W.hv x0 * 16 + W.hv x1) := ⟨_, rfl⟩
            have hyv : (W.hv x0 : Int) * 16 + (W.hv x1 : Int) = (y.toNat : Int) := by rw [hy]; simp; omega
            have HZ : Hid (W.unhexL s.data.toList = W.withP (P ++ [y]) (W.unhexL (s.data.toList.drop (2 * (k + 1))))) := by
              have := HU.out.trans (W.step_on P s.data.toList k (by rw [HLEN.out]; exact l1) (by rw [← HX0.out, ← HX1.out]; omega))
              rw [← HX0.out, ← HX1.out, ← hy] at this
              exact this
            have hso := (ho.drew.stored k (.int .u8 (y.toNat : Int))).1
            rw [← hP, W.uRow_step P n (by omega) y, hP] at hso
            have hbs := hb.drew.setCell (p := ⟨w.heap.size, k, none⟩) (Nat.le_refl _) (.int .u8 (y.toNat : Int))
            have HYV := Lib.hid hyv
            clear HU hy hyv ho
            go_wp2
            have tok : True := trivial
            go_region_with (first | (go_at_call 19; have _t := tok; refine (Q0.out _).mono ?_; rintro e w' ⟨rfl, rfl⟩; clear tok) | (go_at_call 19; refine (Q1.out _).mono ?_; rintro e w' ⟨rfl, rfl⟩))
            all_goals
              go_wp2
              go_roundw
              case rel =>
                rw [HYV.out]
                exact ⟨k + 1, P ++ [y], by omega, by simp [hP], by go_num, HZ, hso, hbs⟩
              case measure => simp [intOf]; omega
      · obtain rfl : k = n := by omega
        have HZ : Hid (W.unhexL s.data.toList = some P) := HU.out.trans (W.step_end P s.data.toList k (by rw [HLEN.out]; exact HNN.out))
        rw [W.uRow_full P k hP] at ho
        have hcv := run_convert_bytes_back (P := Tryd.prog) wr 42 9 5 ⟨w.heap.size, 0, none⟩ k P Tryd.underlying42 Tryd.underlying5 Tryd.underlying9 (fun t ht => ho.cells (g := w.heap.size) rfl t _ (by simp [W.cellsOf, ht]))
        rw [hP] at hcv
        clear hP
        go_wp2
        go_ret2
        exact ⟨by unfold unT; rw [HZ.out]; rfl, hb⟩

end Go.Proofs.YtiocibllmaakkaaDoor
