/-
  Layer 4: the walk of HmacDerives: it answers true at every key, label and two numbers.
-/
import Derived.Test.YtmpmgkdcbbefpaaHRefD
import Derived.OpenShut
namespace Go.Proofs.Ytmpmgkdcbbefpaa.HmacDerivesW
open Go.RowKit
set_option linter.unusedVariables false

theorem below_step {w wc wn : World} (h : Below w.heap.size w wc) (b : Below wc.heap.size wc wn) : Below w.heap.size w wn := h.trans (b.mono h.size)

set_option maxHeartbeats 4000000 in
theorem core (a0 a1 : ByteArray) (n m : Int) (w : World) (w0 : a0.size ≤ maxLen) (w1 : a1.size ≤ maxLen) (p2 : -9223372036854775808 ≤ n) (q2 : n ≤ 9223372036854775807) (p3 : 0 ≤ m) (q3 : m ≤ 65535) :
    Calls Try.prog 8 #[.string a0, .string a1, .int .i64 n, .int .u16 m] w fun e w' => e = .returned (.bool true) ∧ Below w.heap.size w w' := by
  unfold maxLen at w0 w1
  go_enter Try.func8, Try.ntmps8
  go_wp2_with fail
  refine (awake4_any _).mono ?_
  rintro e w1 ⟨rfl, hb1⟩
  by_cases hL : a0.size ≤ 200 ∧ a1.size ≤ 200
  · obtain ⟨h0, h1⟩ := hL
    have hg : ¬ (200 : Int) < max (a0.size : Int) (a1.size : Int) := by omega
    by_cases hB : 300 < n ∧ n ≤ 8160
    · obtain ⟨hB1, hB2⟩ := hB
      go_wp2
      go_ret
      exact ⟨rfl, hb1⟩
    · by_cases hC : n < 0
      · have hB1 : ¬ 300 < n := by omega
        go_wp2_with fail
        refine (derive_low a0 a1 n hC _).mono ?_
        rintro e w2 ⟨rfl, rfl⟩
        go_wp2
        go_ret
        exact ⟨rfl, hb1⟩
      · by_cases hD : 8160 < n
        · have hB1 : 300 < n := by omega
          have hB2 : ¬ n ≤ 8160 := by omega
          go_wp2_with fail
          refine (derive_high a0 a1 n hD _).mono ?_
          rintro e w2 ⟨rfl, rfl⟩
          go_wp2
          go_ret
          exact ⟨rfl, hb1⟩
        · obtain ⟨k, rfl⟩ : ∃ k : Nat, n = (k : Int) := ⟨n.toNat, by omega⟩
          have hk : k ≤ 300 := by omega
          obtain ⟨d, hd⟩ : ∃ d : Nat, (d : Int) = m % 100 := ⟨(m % 100).toNat, by omega⟩
          have hd100 : d < 100 := by omega
          have hd' : m % 100 = (d : Int) := hd.symm
          have hB1 : ¬ (300 : Int) < (k : Int) := by omega
          clear hB hd p2 q2
          go_wp2_with fail
          refine (derive_mid a0 a1 k (by omega) (by omega) (by omega) _).mono ?_
          rintro e w2 ⟨x, rfl, hx, b2⟩
          have hb2 := below_step hb1 b2
          have HX := Lib.hid hx
          clear hb1 b2 hx
          go_wp2_with fail
          rw [show (k : Int) + (d : Int) = ((k + d : Nat) : Int) from by omega]
          refine (derive_mid a0 a1 (k + d) (by omega) (by omega) (by omega) _).mono ?_
          rintro e w3 ⟨y, rfl, hy, b3⟩
          have hb3 := below_step hb2 b3
          have HY := Lib.hid hy
          clear hb2 b3 hy
          have CR : Hid (∀ w, Calls Try.prog 31 #[.string a0, .string a1, .int .i64 (k : Int)] w fun e w' => e = .returned (.string x) ∧ Below w.heap.size w w') := by
            intro w
            refine (refDerive_any a0 a1 k (by omega) (by omega) (by omega) w).mono ?_
            rintro e w' ⟨x', rfl, hx', b'⟩
            have : x' = x := by
              have h1 : x'.data.toList = x.data.toList := by rw [hx', HX.out]
              exact ByteArray.ext (Array.toList_inj.1 h1)
            rw [this]
            exact ⟨rfl, b'⟩
          have hpre : Lib.hasPrefix y.data.toList x.data.toList = true := by
            show x.data.toList.isPrefixOf y.data.toList = true
            rw [List.isPrefixOf_iff_prefix, HX.out, HY.out]
            exact H.deriveL_prefix _ _ (by omega)
          go_wp2_with fail
          refine (CR.out _).mono ?_
          rintro e w4 ⟨rfl, b4⟩
          have hb4 := below_step hb3 b4
          clear hb3 b4
          go_wp2_with fail
          refine (Try.strings_HasPrefix _ _ _).mono ?_
          rintro e w5 ⟨rfl, rfl⟩
          rw [hpre]
          go_wp2
          go_ret
          exact ⟨rfl, hb4⟩
  · have hg : (200 : Int) < max (a0.size : Int) (a1.size : Int) := by omega
    go_wp2
    go_ret
    exact ⟨rfl, hb1⟩

theorem walk (a0 : ByteArray) (a1 : ByteArray) (a2 : Int) (a3 : Int) (w : World) (w0 : a0.size ≤ maxLen) (w1 : a1.size ≤ maxLen) (w2 : (Lit.int .i64 a2).wf = true) (w3 : (Lit.int .u16 a3).wf = true) :
    Calls Try.prog 8 #[.string a0, .string a1, .int .i64 a2, .int .u16 a3] w fun e w' => e = .returned (.bool true) ∧ Below w.heap.size w w' := by
  obtain ⟨p2, q2⟩ := bounds_i64 w2
  obtain ⟨p3, q3⟩ := bounds_u16 w3
  exact core a0 a1 a2 a3 w w0 w1 p2 q2 p3 q3

end Go.Proofs.Ytmpmgkdcbbefpaa.HmacDerivesW
