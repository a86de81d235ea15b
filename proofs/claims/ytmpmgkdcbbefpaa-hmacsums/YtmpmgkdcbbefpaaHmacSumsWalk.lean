/-
  Layer 4: the walk of HmacSums: it answers true at every key and two texts.
-/
import Derived.Test.YtmpmgkdcbbefpaaHSame
import Derived.Deep.RegionHeld3
import Derived.OpenShut
namespace Go.Proofs.Ytmpmgkdcbbefpaa.HmacSumsW
open Go.RowKit
set_option linter.unusedVariables false

theorem below_step {w wc wn : World} (h : Below w.heap.size w wc) (b : Below wc.heap.size wc wn) : Below w.heap.size w wn := h.trans (b.mono h.size)

set_option maxHeartbeats 4000000 in
theorem core (a0 a1 a2 : ByteArray) (w : World) (w0 : a0.size ≤ maxLen) (w1 : a1.size ≤ maxLen) (w2 : a2.size ≤ maxLen) :
    Calls Try.prog 7 #[.string a0, .string a1, .string a2] w fun e w' => e = .returned (.bool true) ∧ Below w.heap.size w w' := by
  unfold maxLen at w0 w1 w2
  go_enter Try.func7, Try.ntmps7
  go_wp2_with fail
  refine (awake4_any _).mono ?_
  rintro e w1 ⟨rfl, hb1⟩
  by_cases hL : a0.size ≤ 500 ∧ a1.size ≤ 500 ∧ a2.size ≤ 500
  · obtain ⟨h0, h1, h2⟩ := hL
    have hall : allOf [a1, ⟨#[]⟩, a2] = a1.data.toList ++ a2.data.toList := by simp [allOf]
    have hg : ¬ (500 : Int) < max (max (a0.size : Int) (a1.size : Int)) (a2.size : Int) := by omega
    go_wp2_with fail
    all_goals
      refine (hSum_new a0 [a1, ⟨#[]⟩, a2] w1 _ rfl 3 _ rfl rfl (by omega) (by simp) (by simp) (by rw [hall, List.length_append, ← size_is, ← size_is]; omega)).mono ?_
      rintro e w2 ⟨rfl, hb2⟩
      have hbn : Below w.heap.size w w2 := hb1.trans (hb2.mono hb1.size)
      rw [hall]
      obtain ⟨x, hx⟩ : ∃ x : ByteArray, x = ⟨(H.hmacL a0.data.toList (a1.data.toList ++ a2.data.toList)).toArray⟩ := ⟨_, rfl⟩
      obtain ⟨t, ht⟩ : ∃ t, t = a1 ++ a2 := ⟨_, rfl⟩
      have hadd := fun wx => run_string_add_sum (P := Try.prog) wx a1 a2 (by omega)
      rw [← ht] at hadd
      rw [← hx]
      have CS : Hid (∀ w, Calls Try.prog 28 #[.string a0, .string t] w fun e w' => e = .returned (.string x) ∧ Below w.heap.size w w') := by
        intro w
        have := refSum_any a0 t (by omega) (by rw [ht, ByteArray.size_append]; omega) w
        rw [show t.data.toList = a1.data.toList ++ a2.data.toList from by rw [ht, add_bytes], ← hx] at this
        exact this
      have hxs : x.size = 32 := by rw [size_is, hx]; show (H.hmacL _ _).length = 32; exact H.hmacL_length _ _
      have CE : Hid (∀ w, Calls Try.prog 29 #[.string a1, .string a2] w fun e w' => e = .returned (.bool (a1.toList == a2.toList)) ∧ Below w.heap.size w w') := fun w => same_any a1 a2 (by omega) (by omega) w
      have CX : Hid (∀ w, Calls Try.prog 29 #[.string x, .string x] w fun e w' => e = .returned (.bool true) ∧ Below w.heap.size w w') := by
        intro w
        have := same_any x x (by omega) (by omega) w
        rw [beq_self_eq_true] at this
        exact this
      clear hx ht hall hb1 hb2
      go_wp2_with fail
      refine (CS.out _).mono ?_
      rintro e w3 ⟨rfl, b3⟩
      have hb3 := below_step hbn b3
      clear b3 hbn
      go_wp2_with fail
      refine (CE.out _).mono ?_
      rintro e w4 ⟨rfl, b4⟩
      have hb4 := below_step hb3 b4
      clear b4 hb3
      go_wp2_with fail
      refine (CS.out _).mono ?_
      rintro e w5 ⟨rfl, b5⟩
      have hb5 := below_step hb4 b5
      clear b5 hb4
      go_wp2_with fail
      refine (CX.out _).mono ?_
      rintro e w6 ⟨rfl, b6⟩
      have hb6 := below_step hb5 b6
      clear b6 hb5
      go_wp2
      go_ret
      exact ⟨rfl, hb6⟩
  · have hg : (500 : Int) < max (max (a0.size : Int) (a1.size : Int)) (a2.size : Int) := by omega
    go_wp2
    all_goals go_ret
    all_goals exact ⟨rfl, hb1⟩

theorem walk (a0 : ByteArray) (a1 : ByteArray) (a2 : ByteArray) (w : World) (w0 : a0.size ≤ maxLen) (w1 : a1.size ≤ maxLen) (w2 : a2.size ≤ maxLen) :
    Calls Try.prog 7 #[.string a0, .string a1, .string a2] w fun e w' => e = .returned (.bool true) ∧ Below w.heap.size w w' :=
  core a0 a1 a2 w w0 w1 w2

end Go.Proofs.Ytmpmgkdcbbefpaa.HmacSumsW
