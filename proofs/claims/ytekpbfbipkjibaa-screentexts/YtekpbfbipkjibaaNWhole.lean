/-
  Layer 11: whole.
-/
import Derived.Test.YtekpbfbipkjibaaNNew
namespace Go.Proofs.Ytekpbfbipkjibaa
open Go.RowKit
set_option linter.unusedVariables false
set_option maxRecDepth 20000

set_option maxHeartbeats 1000000 in
theorem hid_any (b : UInt8) (w : World) : Calls Try.prog 55 #[.int .u8 (b.toNat : Int)] w fun e w' => e = .returned (.bool (!N11.shown b)) ∧ w' = w := by
  have CS : Hid (∀ wx, Calls Try.prog 32 #[.int .u8 (b.toNat : Int)] wx fun e w' => e = .returned (.bool (N11.shown b)) ∧ w' = wx) := fun wx => shown_any b wx
  go_enter Try.func55, Try.ntmps55
  go_wp2_with fail
  refine (CS.out _).mono ?_
  rintro e wq ⟨rfl, rfl⟩
  go_wp2
  go_ret
  exact ⟨rfl, rfl⟩

set_option maxHeartbeats 2000000 in
theorem indexHid_any (g cap n : Nat) (l : List UInt8) (w : World) (hn : l.length = n) (hn2 : n ≤ 1000000) (h : Bs w g l) :
    Calls Try.prog 64 #[.slice (some ⟨g, 0, none⟩) n cap, .func (.func 55) #[] #[]] w fun e w' => ∃ v : Int, e = .returned (.int .i64 v) ∧ (decide (0 ≤ v) = !l.all N11.shown) ∧ w' = w := by
  have CH : Hid (∀ (b : UInt8) wx, Calls Try.prog 55 #[.int .u8 (b.toNat : Int)] wx fun e w' => e = .returned (.bool (!N11.shown b)) ∧ w' = wx) := fun b wx => hid_any b wx
  go_enter Try.func64, Try.ntmps64
  go_wp2
  go_loopw [5, 8] (fun _ iv wr => ∃ i : Nat, i ≤ n ∧ iv = .int .i64 i ∧ Hid ((l.take i).all N11.shown = true) ∧ wr = w) (fun _ iv _ => n - (intOf iv).toNat)
  case atStart => exact ⟨0, Nat.zero_le _, rfl, rfl, rfl⟩
  case round =>
    obtain ⟨i, hi, rfl, HA, rfl⟩ := hrel
    by_cases hlt : i < n
    · have hs : (i : Int) < n := by omega
      have hil : i < l.length := by omega
      have c1 := h.cell i hil
      have HT : Hid (l.take (i + 1) = l.take i ++ [l.getD i 0]) := by
        show _ = _
        rw [List.take_succ_eq_append_getElem hil, List.getD_eq_getElem?_getD, List.getElem?_eq_getElem hil]
        rfl
      have HM : Hid (l.getD i 0 ∈ l) := by
        show _ ∈ _
        rw [List.getD_eq_getElem?_getD, List.getElem?_eq_getElem hil]
        exact List.getElem_mem hil
      generalize l.getD i 0 = b at *
      by_cases hb : N11.shown b = true
      · have HA2 : Hid ((l.take (i + 1)).all N11.shown = true) := by
          show _ = _
          rw [HT.out, List.all_append, HA.out]
          simp [hb]
        have CB := Lib.hid (CH.out b)
        rw [hb] at CB
        clear HA HT hb CH
        go_wp2_with fail
        refine (CB.out _).mono ?_
        rintro e wq ⟨rfl, rfl⟩
        go_wp2
        go_roundw
        case rel => exact ⟨i + 1, by omega, by go_num, HA2, by first | rfl | trivial⟩
        case measure => simp [intOf]; omega
      · have hb' : N11.shown b = false := by simpa using hb
        have HF : Hid (l.all N11.shown = false) := by
          show _ = _
          rw [List.all_eq_false]
          exact ⟨b, HM.out, by simp [hb']⟩
        have CB := Lib.hid (CH.out b)
        rw [hb'] at CB
        clear HA HT hb hb' CH
        go_wp2_with fail
        refine (CB.out _).mono ?_
        rintro e wq ⟨rfl, rfl⟩
        go_wp2
        go_ret
        exact ⟨(i : Int), rfl, by rw [HF.out]; simp, rfl⟩
    · obtain rfl : i = n := by omega
      have HF : Hid (l.all N11.shown = true) := by
        have := HA.out
        rwa [← hn, List.take_length] at this
      clear HA
      go_wp2
      go_ret
      exact ⟨-1, rfl, by rw [HF.out]; rfl, rfl⟩

set_option maxHeartbeats 2000000 in
theorem containsHid_any (g cap n : Nat) (l : List UInt8) (w : World) (hn : l.length = n) (hn2 : n ≤ 1000000) (h : Bs w g l) :
    Calls Try.prog 54 #[.slice (some ⟨g, 0, none⟩) n cap, .func (.func 55) #[] #[]] w fun e w' => e = .returned (.bool (!l.all N11.shown)) ∧ w' = w := by
  have CI := Lib.hid (indexHid_any g cap n l w hn hn2 h)
  clear h hn
  go_enter Try.func54, Try.ntmps54
  go_wp2_with fail
  refine CI.out.mono ?_
  rintro e wq ⟨v, rfl, hv, rfl⟩
  have HV := Lib.hid hv
  clear hv CI
  go_wp2
  go_ret
  exact ⟨by rw [← HV.out] <;> rfl, rfl⟩

/-- Is that a screen? -/
def okB (wd ht x y : Nat) (c : List UInt8) : Bool := decide (1 ≤ wd) && decide (wd ≤ 80) && decide (1 ≤ ht) && decide (ht ≤ 24) && decide (x < wd) && decide (y < ht) && decide (c.length = wd * ht) && c.all N11.shown
theorem okB_ok {wd ht x y : Nat} {c : List UInt8} : okB wd ht x y c = true ↔ (wd ≤ 80 ∧ ht ≤ 24 ∧ 1 ≤ wd ∧ 1 ≤ ht ∧ N11.Ok wd ht ⟨x, y, c⟩) := by
  unfold okB
  simp only [Bool.and_eq_true, decide_eq_true_eq, List.all_eq_true]
  constructor
  · rintro ⟨⟨⟨⟨⟨⟨⟨h1, h2⟩, h3⟩, h4⟩, h5⟩, h6⟩, h7⟩, h8⟩
    exact ⟨h2, h4, h1, h3, h5, h6, h7, h8⟩
  · rintro ⟨h2, h4, h1, h3, ⟨h5, h6, h7, h8⟩⟩
    exact ⟨⟨⟨⟨⟨⟨⟨h1, h2⟩, h3⟩, h4⟩, h5⟩, h6⟩, h7⟩, h8⟩

set_option maxHeartbeats 8000000 in
theorem whole_any (wd ht x y : Nat) (C : ByteArray) (w : World) (h1 : wd < 256) (h2 : ht < 256) (h3 : x < 256) (h4 : y < 256) (hC : C.size ≤ 100000) :
    Calls Try.prog 41 #[.agg #[.int .i64 wd, .int .i64 ht, .int .i64 x, .int .i64 y, .string C]] w fun e w' => e = .returned (.bool (okB wd ht x y C.data.toList)) ∧ Below w.heap.size w w' := by
  have b1 : Below w.heap.size w (w.alloc (.cells #[.int .i64 wd, .int .i64 ht, .int .i64 x, .int .i64 y, .string C] 25 (0, 0))) := (Below.refl _ _).alloc (Nat.le_refl _) _
  have hcl : C.data.toList.length = C.size := by simp
  have CS : Hid (∀ wx, Calls Try.prog 30 #[.int .i64 wd, .int .i64 ht] wx fun e w' => e = .returned (.bool (decide (1 ≤ (wd : Int)) && decide ((wd : Int) ≤ 80) && decide (1 ≤ (ht : Int)) && decide ((ht : Int) ≤ 24))) ∧ w' = wx) := fun wx => sized_any wd ht wx
  by_cases a1 : (decide (1 ≤ (wd : Int)) && decide ((wd : Int) ≤ 80) && decide (1 ≤ (ht : Int)) && decide ((ht : Int) ≤ 24)) = true
  · rw [a1] at CS
    have a1' := a1
    simp only [Bool.and_eq_true, decide_eq_true_eq] at a1'
    by_cases a2 : x < wd
    · have t2 : ¬ (wd : Int) ≤ (x : Int) := by omega
      by_cases a3 : y < ht
      · have t3 : ¬ (ht : Int) ≤ (y : Int) := by omega
        obtain ⟨n, hn⟩ : ∃ n, n = wd * ht := ⟨_, rfl⟩
        have hn19 : n ≤ 80 * 24 := by rw [hn]; exact Nat.mul_le_mul (by omega) (by omega)
        have e1 : (wd : Int) * (ht : Int) = (n : Int) := by rw [hn]; simp
        have w1 : IntKind.i64.wrap (n : Int) = (n : Int) := by rw [IntKind.wrap_i64]; omega
        by_cases a4 : C.size = n
        · have t4 : ((C.size : Int) != (n : Int)) = false := by rw [bne_eq_false_iff_eq]; omega
          obtain ⟨cap, wc, hcv, hcap, hb0, hbel0⟩ := Bs.made (P := Try.prog) (w.alloc (.cells #[.int .i64 wd, .int .i64 ht, .int .i64 x, .int .i64 y, .string C] 25 (0, 0))) 9 46 5 C Try.underlying9 Try.underlying46 Try.underlying5
          have hsz : (w.alloc (.cells #[.int .i64 wd, .int .i64 ht, .int .i64 x, .int .i64 y, .string C] 25 (0, 0))).heap.size = w.heap.size + 1 := by simp
          have bb := b1.trans (hbel0.mono (by rw [hsz]; omega))
          rw [hsz] at hcv hb0
          have CC := Lib.hid (containsHid_any (w.heap.size + 1) cap C.size C.data.toList wc hcl (by omega) hb0)
          have HR : Hid (okB wd ht x y C.data.toList = C.data.toList.all N11.shown) := by
            show _ = _
            unfold okB
            rw [hcl, a4, hn]
            simp
            omega
          have HB := Lib.hid bb
          generalize C.data.toList.all N11.shown = B at *
          clear hsz hbel0 hb0 bb b1 hcl hn a1 a1' a4 hcap
          go_enter Try.func41, Try.ntmps41
          go_wp2_with fail
          refine (CS.out _).mono ?_
          rintro e wq ⟨rfl, rfl⟩
          go_wp2_with fail
          refine CC.out.mono ?_
          rintro e wq ⟨rfl, rfl⟩
          go_wp2
          go_ret
          refine ⟨?_, HB.out⟩
          rw [HR.out]
          cases B <;> rfl
        · have t4 : ((C.size : Int) != (n : Int)) = true := by rw [bne_iff_ne]; omega
          have HR : Hid (okB wd ht x y C.data.toList = false) := by
            show _ = _
            unfold okB
            rw [hcl, ← hn]
            simp [a4]
          clear hcl hn a1 a1' a4
          go_enter Try.func41, Try.ntmps41
          go_wp2_with fail
          refine (CS.out _).mono ?_
          rintro e wq ⟨rfl, rfl⟩
          go_wp2
          go_ret
          exact ⟨by rw [HR.out] <;> rfl, b1⟩
      · have t3 : (ht : Int) ≤ (y : Int) := by omega
        have HR : Hid (okB wd ht x y C.data.toList = false) := by show _ = _; unfold okB; simp [a3]
        clear hcl a1 a1'
        go_enter Try.func41, Try.ntmps41
        go_wp2_with fail
        refine (CS.out _).mono ?_
        rintro e wq ⟨rfl, rfl⟩
        go_wp2
        go_ret
        exact ⟨by rw [HR.out] <;> rfl, b1⟩
    · have t2 : (wd : Int) ≤ (x : Int) := by omega
      have HR : Hid (okB wd ht x y C.data.toList = false) := by show _ = _; unfold okB; simp [a2]
      clear hcl a1 a1'
      go_enter Try.func41, Try.ntmps41
      go_wp2_with fail
      refine (CS.out _).mono ?_
      rintro e wq ⟨rfl, rfl⟩
      go_wp2
      go_ret
      exact ⟨by rw [HR.out] <;> rfl, b1⟩
  · have a1f : (decide (1 ≤ (wd : Int)) && decide ((wd : Int) ≤ 80) && decide (1 ≤ (ht : Int)) && decide ((ht : Int) ≤ 24)) = false := by simpa using a1
    rw [a1f] at CS
    have HR : Hid (okB wd ht x y C.data.toList = false) := by
      show _ = _
      by_cases hh : okB wd ht x y C.data.toList = true
      · exfalso
        obtain ⟨k1, k2, k3, k4, _⟩ := okB_ok.1 hh
        apply a1
        simp only [Bool.and_eq_true, decide_eq_true_eq]
        omega
      · simpa using hh
    clear hcl a1 a1f
    go_enter Try.func41, Try.ntmps41
    go_wp2_with fail
    refine (CS.out _).mono ?_
    rintro e wq ⟨rfl, rfl⟩
    go_wp2
    go_ret
    exact ⟨by rw [HR.out] <;> rfl, b1⟩

end Go.Proofs.Ytekpbfbipkjibaa
