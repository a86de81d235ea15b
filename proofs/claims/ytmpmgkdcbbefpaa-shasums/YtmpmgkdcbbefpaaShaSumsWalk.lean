/-
  Layer 3: the walk of ShaSums: it answers true at every text, number and place.
-/
import Derived.Test.YtmpmgkdcbbefpaaSAwake
import Derived.Test.YtmpmgkdcbbefpaaRText3
import Derived.OpenShut
namespace Go.Proofs.Ytmpmgkdcbbefpaa.ShaSumsW
open Go.RowKit
set_option linter.unusedVariables false

theorem size_of (s : ByteArray) : s.size = s.data.toList.length := by simp
theorem all_one (s : ByteArray) : allOf [s] = s.data.toList := by simp [allOf]
theorem repeatL_one (c : UInt8) (n : Nat) : Lib.repeatL [c] n = List.replicate n c := by
  induction n with
  | zero => rfl
  | succ n ih => rw [List.replicate_succ, ← ih]; rfl

theorem isStrs_at' (w : World) (t : TypeId) (xs : List ByteArray) (A : Array Value) (hA : A = (xs.map Value.string).toArray) (n : Nat) (hn : n = xs.length) (g : Nat) (hg : g = w.heap.size) : IsStrs (w.alloc (.cells A t (0, 0))) (.slice (some ⟨g, 0, none⟩) n n) xs := by
  subst hg
  exact isStrs_new w t xs A hA n hn

theorem isStrs_h (w W : World) (t : TypeId) (xs : List ByteArray) (n : Nat) (hn : n = xs.length) (g : Nat) (hg : g = w.heap.size) (hh : W.heap = (w.alloc (.cells (xs.map Value.string).toArray t (0, 0))).heap) : IsStrs W (.slice (some ⟨g, 0, none⟩) n n) xs := by
  subst hg
  subst hn
  have r : Row W w.heap.size t (xs.map Value.string) := by unfold Row; rw [hh]; exact Row.new w t _
  refine .inr ⟨w.heap.size, 0, _, rfl, Nat.le_refl _, r.lt, fun j x hj => ?_⟩
  rw [Nat.zero_add, r.cell]
  simp [hj]

theorem below_step {w wc wn : World} (h : Below w.heap.size w wc) (b : Below wc.heap.size wc wn) : Below w.heap.size w wn := h.trans (b.mono h.size)
theorem row_step {w wn : World} {g t : Nat} {l : List Value} (h : Row w g t l) (b : Below w.heap.size w wn) : Row wn g t l := h.below b h.lt

theorem rowBack' {w : World} {g t : Nat} {l : List UInt8} {n : Nat} (hn : n = l.length) (h : Row w g t (W.cellsOf l)) : (convert 30 9 (.slice (some ⟨g, 0, none⟩) n n)).run Try.prog w = .ok (.string ⟨l.toArray⟩) w := by
  subst hn
  exact run_convert_bytes_back (P := Try.prog) w 30 9 5 ⟨g, 0, none⟩ l.length l Try.underlying30 Try.underlying5 Try.underlying9 (fun t ht => by
    have e : (⟨g, 0, none⟩ : Addr).add t = ⟨g, t, none⟩ := by unfold Addr.add; split <;> simp_all
    rw [e, h.cell]
    simp [W.cellsOf, ht])

set_option maxHeartbeats 8000000 in
theorem core (a0 : ByteArray) (n : Nat) (a2 : Int) (w : World) (w0 : a0.size ≤ maxLen) (hn : n ≤ 255) (p2 : 0 ≤ a2) (q2 : a2 ≤ 65535) :
    Calls Try.prog 3 #[.string a0, .int .u8 (n : Int), .int .u16 a2] w fun e w' => e = .returned (.bool true) ∧ Below w.heap.size w w' := by
  unfold maxLen at w0
  go_enter Try.func3, Try.ntmps3
  go_wp2_with fail
  refine (awake3_any _).mono ?_
  rintro e w1 ⟨rfl, hb1⟩
  by_cases hL : a0.size ≤ 1000
  · go_wp2_with fail
    refine (Try.strings_Repeat ⟨#[97]⟩ n _ (by omega) (by show 1 * n ≤ _; omega)).mono ?_
    rintro e w3 ⟨rfl, hb3⟩
    have hb3' := hb1.trans (hb3.mono hb1.size)
    obtain ⟨z, hz⟩ : ∃ z : ByteArray, z = ⟨(Lib.repeatL (⟨#[97]⟩ : ByteArray).data.toList n).toArray⟩ := ⟨_, rfl⟩
    have hzs : z.size = n := by rw [size_of, hz]; show (Lib.repeatL [97] n).length = n; rw [repeatL_one, List.length_replicate]
    rw [← hz]
    clear hz hb1 hb3
    have hadd := fun wx => run_string_add_sum (P := Try.prog) wx a0 z (by omega)
    obtain ⟨t, ht⟩ : ∃ t, t = a0 ++ z := ⟨_, rfl⟩
    have hts : t.size ≤ 1255 := by rw [ht, ByteArray.size_append]; omega
    rw [← ht] at hadd
    clear ht hzs
    obtain ⟨kk, hk⟩ : ∃ kk : Nat, (kk : Int) = a2 % ((t.size : Int) + 1) := ⟨(a2 % ((t.size : Int) + 1)).toNat, by have := Int.emod_nonneg a2 (show ((t.size : Int) + 1) ≠ 0 by omega); omega⟩
    have hkt : kk ≤ t.size := by have := Int.emod_lt_of_pos a2 (show (0 : Int) < (t.size : Int) + 1 by omega); omega
    have hne : ¬ (t.size : Int) + 1 = 0 := by omega
    have hk' : a2 % ((t.size : Int) + 1) = (kk : Int) := hk.symm
    clear hk
    go_wp2_with fail
    refine (sum_any _ [t] _ (isStrs_at' _ _ [t] _ rfl 1 rfl _ (by simp)) (by simp) (by rw [all_one, ← size_of]; omega)).mono ?_
    rintro e w4 ⟨rfl, hb4⟩
    rw [all_one]
    have hb4' : Below w.heap.size w w4 := (hb3'.alloc hb3'.size _).trans (hb4.mono (by have := hb3'.size; simp; omega))
    clear hb3' hb4
    obtain ⟨b, hb⟩ : ∃ b, b = S.sumL t.data.toList := ⟨_, rfl⟩
    have hbl : b.length = 32 := by rw [hb]; exact S.sumL_length _
    have hi : (Try.prog.info? 26).map (·.size) = some (W.cellsOf b).toArray.size := by rw [List.size_toArray, cellsOf_len, hbl]; kernel_rfl
    have HBL := Lib.hid hbl
    have HB := Lib.hid hb
    rw [← hb]
    clear hb hbl
    obtain ⟨wx, hwx⟩ : ∃ wx, wx = w4.alloc (.cells (W.cellsOf b).toArray 26 (0, 0)) := ⟨_, rfl⟩
    have rx : Row wx w4.heap.size 26 (W.cellsOf b) := by rw [hwx]; exact Row.new' rfl rfl
    have hbx : Below w.heap.size w wx := by rw [hwx]; exact hb4'.alloc hb4'.size _
    have hz4 := rx.lt
    have zb := hb4'.size
    go_wp2_with (first | (refine wpList_store_new rfl 26 (.tmp 9) (.tmp 28) rfl w4 _ _ _ _ rfl rfl rfl hi (by simp [cellsOf_len, HBL.out]) (cellsOf_all _) ?_; rw [← hwx]) | fail)
    clear hwx hb4' hi
    obtain ⟨gx, hgx⟩ : ∃ gx, gx = w4.heap.size := ⟨_, rfl⟩
    rw [← hgx] at rx hz4 zb ⊢
    clear hgx
    obtain ⟨x, hx⟩ : ∃ x : ByteArray, x = ⟨b.toArray⟩ := ⟨_, rfl⟩
    obtain ⟨y, hy⟩ : ∃ y : ByteArray, y = ⟨(S.padL t.data.toList).toArray⟩ := ⟨_, rfl⟩
    have CT : Hid (∀ v w xs, IsStrs w v xs → allOf xs = t.data.toList → xs.length ≤ 3 → Calls Try.prog 14 #[v] w fun e w' => e = .returned (.string x) ∧ Below w.heap.size w w') := by
      intro v w xs hv ha hl
      rw [hx, HB.out, ← ha]
      exact text_any v xs w hv (by omega) (by rw [ha, ← size_of]; omega)
    have CR : Hid (∀ w, Calls Try.prog 15 #[.string t] w fun e w' => e = .returned (.string x) ∧ Below w.heap.size w w') := by
      intro w
      rw [hx, HB.out]
      exact refText_any t (by omega) w
    have CW : Hid (∀ w, Calls Try.prog 16 #[.string t] w fun e w' => e = .returned (.string y) ∧ Below w.heap.size w w') := by
      intro w
      rw [hy]
      exact whole_any t (by omega) w
    have CP : Hid (∀ w, Calls Try.prog 17 #[.string t] w fun e w' => e = .returned (.string y) ∧ Below w.heap.size w w') := by
      intro w
      rw [hy]
      exact refPad_any t (by omega) w
    have CV : Hid (∀ w, Row w gx 26 (W.cellsOf b) → (convert 30 9 (.slice (some ⟨gx, 0, none⟩) 32 32)).run Try.prog w = .ok (.string x) w) := by
      intro w h
      rw [hx]
      exact rowBack' HBL.out.symm h
    have h3 : allOf [t.extract 0 kk, ⟨#[]⟩, t.extract kk t.size] = t.data.toList := by
      have e1 : (t.extract 0 kk).data.toList = t.data.toList.take kk := by rw [ByteArray.data_extract]; simp [List.extract_eq_take_drop]
      have e2 : (t.extract kk t.size).data.toList = t.data.toList.drop kk := by
        rw [ByteArray.data_extract]
        simp only [Array.toList_extract, List.extract_eq_take_drop]
        rw [List.take_of_length_le (by rw [List.length_drop, ← size_of]; exact Nat.le_refl _)]
      show (t.extract 0 kk).data.toList ++ ([] ++ ((t.extract kk t.size).data.toList ++ [])) = _
      rw [e1, e2]
      simp
    have H3 := Lib.hid h3
    clear h3 hx hy HB HBL
    have hbk : (kk : Int) ≤ (t.size : Int) := by omega
    have hbn := hbx
    have pn := rx
    go_region_held3 (fun w' => (convert 30 9 (.slice (some ⟨gx, 0, none⟩) 32 32)).run Try.prog w' = .ok (.string x) w' ∧ Row w' gx 26 (W.cellsOf b)) (first | exact ⟨CV.out _ (by assumption), by assumption⟩ | exact ⟨CV.out _ (Row.alloc (by assumption) _), Row.alloc (by assumption) _⟩ | exact CV.out _ (by assumption) | exact CV.out _ (Row.alloc (by assumption) _) | assumption | exact Row.alloc (by assumption) _) (first
      | (go_at_call_of 14 (Value.slice (some ⟨wx.heap.size, 0, none⟩) 1 1); refine (CT.out _ _ [t] (isStrs_h wx _ 9 [t] 1 rfl _ rfl (by rfl)) (all_one _) (by simp)).mono ?_; rintro e w5 ⟨rfl, b5⟩; have hb5 := hbn; have p5 := pn; have hbn : Below w.heap.size w w5 := below_step ((hb5.alloc hb5.size _).drew) b5; have pn : Row w5 gx 26 (W.cellsOf b) := row_step ((p5.alloc _).drew) b5; clear b5 hb5 p5)
      | (go_at_call 14; refine (CT.out _ _ [t.extract 0 kk, ⟨#[]⟩, t.extract kk t.size] (isStrs_h _ _ 9 _ 3 rfl _ rfl (by rfl)) H3.out (by simp)).mono ?_; rintro e w5 ⟨rfl, b5⟩; have hb5 := hbn; have p5 := pn; have hbn : Below w.heap.size w w5 := below_step (hb5.alloc hb5.size _) b5; have pn : Row w5 gx 26 (W.cellsOf b) := row_step (p5.alloc _) b5; clear b5 hb5 p5)
      | (go_at_call 15; refine (CR.out _).mono ?_; rintro e w5 ⟨rfl, b5⟩; have hb5 := hbn; have p5 := pn; have hbn : Below w.heap.size w w5 := below_step hb5 b5; have pn : Row w5 gx 26 (W.cellsOf b) := row_step p5 b5; clear b5 hb5 p5)
      | (go_at_call 16; refine (CW.out _).mono ?_; rintro e w5 ⟨rfl, b5⟩; have hb5 := hbn; have p5 := pn; have hbn : Below w.heap.size w w5 := below_step hb5 b5; have pn : Row w5 gx 26 (W.cellsOf b) := row_step p5 b5; clear b5 hb5 p5)
      | (go_at_call 17; refine (CP.out _).mono ?_; rintro e w5 ⟨rfl, b5⟩; have hb5 := hbn; have p5 := pn; have hbn : Below w.heap.size w w5 := below_step hb5 b5; have pn : Row w5 gx 26 (W.cellsOf b) := row_step p5 b5; clear b5 hb5 p5))
    go_wp2
    go_ret
    exact ⟨rfl, hbn⟩
  · have hg : (1000 : Int) < (a0.size : Int) := by omega
    go_wp2
    go_ret
    exact ⟨rfl, hb1⟩

theorem walk (a0 : ByteArray) (a1 : Int) (a2 : Int) (w : World) (w0 : a0.size ≤ maxLen) (w1 : (Lit.int .u8 a1).wf = true) (w2 : (Lit.int .u16 a2).wf = true) :
    Calls Try.prog 3 #[.string a0, .int .u8 a1, .int .u16 a2] w fun e w' => e = .returned (.bool true) ∧ Below w.heap.size w w' := by
  obtain ⟨p1, q1⟩ := bounds_u8 w1
  obtain ⟨p2, q2⟩ := bounds_u16 w2
  obtain ⟨n, rfl⟩ : ∃ n : Nat, a1 = (n : Int) := ⟨a1.toNat, by omega⟩
  exact core a0 n a2 w w0 (by omega) p2 q2

end Go.Proofs.Ytmpmgkdcbbefpaa.ShaSumsW
