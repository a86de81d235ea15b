/-
  Layer 16: ReceiverKeeps, the walk: what Throw lets go is gone, what it doesn't isn't, as long as there are at most 8; the last one stays.
-/
import Derived.Test.YtclkcillflaefaaGLaw
import Derived.OpenShut
namespace Go.Proofs.Ytclkcillflaefaa.ReceiverKeepsW
open Go.RowKit
set_option linter.unusedVariables false
set_option linter.unusedSimpArgs false
set_option maxRecDepth 20000
open R16

def rk : Nat → ByteArray
  | 0 => ⟨#[97]⟩
  | j + 1 => rk j ++ ⟨#[98]⟩
theorem rk_size (j : Nat) : (rk j).size = j + 1 := by
  induction j with
  | zero => rfl
  | succ j ih => show (rk j ++ ⟨#[98]⟩).size = _; rw [ByteArray.size_append, ih]; rfl
/-- States 0 to k, and another one behind them of a text. -/
def Ls (k : Nat) : List Cm := (List.range (k + 1)).map fun j => Cm.mk j (rk j)
theorem Ls_len (k : Nat) : (Ls k).length = k + 1 := by simp [Ls]
theorem Ls_at {k j : Nat} (h : j < k + 1) : (Ls k)[j]? = some (Cm.mk j (rk j)) := by simp [Ls, h]
theorem Ls_of {k j : Nat} {q : Cm} (h : (Ls k)[j]? = some q) : j < k + 1 ∧ q = Cm.mk j (rk j) := by
  have hj := (List.getElem?_eq_some_iff.1 h).1
  rw [Ls_len] at hj
  rw [Ls_at hj] at h
  exact ⟨hj, (Option.some.inj h).symm⟩
theorem Ls_up (k : Nat) : Up (Ls k) := fun i j p q hij hp hq => by rw [(Ls_of hp).2, (Ls_of hq).2]; exact hij
theorem Ls_succ (k : Nat) : Ls k ++ [Cm.mk (k + 1) (rk k ++ ⟨#[98]⟩)] = Ls (k + 1) := by
  unfold Ls
  rw [List.range_succ (n := k + 1), List.map_append]; rfl
/-- With a last one. -/
def Lc (k : Nat) : List Cm := Ls k ++ [Cm.mk (k + 1) (rk k ++ ⟨#[99]⟩)]
theorem Lc_len (k : Nat) : (Lc k).length = k + 2 := by simp [Lc, Ls_len]
theorem Lc_num {k j : Nat} {q : Cm} (h : (Lc k)[j]? = some q) : q.num = j := by
  unfold Lc at h
  have hj := (List.getElem?_eq_some_iff.1 h).1
  simp [Ls_len] at hj
  by_cases c : j < k + 1
  · rw [List.getElem?_append_left (by rw [Ls_len]; exact c)] at h
    rw [(Ls_of h).2]
  · rw [List.getElem?_append_right (by rw [Ls_len]; omega), Ls_len] at h
    obtain rfl : j = k + 1 := by omega
    simp at h
    rw [← h]
theorem drop_num {k a j : Nat} {q : Cm} (h : ((Lc k).drop a)[j]? = some q) : q.num = a + j := by rw [List.getElem?_drop] at h; exact Lc_num h
theorem drop_up (k a : Nat) : Up ((Lc k).drop a) := fun i j p q hij hp hq => by rw [drop_num hp, drop_num hq]; omega
/-- Which numbers are there. -/
theorem there {k thr a n i : Nat} (hk : k ≤ 6) (hK : Kp (Lc k) thr a) (hn : n < k + 2) (hP : Pl ((Lc k).drop a) n i) : at? ((Lc k).drop a) n i = (decide (thr ≤ n) || decide (n = k + 1)) := by
  have hl := Lc_len k
  have hal := hK.1
  have hiff : a ≤ n ↔ (thr ≤ n ∨ n = k + 1) := by
    constructor
    · intro h
      rcases hK.2.2 with h1 | ⟨h1, _⟩
      · exact .inr (by omega)
      · have := h1 ((Lc k)[a]'(by omega)) (List.getElem?_eq_getElem (by omega))
        have h2 := Lc_num (k := k) (j := a) (List.getElem?_eq_getElem (by omega))
        exact .inl (by omega)
    · intro h
      rcases Nat.lt_or_ge n a with c | c
      · rcases hK.2.1 n ((Lc k)[n]'(by omega)) c (List.getElem?_eq_getElem (by omega)) with h1 | h1
        · have h2 := Lc_num (k := k) (j := n) (List.getElem?_eq_getElem (by omega))
          omega
        · omega
      · exact c
  have hdl : ((Lc k).drop a).length = k + 2 - a := by rw [List.length_drop, hl]
  have hbool : (decide (thr ≤ n) || decide (n = k + 1)) = decide (a ≤ n) := by rw [Bool.eq_iff_iff]; simp [hiff]
  rw [hbool]
  unfold at?
  by_cases c : a ≤ n
  · have hi : i = n - a := by
      have h1 := hP.le
      rcases Nat.lt_trichotomy i (n - a) with h | h | h
      · have := hP.hi i (((Lc k).drop a)[i]'(by omega)) (Nat.le_refl _) (List.getElem?_eq_getElem (by omega))
        have h2 := drop_num (k := k) (a := a) (j := i) (List.getElem?_eq_getElem (by omega))
        omega
      · exact h
      · have := hP.lo (n - a) (((Lc k).drop a)[n - a]'(by omega)) h (List.getElem?_eq_getElem (by omega))
        have h2 := drop_num (k := k) (a := a) (j := n - a) (List.getElem?_eq_getElem (by omega))
        omega
    subst hi
    rw [List.getElem?_eq_getElem (by omega : n - a < ((Lc k).drop a).length)]
    have h2 := drop_num (k := k) (a := a) (j := n - a) (List.getElem?_eq_getElem (by omega))
    simp only [decide_eq_true c]
    exact decide_eq_true (by omega)
  · rw [decide_eq_false c]
    cases h : ((Lc k).drop a)[i]? with
    | none => rfl
    | some q =>
      have := drop_num h
      exact decide_eq_false (by omega)

theorem cm_ne {w : World} {L : List Cm} {g p : Nat} {t : TypeId} {v : Value} (h : CmAt w g 0 L) (hp : 1 ≤ L.length) (r : Row w p t [.func (.func 18) #[] #[], v]) : g ≠ p := by
  rintro rfl
  obtain ⟨t', pre, sp, h1, r'⟩ := h
  have e := r.symm.trans r'
  obtain ⟨q, l, hq⟩ : ∃ q l, L = q :: l := by
    cases hL : L with
    | nil => rw [hL] at hp; simp at hp
    | cons q l => exact ⟨q, l, rfl⟩
  obtain rfl : pre = [] := List.eq_nil_of_length_eq_zero h1
  rw [hq] at e
  simp [cellsL, Cm.c] at e

set_option maxHeartbeats 2000000 in
theorem walk (a0 : Int) (a1 : Int) (w : World) (w0 : (Lit.int .u8 a0).wf = true) (w1 : (Lit.int .u64 a1).wf = true) :
    Calls Try.prog 5 #[.int .u8 a0, .int .u64 a1] w fun e w' => e = .returned (.bool true) ∧ Below w.heap.size w w' := by
  obtain ⟨z0, z1⟩ := Go.bounds_u8 w0
  obtain ⟨y0, y1⟩ := Go.bounds_u64 w1
  obtain ⟨n, rfl⟩ := Int.eq_ofNat_of_zero_le z0
  obtain ⟨thr, rfl⟩ := Int.eq_ofNat_of_zero_le y0
  have CL := Lib.hid awake16_any
  have CR := Lib.hid rule16_any
  clear w0 w1 z0 y0
  obtain ⟨k, hk⟩ : ∃ k, k = n % 7 := ⟨_, rfl⟩
  have hk6 : k ≤ 6 := by omega
  have t1 : ((n : Int).tmod 7) = (k : Int) := by rw [hk]; rfl
  have q1 : ((n : Int) % 7) = (k : Int) := by rw [hk]; rfl
  clear hk
  have HK := Lib.hid hk6
  have CN := Lib.hid (new16_any ⟨#[97]⟩)
  have CT : Hid (∀ (i g cap : Nat) (wx : World), i ≤ 6 → i + 1 ≤ cap → CmAt wx g 0 (Ls i) → Calls Try.prog 11 #[.agg #[.func (.func 18) #[] #[], .slice (some ⟨g, 0, none⟩) (i + 1) cap], .agg #[.int .u64 (i : Int), .int .u64 ((i + 1 : Nat) : Int), .int .u64 0, .int .u64 0, .string ⟨#[98]⟩]] wx fun e w' => ∃ g' cap', e = .returned (.tuple #[.agg #[.func (.func 18) #[] #[], .slice (some ⟨g', 0, none⟩) (i + 1 + 1) cap'], .bool true, .int .i64 0]) ∧ CmAt w' g' 0 (Ls (i + 1)) ∧ i + 1 + 1 ≤ cap' ∧ Below wx.heap.size wx w') := fun i g cap wx hi hcp hx => by
    refine (take_end g i cap i (i + 1) 0 0 ⟨#[98]⟩ (Ls i) wx (Ls_len i) (by omega) (Ls_up i) hcp hx i (Cm.mk i (rk i)) (Ls_at (by omega)) rfl (fun j q hq => by obtain ⟨h1, rfl⟩ := Ls_of hq; show j < i + 1; exact h1) (by decide) (by show (rk i).size + 1 ≤ _; rw [rk_size]; omega)).mono ?_
    rintro e w' ⟨a, m, g', cap', rfl, hK, hs, hm, hcp', hbb⟩
    rw [show (Cm.mk i (rk i)).tx = rk i from rfl, Ls_succ] at hK hs hm
    obtain rfl := kp_zero hK (by rw [Ls_len]; omega)
    rw [List.drop_zero] at hs hm
    rw [Ls_len] at hm
    obtain rfl : m = i + 1 := by omega
    exact ⟨g', cap', rfl, hs, hcp', hbb⟩
  have CF : Hid (∀ (g cap : Nat) (wx : World), k + 1 ≤ cap → CmAt wx g 0 (Ls k) → Calls Try.prog 11 #[.agg #[.func (.func 18) #[] #[], .slice (some ⟨g, 0, none⟩) (k + 1) cap], .agg #[.int .u64 (k : Int), .int .u64 ((k + 1 : Nat) : Int), .int .u64 0, .int .u64 (thr : Int), .string ⟨#[99]⟩]] wx fun e w' => ∃ a m g' cap', e = .returned (.tuple #[.agg #[.func (.func 18) #[] #[], .slice (some ⟨g', 0, none⟩) (m + 1) cap'], .bool true, .int .i64 0]) ∧ Hid (Kp (Lc k) thr a) ∧ Hid (((Lc k).drop a).length = m + 1) ∧ CmAt w' g' 0 ((Lc k).drop a) ∧ m ≤ 8 ∧ m + 1 ≤ cap' ∧ Below wx.heap.size wx w') := fun g cap wx hcp hx => by
    refine (take_end g k cap k (k + 1) 0 thr ⟨#[99]⟩ (Ls k) wx (Ls_len k) (by have := HK.out; omega) (Ls_up k) hcp hx k (Cm.mk k (rk k)) (Ls_at (by omega)) rfl (fun j q hq => by obtain ⟨h1, rfl⟩ := Ls_of hq; show j < k + 1; exact h1) (by decide) (by show (rk k).size + 1 ≤ _; have := HK.out; rw [rk_size]; omega)).mono ?_
    rintro e w' ⟨a, m, g', cap', rfl, hK, hs, hm, hcp', hbb⟩
    refine ⟨a, m, g', cap', rfl, hK, hm, hs, ?_, hcp', hbb⟩
    have h1 : ((Lc k).drop a).length = m + 1 := hm
    rw [List.length_drop, Lc_len] at h1
    have := HK.out
    omega
  have CU : Hid (∀ (g cap : Nat) (wx : World), CmAt wx g 0 (Ls k) → Calls Try.prog 10 #[.agg #[.func (.func 18) #[] #[], .slice (some ⟨g, 0, none⟩) (k + 1) cap]] wx fun e w' => ∃ g', e = .returned (.slice (some ⟨g', 0, none⟩) (k + 1) (k + 1)) ∧ Below wx.heap.size wx w') := fun g cap wx hx => by
    refine (nums16_any g k cap (Ls k) wx (Ls_len k) (by have := HK.out; omega) hx).mono ?_
    rintro e w' ⟨g', rfl, _, hbb⟩
    exact ⟨g', rfl, hbb⟩
  have bb : Below w.heap.size w w := Below.refl _ _
  go_enter Try.func5, Try.ntmps5
  go_wp2_with fail
  refine (CL.out _).mono ?_
  rintro e wa2 ⟨rfl, bwa2⟩
  replace bb := bb.trans (bwa2.mono bb.size)
  clear bwa2
  go_wp2_with fail
  refine (CR.out _).mono ?_
  rintro e wa3 ⟨rfl, bwa3⟩
  replace bb := bb.trans (bwa3.mono bb.size)
  clear bwa3
  go_wp2_with fail
  refine (CN.out _).mono ?_
  rintro e wa4 ⟨g0, rfl, H0, bwa4⟩
  replace bb := bb.trans (bwa4.mono bb.size)
  clear bwa4
  replace H0 : CmAt wa4 g0 0 (Ls 0) := H0
  have x1 : Row (wa4.alloc (.cells #[.nilFunc, .slice none 0 0] 30 (0, 0))) wa4.heap.size 30 ([.nilFunc, .slice none 0 0]) := Row.new' rfl rfl
  have lH0x1 : g0 < wa4.heap.size := H0.lt
  have lzx1 := bb.size
  replace H0 := (H0).alloc (.cells #[.nilFunc, .slice none 0 0] 30 (0, 0))
  replace bb := (bb).alloc bb.size (.cells #[.nilFunc, .slice none 0 0] 30 (0, 0))
  have tok5 : True := True.intro
  go_wp2_with (first | (refine at_op (.store 30 (.tmp 5) (.tmp 18)) (by with_reducible rfl) ?_; clear tok5; refine wpList_store_row rfl 30 (.tmp 5) (.tmp 18) rfl (wa4.heap.size) _ rfl rfl _ _ x1 infoRv rfl (by simp [Value.oneCell']) ?_))
  obtain ⟨p1, hp1⟩ : ∃ p1, p1 = wa4.heap.size := ⟨_, rfl⟩
  rw [← hp1] at x1 lH0x1 lzx1 ⊢
  generalize wa4.alloc (.cells #[.nilFunc, .slice none 0 0] 30 (0, 0)) = wa6 at *
  clear hp1
  replace H0 := H0.setRow (k := (p1)) (by omega) (List.toArray ([.func (.func 18) #[] #[], .slice (some ⟨g0, 0, none⟩) 1 1]))
  replace x1 := x1.setRow ([.func (.func 18) #[] #[], .slice (some ⟨g0, 0, none⟩) 1 1])
  replace bb := below_row bb (show _ ≤ p1 by omega) (List.toArray ([.func (.func 18) #[] #[], .slice (some ⟨g0, 0, none⟩) 1 1]))
  generalize wa6.setRow p1 (List.toArray ([.func (.func 18) #[] #[], .slice (some ⟨g0, 0, none⟩) 1 1])) = wa7 at *
  clear CR CN CL
  go_wp2
  go_loopw [23] (fun iv wr => ∃ (i g cap : Nat), i ≤ k ∧ iv = .int .u64 (i : Int) ∧ i + 1 ≤ cap ∧ g ≠ p1 ∧ Row wr p1 30 [.func (.func 18) #[] #[], .slice (some ⟨g, 0, none⟩) (i + 1) cap] ∧ CmAt wr g 0 (Ls i) ∧ Below w.heap.size w wr) (fun iv _ => k - (intOf iv).toNat)
  case atStart => exact ⟨0, g0, 1, Nat.zero_le _, rfl, Nat.le_refl _, cm_ne H0 (by decide) x1, x1, H0, bb⟩
  case round =>
    clear x1 H0 bb
    obtain ⟨i, g, cap, hi, rfl, hcp, hgp, x1, H0, bb⟩ := hrel
    by_cases hlt : i < k
    · have hs : (i : Int) < (k : Int) := by omega
      obtain ⟨j, hj⟩ : ∃ j, j = i + 1 := ⟨_, rfl⟩
      have y1 : IntKind.u64.wrap ((i : Int) + 1) = (j : Int) := by rw [IntKind.wrap_u64]; omega
      have CT1 := fun wx hx => CT.out i g cap wx (by omega) hcp hx
      have hij := Lib.hid hj
      rw [← hj] at CT1
      have CT2 := Lib.hid CT1
      rw [← hj] at x1
      clear hj CT1
      have tok21 : True := True.intro
      go_wp2_with (first | (refine at_op (.load 30 (.tmp 5)) (by with_reducible rfl) ?_; clear tok21; refine wpList_load_row rfl 30 (.tmp 5) rfl (p1) rfl _ _ _ _ x1 Try.underlying30 rfl infoRv ?_))
      refine (CT2.out _ H0).mono ?_
      rintro e wa22 ⟨g2, cap2, rfl, H2, hcp2, bwa22⟩
      replace x1 := x1.below bwa22 x1.lt
      replace H0 := H0.keep bwa22
      replace bb := bb.trans (bwa22.mono bb.size)
      clear bwa22
      clear H0
      have hne := cm_ne H2 (by rw [Ls_len]; omega) x1
      have tok23 : True := True.intro
      go_wp2_with (first | (refine at_op (.store 30 (.tmp 5) (.tmp 33)) (by with_reducible rfl) ?_; clear tok23; refine wpList_store_row rfl 30 (.tmp 5) (.tmp 33) rfl (p1) _ rfl rfl _ _ x1 infoRv rfl (by simp [Value.oneCell']) ?_))
      replace x1 := x1.setRow ([.func (.func 18) #[] #[], .slice (some ⟨g2, 0, none⟩) (j + 1) cap2])
      replace H2 := H2.setRow (k := (p1)) (by omega) (List.toArray ([.func (.func 18) #[] #[], .slice (some ⟨g2, 0, none⟩) (j + 1) cap2]))
      replace bb := below_row bb (show _ ≤ p1 by omega) (List.toArray ([.func (.func 18) #[] #[], .slice (some ⟨g2, 0, none⟩) (j + 1) cap2]))
      generalize wa22.setRow p1 (List.toArray ([.func (.func 18) #[] #[], .slice (some ⟨g2, 0, none⟩) (j + 1) cap2])) = wa24 at *
      go_wp2
      go_roundw
      case rel => exact ⟨j, g2, cap2, by have := hij.out; omega, by first | rfl | (rw [hij.out]; go_num), hcp2, hne, x1, H2, bb⟩
      case measure => have := hij.out; simp [intOf]; omega
    · obtain rfl : i = k := by omega
      obtain ⟨j, hj⟩ : ∃ j, j = i + 1 := ⟨_, rfl⟩
      have y1 : IntKind.u64.wrap ((i : Int) + 1) = (j : Int) := by rw [IntKind.wrap_u64]; omega
      have y2 : IntKind.u64.wrap ((i : Int) + 2) = (i : Int) + 2 := by rw [IntKind.wrap_u64]; omega
      have y3 : IntKind.i64.wrap (i : Int) = (i : Int) := by rw [IntKind.wrap_i64]; omega
      have y4 : IntKind.i64.wrap ((i : Int) + 1) = (j : Int) := by rw [IntKind.wrap_i64]; omega
      have CF1 := fun wx hx => CF.out g cap wx hcp hx
      have CU1 := fun wx hx => CU.out g cap wx hx
      have hij := Lib.hid hj
      have hj7 : j ≤ 7 := by omega
      rw [← hj] at CF1 CU1 x1
      have CF2 := Lib.hid CF1
      have CU2 := Lib.hid CU1
      clear hj CF1 CU1 CF CU CT
      have tok101 : True := True.intro
      go_wp2_with (first | (refine at_op (.load 30 (.tmp 5)) (by with_reducible rfl) ?_; clear tok101; refine wpList_load_row rfl 30 (.tmp 5) rfl (p1) rfl _ _ _ _ x1 Try.underlying30 rfl infoRv ?_))
      refine (CF2.out _ H0).mono ?_
      rintro e wa102 ⟨a, m, g2, cap2, rfl, hK, hM, H2, hm8, hcp2, bwa102⟩
      replace x1 := x1.below bwa102 x1.lt
      replace H0 := H0.keep bwa102
      replace bb := bb.trans (bwa102.mono bb.size)
      clear bwa102
      have x9 : Row (wa102.alloc (.cells #[.nilFunc, .slice none 0 0] 30 (0, 0))) wa102.heap.size 30 ([.nilFunc, .slice none 0 0]) := Row.new' rfl rfl
      have lx1x9 : p1 < wa102.heap.size := x1.lt
      have lH0x9 : g < wa102.heap.size := H0.lt
      have lH2x9 : g2 < wa102.heap.size := H2.lt
      have lzx9 := bb.size
      replace x1 := (x1).alloc (.cells #[.nilFunc, .slice none 0 0] 30 (0, 0))
      replace H0 := (H0).alloc (.cells #[.nilFunc, .slice none 0 0] 30 (0, 0))
      replace H2 := (H2).alloc (.cells #[.nilFunc, .slice none 0 0] 30 (0, 0))
      replace bb := (bb).alloc bb.size (.cells #[.nilFunc, .slice none 0 0] 30 (0, 0))
      have tok103 : True := True.intro
      go_wp2_with (first | (refine at_op (.store 30 (.tmp 9) (.tmp 47)) (by with_reducible rfl) ?_; clear tok103; refine wpList_store_row rfl 30 (.tmp 9) (.tmp 47) rfl (wa102.heap.size) _ rfl rfl _ _ x9 infoRv rfl (by simp [Value.oneCell']) ?_))
      obtain ⟨p9, hp9⟩ : ∃ p9, p9 = wa102.heap.size := ⟨_, rfl⟩
      rw [← hp9] at x9 lx1x9 lH0x9 lH2x9 lzx9 ⊢
      generalize wa102.alloc (.cells #[.nilFunc, .slice none 0 0] 30 (0, 0)) = wa104 at *
      clear hp9
      replace x1 := x1.setRow_other (k := p9) (by omega) (List.toArray ([.func (.func 18) #[] #[], .slice (some ⟨g2, 0, none⟩) (m + 1) cap2]))
      replace H0 := H0.setRow (k := (p9)) (by omega) (List.toArray ([.func (.func 18) #[] #[], .slice (some ⟨g2, 0, none⟩) (m + 1) cap2]))
      replace H2 := H2.setRow (k := (p9)) (by omega) (List.toArray ([.func (.func 18) #[] #[], .slice (some ⟨g2, 0, none⟩) (m + 1) cap2]))
      replace x9 := x9.setRow ([.func (.func 18) #[] #[], .slice (some ⟨g2, 0, none⟩) (m + 1) cap2])
      replace bb := below_row bb (show _ ≤ p9 by omega) (List.toArray ([.func (.func 18) #[] #[], .slice (some ⟨g2, 0, none⟩) (m + 1) cap2]))
      generalize wa104.setRow p9 (List.toArray ([.func (.func 18) #[] #[], .slice (some ⟨g2, 0, none⟩) (m + 1) cap2])) = wa105 at *
      have hq9 := cm_ne H2 (by rw [hM.out]; omega) x9
      go_wp2
      go_loopw [52] (fun iv wr => ∃ (q : Nat), q ≤ i + 2 ∧ iv = .int .u64 (q : Int) ∧ g2 ≠ p9 ∧ Row wr p1 30 [.func (.func 18) #[] #[], .slice (some ⟨g, 0, none⟩) (j) cap] ∧ Row wr p9 30 [.func (.func 18) #[] #[], .slice (some ⟨g2, 0, none⟩) (m + 1) cap2] ∧ CmAt wr g 0 (Ls i) ∧ CmAt wr g2 0 ((Lc i).drop a) ∧ Below w.heap.size w wr) (fun iv _ => i + 2 - (intOf iv).toNat)
      case atStart => exact ⟨0, Nat.zero_le _, rfl, hq9, x1, x9, H0, H2, bb⟩
      case round =>
        clear hq9 x1 x9 H0 H2 bb
        obtain ⟨q, hq, rfl, hq9, x1, x9, H0, H2, bb⟩ := hrel
        by_cases hlq : q < i + 2
        · have hs : (q : Int) < (i : Int) + 2 := by omega
          have CO : Hid (∀ wx, CmAt wx g2 0 ((Lc i).drop a) → Calls Try.prog 14 #[.agg #[.func (.func 18) #[] #[], .slice (some ⟨g2, 0, none⟩) (m + 1) cap2], .int .u64 (q : Int)] wx fun e w' => ∃ x, e = .returned (.tuple #[.string x, .bool (decide (thr ≤ q) || decide (q = i + 1))]) ∧ Below wx.heap.size wx w') := fun wx hx => by
            refine (of_any16 g2 m cap2 q ((Lc i).drop a) wx hM.out (by omega) (drop_up i a) hx).mono ?_
            rintro e w' ⟨i2, rfl, hP, hbb⟩
            exact ⟨_, by rw [there HK.out hK.out hlq hP], hbb⟩
          have tok201 : True := True.intro
          go_wp2_with (first | (refine at_op (.load 30 (.tmp 9)) (by with_reducible rfl) ?_; clear tok201; refine wpList_load_row rfl 30 (.tmp 9) rfl (p9) rfl _ _ _ _ x9 Try.underlying30 rfl infoRv ?_))
          refine (CO.out _ H2).mono ?_
          rintro e wa202 ⟨x, rfl, bwa202⟩
          replace x1 := x1.below bwa202 x1.lt
          replace x9 := x9.below bwa202 x9.lt
          replace H0 := H0.keep bwa202
          replace H2 := H2.keep bwa202
          replace bb := bb.trans (bwa202.mono bb.size)
          clear bwa202
          have hij1 := hij.out
          by_cases h1 : thr ≤ q
          · have d1 : decide ((thr : Int) ≤ (q : Int)) = true := decide_eq_true (by omega)
            rw [decide_eq_true h1, Bool.true_or]
            have e1 : (thr : Int) ≤ (q : Int) := by omega
            clear h1 CO hij1
            go_wp2
            go_roundw
            case rel => exact ⟨q + 1, by omega, by go_num, hq9, x1, x9, H0, H2, bb⟩
            case measure => simp [intOf]; omega
          · have d1 : decide ((thr : Int) ≤ (q : Int)) = false := decide_eq_false (by omega)
            have e1 : ¬ (thr : Int) ≤ (q : Int) := by omega
            rw [decide_eq_false h1, Bool.false_or]
            by_cases h2 : q = i + 1
            · rw [decide_eq_true h2]
              have e2 : ((q : Int) == (j : Int)) = true := by rw [beq_iff_eq]; omega
              clear h1 h2 CO hij1
              go_wp2
              go_roundw
              case rel => exact ⟨q + 1, by omega, by go_num, hq9, x1, x9, H0, H2, bb⟩
              case measure => simp [intOf]; omega
            · rw [decide_eq_false h2]
              have e2 : ((q : Int) == (j : Int)) = false := by rw [beq_eq_false_iff_ne]; omega
              clear h1 h2 CO hij1
              go_wp2
              go_roundw
              case rel => exact ⟨q + 1, by omega, by go_num, hq9, x1, x9, H0, H2, bb⟩
              case measure => simp [intOf]; omega
        · obtain rfl : q = i + 2 := by omega
          have tok301 : True := True.intro
          go_wp2_with (first | (refine at_op (.load 30 (.tmp 5)) (by with_reducible rfl) ?_; clear tok301; refine wpList_rowT (by rfl) 30 (.tmp 5) rfl (p1) rfl _ _ _ (x1) Try.underlying30 rfl infoRv ?_))
          refine (CU2.out _ H0).mono ?_
          rintro e wa302 ⟨gn, rfl, bwa302⟩
          replace x1 := x1.below bwa302 x1.lt
          replace x9 := x9.below bwa302 x9.lt
          replace H0 := H0.keep bwa302
          replace bb := bb.trans (bwa302.mono bb.size)
          clear bwa302
          go_wp2
          go_ret
          exact ⟨rfl, bb⟩

end Go.Proofs.Ytclkcillflaefaa.ReceiverKeepsW
