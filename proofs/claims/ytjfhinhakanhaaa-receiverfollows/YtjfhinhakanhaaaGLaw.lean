/-
  Layer 16: Take whose Old is not there; the statements' example.
-/
import Derived.Test.YtjfhinhakanhaaaGTake
namespace Go.Proofs.Ytjfhinhakanhaaa
open Go.RowKit
set_option linter.unusedVariables false
set_option linter.unusedSimpArgs false
set_option maxRecDepth 20000

set_option maxHeartbeats 4000000 in
theorem take_19 (g n cap o nn aa tt : Nat) (d : ByteArray) (L : List R16.Cm) (w : World) (hn : L.length = n + 1) (h8 : n < 800) (hu : R16.Up L) (hc : n + 1 ≤ cap) (ha : R16.CmAt w g 0 L) (hN : ∀ i, R16.Pl L nn i → R16.at? L nn i = false ∧ 0 < i) (hO : ∀ i, R16.Pl L o i → R16.at? L o i = false) :
    Calls Try.prog 11 #[.agg #[.func (.func 18) #[] #[], .slice (some ⟨g, 0, none⟩) (n + 1) cap], .agg #[.int .u64 (o : Int), .int .u64 (nn : Int), .int .u64 (aa : Int), .int .u64 (tt : Int), .string d]] w fun e w' => e = .returned (.tuple #[.agg #[.func (.func 18) #[] #[], .slice (some ⟨g, 0, none⟩) (n + 1) cap], .bool false, .int .i64 19]) ∧ Below w.heap.size w w' := by
  have CP : Hid (∀ wx, R16.CmAt wx g 0 L → Calls Try.prog 20 #[.agg #[.func (.func 18) #[] #[], .slice (some ⟨g, 0, none⟩) (n + 1) cap], .int .u64 (nn : Int)] wx fun e w' => ∃ i : Nat, e = .returned (.tuple #[.int .i64 (i : Int), .bool false]) ∧ 0 < i ∧ Below wx.heap.size wx w') := fun wx hx => by
    refine (place_any g n cap nn L wx hn (by omega) hu hx).mono ?_
    rintro e w' ⟨i, rfl, hP, hbb⟩
    exact ⟨i, by rw [(hN i hP).1], (hN i hP).2, hbb⟩
  have CO : Hid (∀ wx, R16.CmAt wx g 0 L → Calls Try.prog 14 #[.agg #[.func (.func 18) #[] #[], .slice (some ⟨g, 0, none⟩) (n + 1) cap], .int .u64 (o : Int)] wx fun e w' => ∃ x, e = .returned (.tuple #[.string x, .bool false]) ∧ Below wx.heap.size wx w') := fun wx hx => by
    refine (of_any16 g n cap o L wx hn (by omega) hu hx).mono ?_
    rintro e w' ⟨i, rfl, hP, hbb⟩
    exact ⟨_, by rw [hO i hP], hbb⟩
  have la : g < w.heap.size := ha.lt
  have r1 : Row (((w.alloc (.cells #[.func (.func 18) #[] #[], .slice (some ⟨g, 0, none⟩) (n + 1) cap] 30 (0, 0))).alloc (.cells #[.int .u64 (o : Int), .int .u64 (nn : Int), .int .u64 (aa : Int), .int .u64 (tt : Int), .string d] 37 (0, 0))).alloc (.cells #[.nilFunc, .slice none 0 0] 30 (0, 0))) w.heap.size 30 [.func (.func 18) #[] #[], .slice (some ⟨g, 0, none⟩) (n + 1) cap] := ((Row.new' rfl rfl).alloc _).alloc _
  have i1 : Row (((w.alloc (.cells #[.func (.func 18) #[] #[], .slice (some ⟨g, 0, none⟩) (n + 1) cap] 30 (0, 0))).alloc (.cells #[.int .u64 (o : Int), .int .u64 (nn : Int), .int .u64 (aa : Int), .int .u64 (tt : Int), .string d] 37 (0, 0))).alloc (.cells #[.nilFunc, .slice none 0 0] 30 (0, 0))) (w.heap.size + 1) 37 [.int .u64 (o : Int), .int .u64 (nn : Int), .int .u64 (aa : Int), .int .u64 (tt : Int), .string d] := (Row.new' rfl (by simp)).alloc _
  have q1 : Row (((w.alloc (.cells #[.func (.func 18) #[] #[], .slice (some ⟨g, 0, none⟩) (n + 1) cap] 30 (0, 0))).alloc (.cells #[.int .u64 (o : Int), .int .u64 (nn : Int), .int .u64 (aa : Int), .int .u64 (tt : Int), .string d] 37 (0, 0))).alloc (.cells #[.nilFunc, .slice none 0 0] 30 (0, 0))) (w.heap.size + 2) 30 [.nilFunc, .slice none 0 0] := Row.new' rfl (by simp)
  have ha1 := ((ha.alloc (.cells #[.func (.func 18) #[] #[], .slice (some ⟨g, 0, none⟩) (n + 1) cap] 30 (0, 0))).alloc (.cells #[.int .u64 (o : Int), .int .u64 (nn : Int), .int .u64 (aa : Int), .int .u64 (tt : Int), .string d] 37 (0, 0))).alloc (.cells #[.nilFunc, .slice none 0 0] 30 (0, 0))
  have bb : Below w.heap.size w (((w.alloc (.cells #[.func (.func 18) #[] #[], .slice (some ⟨g, 0, none⟩) (n + 1) cap] 30 (0, 0))).alloc (.cells #[.int .u64 (o : Int), .int .u64 (nn : Int), .int .u64 (aa : Int), .int .u64 (tt : Int), .string d] 37 (0, 0))).alloc (.cells #[.nilFunc, .slice none 0 0] 30 (0, 0))) := (((Below.refl _ _).alloc (Nat.le_refl _) _).alloc (by simp) _).alloc (by simp; omega) _
  have h3 : w.heap.size + 3 ≤ (((w.alloc (.cells #[.func (.func 18) #[] #[], .slice (some ⟨g, 0, none⟩) (n + 1) cap] 30 (0, 0))).alloc (.cells #[.int .u64 (o : Int), .int .u64 (nn : Int), .int .u64 (aa : Int), .int .u64 (tt : Int), .string d] 37 (0, 0))).alloc (.cells #[.nilFunc, .slice none 0 0] 30 (0, 0))).heap.size := by simp
  clear hN hO hu ha hn h3
  go_enter Try.func11, Try.ntmps11
  go_wp2_with (refine wpList_load_row rfl 30 (.tmp 2) rfl (w.heap.size) rfl _ _ _ _ r1 Try.underlying30 rfl infoRv ?_)
  generalize ((w.alloc (.cells #[.func (.func 18) #[] #[], .slice (some ⟨g, 0, none⟩) (n + 1) cap] 30 (0, 0))).alloc (.cells #[.int .u64 (o : Int), .int .u64 (nn : Int), .int .u64 (aa : Int), .int .u64 (tt : Int), .string d] 37 (0, 0))).alloc (.cells #[.nilFunc, .slice none 0 0] 30 (0, 0)) = w1 at *
  refine (CP.out _ ha1).mono ?_
  rintro e wa6 ⟨i, rfl, hi0, bwa6⟩
  replace r1 := r1.below bwa6 r1.lt
  replace i1 := i1.below bwa6 i1.lt
  replace q1 := q1.below bwa6 q1.lt
  replace ha1 := ha1.keep bwa6
  replace bb := bb.trans (bwa6.mono bb.size)
  clear bwa6
  have e5 : ((i : Int) == 0) = false := by rw [beq_eq_false_iff_ne]; omega
  have ci10 : wa6.cell? ⟨(w.heap.size + 1), 0, none⟩ = some (.int .u64 (o : Int)) := i1.cell 0
  have tok7 : True := True.intro
  go_wp2_with (first | (refine at_op (.load 30 (.tmp 2)) (by with_reducible rfl) ?_; clear tok7; refine wpList_load_row rfl 30 (.tmp 2) rfl (w.heap.size) rfl _ _ _ _ r1 Try.underlying30 rfl infoRv ?_))
  clear ci10
  refine (CO.out _ ha1).mono ?_
  rintro e wa8 ⟨x, rfl, bwa8⟩
  replace r1 := r1.below bwa8 r1.lt
  replace i1 := i1.below bwa8 i1.lt
  replace q1 := q1.below bwa8 q1.lt
  replace ha1 := ha1.keep bwa8
  replace bb := bb.trans (bwa8.mono bb.size)
  clear bwa8
  have ci10 : wa8.cell? ⟨(w.heap.size + 1), 0, none⟩ = some (.int .u64 (o : Int)) := i1.cell 0
  have ci11 : wa8.cell? ⟨(w.heap.size + 1), 1, none⟩ = some (.int .u64 (nn : Int)) := i1.cell 1
  have tok9 : True := True.intro
  have tok10 : True := True.intro
  go_wp2_with (first | (refine at_op (.load 30 (.tmp 2)) (by with_reducible rfl) ?_; clear tok9; refine wpList_load_row rfl 30 (.tmp 2) rfl (w.heap.size) rfl _ _ _ _ r1 Try.underlying30 rfl infoRv ?_) | (refine at_op (.store 30 (.tmp 4) (.tmp 41)) (by with_reducible rfl) ?_; clear tok10; refine wpList_store_row rfl 30 (.tmp 4) (.tmp 41) rfl ((w.heap.size + 2)) _ rfl rfl _ _ q1 infoRv rfl (by simp [Value.oneCell']) ?_))
  exact bodyPost_ret (results_row_tmp2 rfl _ _ (w.heap.size + 2) 30 [.func (.func 18) #[] #[], .slice (some ⟨g, 0, none⟩) (n + 1) cap] _ rfl (q1.setRow [.func (.func 18) #[] #[], .slice (some ⟨g, 0, none⟩) (n + 1) cap]) Try.underlying30 rfl infoRv) rfl ⟨rfl, below_row bb (show _ ≤ w.heap.size + 2 by omega) _⟩

theorem Awake15_any (w : World) : Calls Try.prog 17 #[] w fun e w' => e = .returned (.bool true) ∧ Below w.heap.size w w' := by
  go_enter Try.func17, Try.ntmps17
  go_wp2_with fail
  refine (awake15_any _).mono ?_
  rintro e w1 ⟨rfl, b1⟩
  go_wp2
  go_ret
  exact ⟨rfl, b1⟩

namespace R16
def L0 : List Cm := [⟨0, ⟨#[97]⟩⟩]
def L1 : List Cm := [⟨0, ⟨#[97]⟩⟩, ⟨1, ⟨#[97, 98]⟩⟩]
theorem L0_at {j : Nat} {q : Cm} (h : L0[j]? = some q) : j = 0 ∧ q = ⟨0, ⟨#[97]⟩⟩ := by
  cases j with
  | zero => simp [L0] at h; exact ⟨rfl, h.symm⟩
  | succ j => simp [L0] at h
theorem L0_up : Up L0 := fun i j p q hij hp hq => by have := (L0_at hp).1; have := (L0_at hq).1; omega
theorem L0_pl {n i : Nat} (hn : 0 < n) (h : Pl L0 n i) : i = 1 := by
  have h1 : i ≤ 1 := h.le
  rcases Nat.lt_or_ge i 1 with c | c
  · have := h.hi 0 ⟨0, ⟨#[97]⟩⟩ (by omega) rfl
    have h2 : n ≤ 0 := this
    omega
  · omega
theorem kp_zero {L : List Cm} {a : Nat} (h : Kp L 0 a) (hl : L.length ≤ 8) : a = 0 := by
  rcases Nat.eq_zero_or_pos a with c | c
  · exact c
  · have hlt : 0 < L.length := by have := h.1; omega
    rcases h.2.1 0 (L[0]) c (List.getElem?_eq_getElem hlt) with h1 | h1 <;> omega
end R16

set_option maxHeartbeats 4000000 in
theorem awake16_any (w : World) : Calls Try.prog 7 #[] w fun e w' => e = .returned (.bool true) ∧ Below w.heap.size w w' := by
  have CR := Lib.hid rule16_any
  have CA := Lib.hid Awake15_any
  have CN := Lib.hid (new16_any ⟨#[97]⟩)
  have CU : Hid (∀ g wx, R16.CmAt wx g 0 R16.L0 → Calls Try.prog 10 #[.agg #[.func (.func 18) #[] #[], .slice (some ⟨g, 0, none⟩) 1 1]] wx fun e w' => ∃ g', e = .returned (.slice (some ⟨g', 0, none⟩) 1 1) ∧ Below wx.heap.size wx w') := fun g wx hx => by
    refine (nums16_any g 0 1 R16.L0 wx rfl (by decide) hx).mono ?_
    rintro e w' ⟨g', rfl, _, hbb⟩
    exact ⟨g', rfl, hbb⟩
  have C1 : Hid (∀ g wx, R16.CmAt wx g 0 R16.L0 → Calls Try.prog 11 #[.agg #[.func (.func 18) #[] #[], .slice (some ⟨g, 0, none⟩) 1 1], .agg #[.int .u64 5, .int .u64 6, .int .u64 0, .int .u64 0, .string ⟨#[]⟩]] wx fun e w' => e = .returned (.tuple #[.agg #[.func (.func 18) #[] #[], .slice (some ⟨g, 0, none⟩) 1 1], .bool false, .int .i64 19]) ∧ Below wx.heap.size wx w') := fun g wx hx =>
    take_19 g 0 1 5 6 0 0 ⟨#[]⟩ R16.L0 wx rfl (by decide) R16.L0_up (by decide) hx (fun i hP => by obtain rfl := R16.L0_pl (by decide) hP; exact ⟨rfl, by decide⟩) (fun i hP => by obtain rfl := R16.L0_pl (by decide) hP; rfl)
  have C2 : Hid (∀ g wx, R16.CmAt wx g 0 R16.L0 → Calls Try.prog 11 #[.agg #[.func (.func 18) #[] #[], .slice (some ⟨g, 0, none⟩) 1 1], .agg #[.int .u64 0, .int .u64 1, .int .u64 0, .int .u64 0, .string ⟨#[98]⟩]] wx fun e w' => ∃ g' cap', e = .returned (.tuple #[.agg #[.func (.func 18) #[] #[], .slice (some ⟨g', 0, none⟩) 2 cap'], .bool true, .int .i64 0]) ∧ R16.CmAt w' g' 0 R16.L1 ∧ 2 ≤ cap' ∧ Below wx.heap.size wx w') := fun g wx hx => by
    refine (take_end g 0 1 0 1 0 0 ⟨#[98]⟩ R16.L0 wx rfl (by decide) R16.L0_up (by decide) hx 0 ⟨0, ⟨#[97]⟩⟩ rfl rfl (fun j q hq => by rw [(R16.L0_at hq).2]; decide) (by decide) (by decide)).mono ?_
    rintro e w' ⟨a, m, g', cap', rfl, hk, hs, hm, hcp, hbb⟩
    have hL : R16.L0 ++ [R16.Cm.mk 1 ((⟨#[97]⟩ : ByteArray) ++ ⟨#[98]⟩)] = R16.L1 := rfl
    rw [hL] at hk hs hm
    obtain rfl := R16.kp_zero hk (by decide)
    have hm1 : m = 1 := by rw [List.drop_zero] at hm; have : R16.L1.length = 2 := rfl; omega
    subst hm1
    exact ⟨g', cap', rfl, hs, hcp, hbb⟩
  have C3 : Hid (∀ g cap wx, R16.CmAt wx g 0 R16.L1 → Calls Try.prog 15 #[.agg #[.func (.func 18) #[] #[], .slice (some ⟨g, 0, none⟩) 2 cap]] wx fun e w' => e = .returned (.tuple #[.int .u64 1, .string ⟨#[97, 98]⟩]) ∧ Below wx.heap.size wx w') := fun g cap wx hx => latest_any g 1 cap R16.L1 ⟨1, ⟨#[97, 98]⟩⟩ wx rfl (by decide) rfl hx
  have bb : Below w.heap.size w w := Below.refl _ _
  go_enter Try.func7, Try.ntmps7
  go_wp2_with fail
  refine (CR.out _).mono ?_
  rintro e wa2 ⟨rfl, bwa2⟩
  replace bb := bb.trans (bwa2.mono bb.size)
  clear bwa2
  go_wp2_with fail
  refine (CN.out _).mono ?_
  rintro e wa3 ⟨g0, rfl, H0, bwa3⟩
  replace bb := bb.trans (bwa3.mono bb.size)
  clear bwa3
  replace H0 : R16.CmAt wa3 g0 0 R16.L0 := H0
  have x1 : Row (wa3.alloc (.cells #[.nilFunc, .slice none 0 0] 30 (0, 0))) wa3.heap.size 30 ([.nilFunc, .slice none 0 0]) := Row.new' rfl rfl
  have lH0x1 : g0 < wa3.heap.size := H0.lt
  have lzx1 := bb.size
  replace H0 := (H0).alloc (.cells #[.nilFunc, .slice none 0 0] 30 (0, 0))
  replace bb := (bb).alloc bb.size (.cells #[.nilFunc, .slice none 0 0] 30 (0, 0))
  have tok4 : True := True.intro
  have tok5 : True := True.intro
  go_wp2_with (first | (refine at_op (.store 30 (.tmp 1) (.tmp 11)) (by with_reducible rfl) ?_; clear tok4; refine wpList_store_row rfl 30 (.tmp 1) (.tmp 11) rfl (wa3.heap.size) _ rfl rfl _ _ x1 infoRv rfl (by simp [Value.oneCell']) ?_) | (refine at_op (.load 30 (.tmp 1)) (by with_reducible rfl) ?_; clear tok5; refine wpList_load_row rfl 30 (.tmp 1) rfl (wa3.heap.size) rfl _ _ _ _ ((x1).setRow ([.func (.func 18) #[] #[], .slice (some ⟨g0, 0, none⟩) 1 1])) Try.underlying30 rfl infoRv ?_))
  obtain ⟨p1, hp1⟩ : ∃ p1, p1 = wa3.heap.size := ⟨_, rfl⟩
  rw [← hp1] at x1 lH0x1 lzx1 ⊢
  generalize wa3.alloc (.cells #[.nilFunc, .slice none 0 0] 30 (0, 0)) = wa6 at *
  clear hp1
  replace H0 := H0.setRow (k := (p1)) (by omega) (List.toArray ([.func (.func 18) #[] #[], .slice (some ⟨g0, 0, none⟩) 1 1]))
  replace x1 := x1.setRow ([.func (.func 18) #[] #[], .slice (some ⟨g0, 0, none⟩) 1 1])
  replace bb := below_row bb (show _ ≤ p1 by omega) (List.toArray ([.func (.func 18) #[] #[], .slice (some ⟨g0, 0, none⟩) 1 1]))
  generalize wa6.setRow p1 (List.toArray ([.func (.func 18) #[] #[], .slice (some ⟨g0, 0, none⟩) 1 1])) = wa7 at *
  refine (CU.out _ _ H0).mono ?_
  rintro e wa8 ⟨gn, rfl, bwa8⟩
  replace H0 := H0.keep bwa8
  replace x1 := x1.below bwa8 x1.lt
  replace bb := bb.trans (bwa8.mono bb.size)
  clear bwa8
  go_wp2_with fail
  refine (CA.out _).mono ?_
  rintro e wa9 ⟨rfl, bwa9⟩
  replace H0 := H0.keep bwa9
  replace x1 := x1.below bwa9 x1.lt
  replace bb := bb.trans (bwa9.mono bb.size)
  clear bwa9
  have tok10 : True := True.intro
  go_wp2_with (first | (refine at_op (.load 30 (.tmp 1)) (by with_reducible rfl) ?_; clear tok10; refine wpList_load_row rfl 30 (.tmp 1) rfl (p1) rfl _ _ _ _ x1 Try.underlying30 rfl infoRv ?_))
  refine (C1.out _ _ H0).mono ?_
  rintro e wa11 ⟨rfl, bwa11⟩
  replace H0 := H0.keep bwa11
  replace x1 := x1.below bwa11 x1.lt
  replace bb := bb.trans (bwa11.mono bb.size)
  clear bwa11
  have x2 : Row (wa11.alloc (.cells #[.nilFunc, .slice none 0 0] 30 (0, 0))) wa11.heap.size 30 ([.nilFunc, .slice none 0 0]) := Row.new' rfl rfl
  have lH0x2 : g0 < wa11.heap.size := H0.lt
  have lx1x2 : p1 < wa11.heap.size := x1.lt
  have lzx2 := bb.size
  replace H0 := (H0).alloc (.cells #[.nilFunc, .slice none 0 0] 30 (0, 0))
  replace x1 := (x1).alloc (.cells #[.nilFunc, .slice none 0 0] 30 (0, 0))
  replace bb := (bb).alloc bb.size (.cells #[.nilFunc, .slice none 0 0] 30 (0, 0))
  have tok12 : True := True.intro
  have tok13 : True := True.intro
  go_wp2_with (first | (refine at_op (.store 30 (.tmp 2) (.tmp 24)) (by with_reducible rfl) ?_; clear tok12; refine wpList_store_row rfl 30 (.tmp 2) (.tmp 24) rfl (wa11.heap.size) _ rfl rfl _ _ x2 infoRv rfl (by simp [Value.oneCell']) ?_) | (refine at_op (.load 30 (.tmp 1)) (by with_reducible rfl) ?_; clear tok13; refine wpList_load_row rfl 30 (.tmp 1) rfl (p1) rfl _ _ _ _ ((x1).setRow_other (k := wa11.heap.size) (by omega) (List.toArray ([.func (.func 18) #[] #[], .slice (some ⟨g0, 0, none⟩) 1 1]))) Try.underlying30 rfl infoRv ?_))
  obtain ⟨p2, hp2⟩ : ∃ p2, p2 = wa11.heap.size := ⟨_, rfl⟩
  rw [← hp2] at x2 lH0x2 lx1x2 lzx2 ⊢
  generalize wa11.alloc (.cells #[.nilFunc, .slice none 0 0] 30 (0, 0)) = wa14 at *
  clear hp2
  replace H0 := H0.setRow (k := (p2)) (by omega) (List.toArray ([.func (.func 18) #[] #[], .slice (some ⟨g0, 0, none⟩) 1 1]))
  replace x1 := x1.setRow_other (k := p2) (by omega) (List.toArray ([.func (.func 18) #[] #[], .slice (some ⟨g0, 0, none⟩) 1 1]))
  replace x2 := x2.setRow ([.func (.func 18) #[] #[], .slice (some ⟨g0, 0, none⟩) 1 1])
  replace bb := below_row bb (show _ ≤ p2 by omega) (List.toArray ([.func (.func 18) #[] #[], .slice (some ⟨g0, 0, none⟩) 1 1]))
  generalize wa14.setRow p2 (List.toArray ([.func (.func 18) #[] #[], .slice (some ⟨g0, 0, none⟩) 1 1])) = wa15 at *
  refine (C2.out _ _ H0).mono ?_
  rintro e wa16 ⟨g3, cap3, rfl, H3, hcp3, bwa16⟩
  replace H0 := H0.keep bwa16
  replace x1 := x1.below bwa16 x1.lt
  replace x2 := x2.below bwa16 x2.lt
  replace bb := bb.trans (bwa16.mono bb.size)
  clear bwa16
  have x5 : Row (wa16.alloc (.cells #[.nilFunc, .slice none 0 0] 30 (0, 0))) wa16.heap.size 30 ([.nilFunc, .slice none 0 0]) := Row.new' rfl rfl
  have lH0x5 : g0 < wa16.heap.size := H0.lt
  have lx1x5 : p1 < wa16.heap.size := x1.lt
  have lx2x5 : p2 < wa16.heap.size := x2.lt
  have lH3x5 : g3 < wa16.heap.size := H3.lt
  have lzx5 := bb.size
  replace H0 := (H0).alloc (.cells #[.nilFunc, .slice none 0 0] 30 (0, 0))
  replace x1 := (x1).alloc (.cells #[.nilFunc, .slice none 0 0] 30 (0, 0))
  replace x2 := (x2).alloc (.cells #[.nilFunc, .slice none 0 0] 30 (0, 0))
  replace H3 := (H3).alloc (.cells #[.nilFunc, .slice none 0 0] 30 (0, 0))
  replace bb := (bb).alloc bb.size (.cells #[.nilFunc, .slice none 0 0] 30 (0, 0))
  have tok17 : True := True.intro
  have tok18 : True := True.intro
  go_wp2_with (first | (refine at_op (.store 30 (.tmp 5) (.tmp 31)) (by with_reducible rfl) ?_; clear tok17; refine wpList_store_row rfl 30 (.tmp 5) (.tmp 31) rfl (wa16.heap.size) _ rfl rfl _ _ x5 infoRv rfl (by simp [Value.oneCell']) ?_) | (refine at_op (.load 30 (.tmp 5)) (by with_reducible rfl) ?_; clear tok18; refine wpList_load_row rfl 30 (.tmp 5) rfl (wa16.heap.size) rfl _ _ _ _ ((x5).setRow ([.func (.func 18) #[] #[], .slice (some ⟨g3, 0, none⟩) 2 cap3])) Try.underlying30 rfl infoRv ?_))
  obtain ⟨p5, hp5⟩ : ∃ p5, p5 = wa16.heap.size := ⟨_, rfl⟩
  rw [← hp5] at x5 lH0x5 lx1x5 lx2x5 lH3x5 lzx5 ⊢
  generalize wa16.alloc (.cells #[.nilFunc, .slice none 0 0] 30 (0, 0)) = wa19 at *
  clear hp5
  replace H0 := H0.setRow (k := (p5)) (by omega) (List.toArray ([.func (.func 18) #[] #[], .slice (some ⟨g3, 0, none⟩) 2 cap3]))
  replace x1 := x1.setRow_other (k := p5) (by omega) (List.toArray ([.func (.func 18) #[] #[], .slice (some ⟨g3, 0, none⟩) 2 cap3]))
  replace x2 := x2.setRow_other (k := p5) (by omega) (List.toArray ([.func (.func 18) #[] #[], .slice (some ⟨g3, 0, none⟩) 2 cap3]))
  replace H3 := H3.setRow (k := (p5)) (by omega) (List.toArray ([.func (.func 18) #[] #[], .slice (some ⟨g3, 0, none⟩) 2 cap3]))
  replace x5 := x5.setRow ([.func (.func 18) #[] #[], .slice (some ⟨g3, 0, none⟩) 2 cap3])
  replace bb := below_row bb (show _ ≤ p5 by omega) (List.toArray ([.func (.func 18) #[] #[], .slice (some ⟨g3, 0, none⟩) 2 cap3]))
  generalize wa19.setRow p5 (List.toArray ([.func (.func 18) #[] #[], .slice (some ⟨g3, 0, none⟩) 2 cap3])) = wa20 at *
  refine (C3.out _ _ _ H3).mono ?_
  rintro e wa21 ⟨rfl, bwa21⟩
  replace H0 := H0.keep bwa21
  replace x1 := x1.below bwa21 x1.lt
  replace x2 := x2.below bwa21 x2.lt
  replace H3 := H3.keep bwa21
  replace x5 := x5.below bwa21 x5.lt
  replace bb := bb.trans (bwa21.mono bb.size)
  clear bwa21
  go_wp2
  go_ret
  exact ⟨rfl, bb⟩

end Go.Proofs.Ytjfhinhakanhaaa
