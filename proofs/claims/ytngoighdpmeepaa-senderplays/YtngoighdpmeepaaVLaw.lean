/-
  Layer 15's statements: their example.
-/
import Derived.Test.YtngoighdpmeepaaVSn
import Derived.Test.YtngoighdpmeepaaAwake
namespace Go.Proofs.Ytngoighdpmeepaa
open Go.RowKit
set_option linter.unusedVariables false
set_option linter.unusedSimpArgs false
set_option maxRecDepth 20000

theorem Awake01_any (w : World) : Calls Try.prog 28 #[] w fun e w' => e = .returned (.bool true) ∧ Below w.heap.size w w' := by
  go_enter Try.func28, Try.ntmps28
  go_wp2_with fail
  refine (awake_any _).mono ?_
  rintro e w1 ⟨rfl, b1⟩
  go_wp2
  go_ret
  exact ⟨rfl, b1⟩

theorem at_op {P : Program} {ops : Array Oper} {rest : List Oper} {o : Oper} {a : Act} {w : World} {Q : Exit → Act → World → Prop} (x : Op) (hx : o.op = x) (h : wpList P ops Q (o :: rest) a w) : wpList P ops Q (o :: rest) a w := h
theorem held_ne {w : World} {s s' : S15.Sn} {g cap p g' cap' : Nat} {t : TypeId} (h : S15.Held w s g cap) (hp : 1 ≤ s.L.length) (r : Row w p t (s'.c g' cap')) : g ≠ p := by
  rintro rfl
  obtain ⟨⟨t', pre, sp, h1, r'⟩, _, _⟩ := h
  have e := r.symm.trans r'
  obtain ⟨q, l, hq⟩ : ∃ q l, s.L = q :: l := by
    cases hL : s.L with
    | nil => rw [hL] at hp; simp at hp
    | cons q l => exact ⟨q, l, rfl⟩
  obtain rfl : pre = [] := List.eq_nil_of_length_eq_zero h1
  rw [hq] at e
  simp [S15.Sn.c, S15.cellsL, S15.St.c] at e

namespace S15
theorem ok_new1 : Ok 1 0 0 (new ⟨#[97]⟩) := Ok.new (by decide)
theorem ex_goes : ((new ⟨#[97]⟩).set ⟨#[98]⟩).goes 3 10 100 = true := by decide
theorem ex_io : ((new ⟨#[97]⟩).set ⟨#[98]⟩).io 3 10 100 = 0 := by decide
theorem ex_iN : ((new ⟨#[97]⟩).set ⟨#[98]⟩).iN 3 10 100 = 1 := by decide
theorem ex_ia : ((new ⟨#[97]⟩).set ⟨#[98]⟩).ia 3 10 100 7 = 7 := by decide
theorem ex_id : ((new ⟨#[97]⟩).set ⟨#[98]⟩).id 3 10 100 = ⟨#[97, 62, 98]⟩ := by
  unfold Sn.id
  rw [ex_goes, if_pos rfl]
  rfl
theorem ex_q0 : (new ⟨#[97]⟩).quiet = true := by decide
theorem ex_q2 : (((new ⟨#[97]⟩).set ⟨#[98]⟩).next 3 10 100).quiet = false := by decide
theorem ex_q3 : ((((new ⟨#[97]⟩).set ⟨#[98]⟩).next 3 10 100).acked 1).quiet = true := by decide
end S15

set_option maxHeartbeats 4000000 in
theorem awake15_any (w : World) : Calls Try.prog 8 #[] w fun e w' => e = .returned (.bool true) ∧ Below w.heap.size w w' := by
  obtain ⟨s0, hs0⟩ : ∃ s, s = S15.new ⟨#[97]⟩ := ⟨_, rfl⟩
  obtain ⟨s1, hs1⟩ : ∃ s, s = s0.set ⟨#[98]⟩ := ⟨_, rfl⟩
  obtain ⟨s2, hs2⟩ : ∃ s, s = s1.next 3 10 100 := ⟨_, rfl⟩
  obtain ⟨s3, hs3⟩ : ∃ s, s = s2.acked 1 := ⟨_, rfl⟩
  have O0 : S15.Ok 1 0 3 s0 := by rw [hs0]; exact S15.ok_new1.mono (by decide) (by decide) (by decide)
  have O1 : S15.Ok 1 0 3 s1 := by rw [hs1]; exact O0.set (by decide)
  have O2 : S15.Ok 1 1 3 s2 := by rw [hs2]; exact O1.next 10 100 (by decide)
  have O3 : S15.Ok 1 1 3 s3 := by rw [hs3]; exact O2.acked 1
  have CR := Lib.hid rule_any
  have CA := Lib.hid Awake01_any
  have CW : Hid (∀ wx, Calls Try.prog 13 #[.string ⟨#[97]⟩, .agg #[.func (.func 34) #[] #[], .func (.func 35) #[] #[]]] wx fun e w' => ∃ g cap, e = .returned (.agg (s0.c g cap).toArray) ∧ S15.Held w' s0 g cap ∧ Below wx.heap.size wx w') := fun wx => by rw [hs0]; exact new_sn _ wx
  have CNu : Hid (∀ g cap wx, S15.Held wx s0 g cap → Calls Try.prog 21 #[.agg (s0.c g cap).toArray] wx fun e w' => ∃ g', e = .returned (.slice (some ⟨g', 0, none⟩) 1 1) ∧ Below wx.heap.size wx w') := fun g cap wx hx => by
    have h1 : s0.L.length = 1 := by rw [hs0]; rfl
    refine (nums_sn s0 g cap wx O0 hx).mono ?_
    rintro e w' ⟨g', rfl, _, hb⟩
    exact ⟨g', by rw [h1], hb⟩
  have CS : Hid (∀ g cap wx, S15.Held wx s0 g cap → Calls Try.prog 16 #[.agg (s0.c g cap).toArray, .string ⟨#[98]⟩] wx fun e w' => e = .returned (.agg (s1.c g cap).toArray) ∧ S15.Held w' s1 g cap ∧ Below wx.heap.size wx w') := fun g cap wx hx => by rw [hs1]; exact set_sn s0 _ g cap wx hx O0.pos
  have CX : Hid (∀ g cap wx, S15.Held wx s1 g cap → Calls Try.prog 22 #[.agg (s1.c g cap).toArray, .int .u64 3, .int .u64 10, .int .u64 100, .int .u64 7] wx fun e w' => ∃ g' cap', e = .returned (.tuple #[.agg (s2.c g' cap').toArray, .agg #[.int .u64 0, .int .u64 1, .int .u64 7, .int .u64 0, .string ⟨#[97, 62, 98]⟩], .bool true]) ∧ S15.Held w' s2 g' cap' ∧ Below wx.heap.size wx w') := fun g cap wx hx => by
    have := next_sn s1 g cap 3 10 100 7 wx O1 (by decide) (by decide) (by decide) (by decide) (by decide) hx
    rw [← hs2] at this
    rw [show s1 = (S15.new ⟨#[97]⟩).set ⟨#[98]⟩ by rw [hs1, hs0], S15.ex_goes, S15.ex_io, S15.ex_iN, S15.ex_ia, S15.ex_id] at this
    rw [show s1 = (S15.new ⟨#[97]⟩).set ⟨#[98]⟩ by rw [hs1, hs0]]
    exact this
  have CQ0 : Hid (∀ g cap wx, S15.Held wx s0 g cap → Calls Try.prog 26 #[.agg (s0.c g cap).toArray] wx fun e w' => e = .returned (.bool true) ∧ Below wx.heap.size wx w') := fun g cap wx hx => by
    have := quiet_sn s0 g cap wx O0 hx
    rw [show s0.quiet = true by rw [hs0, S15.ex_q0]] at this
    exact this
  have CQ2 : Hid (∀ g cap wx, S15.Held wx s2 g cap → Calls Try.prog 26 #[.agg (s2.c g cap).toArray] wx fun e w' => e = .returned (.bool false) ∧ Below wx.heap.size wx w') := fun g cap wx hx => by
    have := quiet_sn s2 g cap wx O2 hx
    rw [show s2.quiet = false by rw [hs2, hs1, hs0, S15.ex_q2]] at this
    exact this
  have CQ3 : Hid (∀ g cap wx, S15.Held wx s3 g cap → Calls Try.prog 26 #[.agg (s3.c g cap).toArray] wx fun e w' => e = .returned (.bool true) ∧ Below wx.heap.size wx w') := fun g cap wx hx => by
    have := quiet_sn s3 g cap wx O3 hx
    rw [show s3.quiet = true by rw [hs3, hs2, hs1, hs0, S15.ex_q3]] at this
    exact this
  have CK : Hid (∀ g cap wx, S15.Held wx s2 g cap → Calls Try.prog 17 #[.agg (s2.c g cap).toArray, .int .u64 1] wx fun e w' => ∃ g' cap', e = .returned (.agg (s3.c g' cap').toArray) ∧ S15.Held w' s3 g' cap' ∧ Below wx.heap.size wx w') := fun g cap wx hx => by rw [hs3]; exact acked_sn s2 g cap 1 wx O2 hx
  have bb : Below w.heap.size w w := Below.refl _ _
  clear hs0 hs1 hs2 hs3 O0 O1 O2 O3
  go_enter Try.func8, Try.ntmps8
  go_wp2_with fail
  refine (CR.out _).mono ?_
  rintro e wa2 ⟨rfl, bwa2⟩
  replace bb := bb.trans (bwa2.mono bb.size)
  clear bwa2
  go_wp2_with fail
  refine (CW.out _).mono ?_
  rintro e wa3 ⟨g0, cap0, rfl, H0, bwa3⟩
  replace bb := bb.trans (bwa3.mono bb.size)
  clear bwa3
  have x1 : Row (wa3.alloc (.cells #[.nilFunc, .nilFunc, .string ⟨#[]⟩, .slice none 0 0, .int .u64 0] 42 (0, 0))) wa3.heap.size 42 ([.nilFunc, .nilFunc, .string ⟨#[]⟩, .slice none 0 0, .int .u64 0]) := Row.new' rfl rfl
  have lH0x1 : g0 < wa3.heap.size := H0.lt
  have lzx1 := bb.size
  replace H0 := (H0).alloc (.cells #[.nilFunc, .nilFunc, .string ⟨#[]⟩, .slice none 0 0, .int .u64 0] 42 (0, 0))
  replace bb := (bb).alloc bb.size (.cells #[.nilFunc, .nilFunc, .string ⟨#[]⟩, .slice none 0 0, .int .u64 0] 42 (0, 0))
  go_wp2_with (first | refine wpList_store_row rfl 42 (.tmp 1) (.tmp 6) rfl (wa3.heap.size) _ rfl rfl _ _ x1 infoSn rfl (by first | (simp [Value.oneCell']; done) | exact S15.Sn.c_all _ _ _) ?_ | refine wpList_load_row rfl 42 (.tmp 1) rfl (wa3.heap.size) rfl _ _ _ _ ((x1).setRow (s0.c g0 cap0)) Try.underlying42 rfl infoSn ?_)
  obtain ⟨p1, hp1⟩ : ∃ p1, p1 = wa3.heap.size := ⟨_, rfl⟩
  rw [← hp1] at x1 lH0x1 lzx1 ⊢
  generalize wa3.alloc (.cells #[.nilFunc, .nilFunc, .string ⟨#[]⟩, .slice none 0 0, .int .u64 0] 42 (0, 0)) = wa4 at *
  clear hp1
  replace H0 := H0.setRow (k := (p1)) (by omega) (List.toArray (s0.c g0 cap0))
  replace x1 := x1.setRow (s0.c g0 cap0)
  replace bb := below_row bb (show _ ≤ p1 by omega) (List.toArray (s0.c g0 cap0))
  generalize wa4.setRow p1 (List.toArray (s0.c g0 cap0)) = wa5 at *
  refine (CNu.out _ _ _ H0).mono ?_
  rintro e wa6 ⟨gn, rfl, bwa6⟩
  replace H0 := H0.keep bwa6
  replace x1 := x1.below bwa6 x1.lt
  replace bb := bb.trans (bwa6.mono bb.size)
  clear bwa6
  go_wp2_with fail
  refine (CA.out _).mono ?_
  rintro e wa7 ⟨rfl, bwa7⟩
  replace H0 := H0.keep bwa7
  replace x1 := x1.below bwa7 x1.lt
  replace bb := bb.trans (bwa7.mono bb.size)
  clear bwa7
  go_wp2_with (first | refine wpList_load_row rfl 42 (.tmp 1) rfl (p1) rfl _ _ _ _ x1 Try.underlying42 rfl infoSn ?_)
  refine (CS.out _ _ _ H0).mono ?_
  rintro e wa8 ⟨rfl, H1, bwa8⟩
  replace H0 := H0.keep bwa8
  replace x1 := x1.below bwa8 x1.lt
  replace bb := bb.trans (bwa8.mono bb.size)
  clear bwa8
  go_wp2_with fail
  refine (CX.out _ _ _ H1).mono ?_
  rintro e wa9 ⟨g2, cap2, rfl, H2, bwa9⟩
  replace H0 := H0.keep bwa9
  replace x1 := x1.below bwa9 x1.lt
  replace H1 := H1.keep bwa9
  replace bb := bb.trans (bwa9.mono bb.size)
  clear bwa9
  clear H1
  have x2 : Row ((wa9.alloc (.cells #[.nilFunc, .nilFunc, .string ⟨#[]⟩, .slice none 0 0, .int .u64 0] 42 (0, 0))).alloc (.cells #[.int .u64 0, .int .u64 0, .int .u64 0, .int .u64 0, .string ⟨#[]⟩] 24 (0, 0))) wa9.heap.size 42 ([.nilFunc, .nilFunc, .string ⟨#[]⟩, .slice none 0 0, .int .u64 0]) := (Row.new' rfl rfl).alloc _
  have x3 : Row ((wa9.alloc (.cells #[.nilFunc, .nilFunc, .string ⟨#[]⟩, .slice none 0 0, .int .u64 0] 42 (0, 0))).alloc (.cells #[.int .u64 0, .int .u64 0, .int .u64 0, .int .u64 0, .string ⟨#[]⟩] 24 (0, 0))) (wa9.heap.size + 1) 24 ([.int .u64 0, .int .u64 0, .int .u64 0, .int .u64 0, .string ⟨#[]⟩]) := Row.new' rfl (by simp)
  have lH0x2 : g0 < wa9.heap.size := H0.lt
  have lx1x2 : p1 < wa9.heap.size := x1.lt
  have lH2x2 : g2 < wa9.heap.size := H2.lt
  have lzx2 := bb.size
  replace H0 := ((H0).alloc (.cells #[.nilFunc, .nilFunc, .string ⟨#[]⟩, .slice none 0 0, .int .u64 0] 42 (0, 0))).alloc (.cells #[.int .u64 0, .int .u64 0, .int .u64 0, .int .u64 0, .string ⟨#[]⟩] 24 (0, 0))
  replace x1 := ((x1).alloc (.cells #[.nilFunc, .nilFunc, .string ⟨#[]⟩, .slice none 0 0, .int .u64 0] 42 (0, 0))).alloc (.cells #[.int .u64 0, .int .u64 0, .int .u64 0, .int .u64 0, .string ⟨#[]⟩] 24 (0, 0))
  replace H2 := ((H2).alloc (.cells #[.nilFunc, .nilFunc, .string ⟨#[]⟩, .slice none 0 0, .int .u64 0] 42 (0, 0))).alloc (.cells #[.int .u64 0, .int .u64 0, .int .u64 0, .int .u64 0, .string ⟨#[]⟩] 24 (0, 0))
  replace bb := ((bb).alloc bb.size (.cells #[.nilFunc, .nilFunc, .string ⟨#[]⟩, .slice none 0 0, .int .u64 0] 42 (0, 0))).alloc (by simp; omega) (.cells #[.int .u64 0, .int .u64 0, .int .u64 0, .int .u64 0, .string ⟨#[]⟩] 24 (0, 0))
  go_wp2_with (first | refine wpList_store_row rfl 42 (.tmp 2) (.tmp 19) rfl (wa9.heap.size) _ rfl rfl _ _ x2 infoSn rfl (by first | (simp [Value.oneCell']; done) | exact S15.Sn.c_all _ _ _) ?_ | refine wpList_store_row rfl 24 (.tmp 3) (.tmp 20) rfl ((wa9.heap.size + 1)) _ rfl rfl _ _ ((x3).setRow_other (k := wa9.heap.size) (by omega) (List.toArray (s2.c g2 cap2))) infoIn rfl (by first | (simp [Value.oneCell']; done) | exact S15.Sn.c_all _ _ _) ?_ | refine wpList_load_row rfl 42 (.tmp 1) rfl (p1) rfl _ _ _ _ (((x1).setRow_other (k := wa9.heap.size) (by omega) (List.toArray (s2.c g2 cap2))).setRow_other (k := (wa9.heap.size + 1)) (by omega) (List.toArray ([.int .u64 0, .int .u64 1, .int .u64 7, .int .u64 0, .string ⟨#[97, 62, 98]⟩]))) Try.underlying42 rfl infoSn ?_)
  obtain ⟨p2, hp2⟩ : ∃ p2, p2 = wa9.heap.size := ⟨_, rfl⟩
  rw [← hp2] at x2 x3 lH0x2 lx1x2 lH2x2 lzx2 ⊢
  generalize (wa9.alloc (.cells #[.nilFunc, .nilFunc, .string ⟨#[]⟩, .slice none 0 0, .int .u64 0] 42 (0, 0))).alloc (.cells #[.int .u64 0, .int .u64 0, .int .u64 0, .int .u64 0, .string ⟨#[]⟩] 24 (0, 0)) = wa10 at *
  clear hp2
  replace H0 := H0.setRow (k := (p2)) (by omega) (List.toArray (s2.c g2 cap2))
  replace x1 := x1.setRow_other (k := p2) (by omega) (List.toArray (s2.c g2 cap2))
  replace H2 := H2.setRow (k := (p2)) (by omega) (List.toArray (s2.c g2 cap2))
  replace x2 := x2.setRow (s2.c g2 cap2)
  replace x3 := x3.setRow_other (k := p2) (by omega) (List.toArray (s2.c g2 cap2))
  replace bb := below_row bb (show _ ≤ p2 by omega) (List.toArray (s2.c g2 cap2))
  generalize wa10.setRow p2 (List.toArray (s2.c g2 cap2)) = wa11 at *
  replace H0 := H0.setRow (k := ((p2 + 1))) (by omega) (List.toArray ([.int .u64 0, .int .u64 1, .int .u64 7, .int .u64 0, .string ⟨#[97, 62, 98]⟩]))
  replace x1 := x1.setRow_other (k := (p2 + 1)) (by omega) (List.toArray ([.int .u64 0, .int .u64 1, .int .u64 7, .int .u64 0, .string ⟨#[97, 62, 98]⟩]))
  replace H2 := H2.setRow (k := ((p2 + 1))) (by omega) (List.toArray ([.int .u64 0, .int .u64 1, .int .u64 7, .int .u64 0, .string ⟨#[97, 62, 98]⟩]))
  replace x2 := x2.setRow_other (k := (p2 + 1)) (by omega) (List.toArray ([.int .u64 0, .int .u64 1, .int .u64 7, .int .u64 0, .string ⟨#[97, 62, 98]⟩]))
  replace x3 := x3.setRow ([.int .u64 0, .int .u64 1, .int .u64 7, .int .u64 0, .string ⟨#[97, 62, 98]⟩])
  replace bb := below_row bb (show _ ≤ (p2 + 1) by omega) (List.toArray ([.int .u64 0, .int .u64 1, .int .u64 7, .int .u64 0, .string ⟨#[97, 62, 98]⟩]))
  generalize wa11.setRow ((p2 + 1)) (List.toArray ([.int .u64 0, .int .u64 1, .int .u64 7, .int .u64 0, .string ⟨#[97, 62, 98]⟩])) = wa12 at *
  refine (CQ0.out _ _ _ H0).mono ?_
  rintro e wa13 ⟨rfl, bwa13⟩
  replace H0 := H0.keep bwa13
  replace x1 := x1.below bwa13 x1.lt
  replace H2 := H2.keep bwa13
  replace x2 := x2.below bwa13 x2.lt
  replace x3 := x3.below bwa13 x3.lt
  replace bb := bb.trans (bwa13.mono bb.size)
  clear bwa13
  go_wp2_with (first | refine wpList_rowT (by rfl) 24 (.tmp 3) rfl ((p2 + 1)) rfl _ _ _ (x3) Try.underlying24 rfl infoIn ?_ | refine wpList_rowT (by rfl) 42 (.tmp 2) rfl (p2) rfl _ _ _ (x2) Try.underlying42 rfl infoSn ?_)
  refine (CQ2.out _ _ _ H2).mono ?_
  rintro e wa14 ⟨rfl, bwa14⟩
  replace H0 := H0.keep bwa14
  replace x1 := x1.below bwa14 x1.lt
  replace H2 := H2.keep bwa14
  replace x2 := x2.below bwa14 x2.lt
  replace x3 := x3.below bwa14 x3.lt
  replace bb := bb.trans (bwa14.mono bb.size)
  clear bwa14
  go_wp2_with (first | refine wpList_rowT (by rfl) 42 (.tmp 2) rfl (p2) rfl _ _ _ (x2) Try.underlying42 rfl infoSn ?_)
  refine (CK.out _ _ _ H2).mono ?_
  rintro e wa15 ⟨g3, cap3, rfl, H3, bwa15⟩
  replace H0 := H0.keep bwa15
  replace x1 := x1.below bwa15 x1.lt
  replace H2 := H2.keep bwa15
  replace x2 := x2.below bwa15 x2.lt
  replace x3 := x3.below bwa15 x3.lt
  replace bb := bb.trans (bwa15.mono bb.size)
  clear bwa15
  go_wp2_with fail
  refine (CQ3.out _ _ _ H3).mono ?_
  rintro e wa16 ⟨rfl, bwa16⟩
  replace H0 := H0.keep bwa16
  replace x1 := x1.below bwa16 x1.lt
  replace H2 := H2.keep bwa16
  replace x2 := x2.below bwa16 x2.lt
  replace x3 := x3.below bwa16 x3.lt
  replace H3 := H3.keep bwa16
  replace bb := bb.trans (bwa16.mono bb.size)
  clear bwa16
  go_wp2
  go_ret
  exact ⟨rfl, bb⟩

end Go.Proofs.Ytngoighdpmeepaa
