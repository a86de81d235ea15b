/-
  Layer 16: ReceiverTwice, the walk: what is taken as the last is there when it comes again, and changes nothing then.
-/
import Derived.Test.YtclkcillflaefaaGEq
import Derived.Test.YtclkcillflaefaaISend
import Derived.OpenShut
namespace Go.Proofs.Ytclkcillflaefaa.ReceiverTwiceW
open Go.RowKit
set_option linter.unusedVariables false
set_option linter.unusedSimpArgs false
set_option maxRecDepth 20000
open R16

theorem cm_ne {w : World} {L : List Cm} {g p : Nat} {t : TypeId} {v : Value} (h : CmAt w g 0 L) (hp : 1 ≤ L.length) (r : Row w p t [.func (.func 18) #[] #[], v]) : g ≠ p := by
  rintro rfl
  obtain ⟨t', pre, sp, h1, r'⟩ := h
  have e := r.symm.trans r'
  obtain ⟨q, l, hq⟩ : ∃ q l, L = q :: l := by
    cases hL : L with
    | nil => rw [hL] at hp; simp at hp
    | cons q l => exact ⟨q, l, rfl⟩
  obtain rfl : pre = [] := List.eq_nil_of_length_eq_zero h1
  rw [hq] at e
  simp [cellsL, Cm.c] at e
theorem pl_last {L : List Cm} {m nn : Nat} {q : Cm} (hu : Up L) (hm : L.length = m + 1) (hq : L[m]? = some q) (hn : q.num = nn) : Pl L nn m ∧ at? L nn m = true := by
  refine ⟨⟨by omega, fun j p hj hp => by rw [← hn]; exact hu j m p q hj hp hq, fun j p hj hp => ?_⟩, ?_⟩
  · have hjl := (List.getElem?_eq_some_iff.1 hp).1
    obtain rfl : j = m := by omega
    rw [hq] at hp
    obtain rfl := Option.some.inj hp
    omega
  · unfold at?; rw [hq]; simp [hn]
theorem one_up (a : ByteArray) : Up [⟨0, a⟩] := fun i j p q hij hp hq => by
  have h1 := (List.getElem?_eq_some_iff.1 hp).1
  have h2 := (List.getElem?_eq_some_iff.1 hq).1
  simp at h1 h2
  omega

set_option maxHeartbeats 8000000 in
theorem walk (a0 : ByteArray) (a1 : Option Addr) (len1 cap1 : Nat) (w : World) (w0 : a0.size ≤ maxLen) (w1 : InIns5 w a1 len1 cap1) :
    Calls Try.prog 6 #[.string a0, .slice a1 len1 cap1] w fun e w' => e = .returned (.bool true) ∧ Below w.heap.size w w' := by
  have hcap1 := w1.2.1
  have hlc1 := w1.1
  have HI := Lib.hid w1.2.2
  have CL := Lib.hid awake16_any
  unfold maxLen at w0 hcap1
  clear w1
  by_cases hb : len1 ≤ 40 ∧ a0.size ≤ 60
  · obtain ⟨hb1, hb2⟩ := hb
    have g1 : ¬ (40 : Int) < (len1 : Int) := by omega
    have g2 : ¬ (60 : Int) < (a0.size : Int) := by omega
    have CR := Lib.hid rule16_any
    have CN := Lib.hid (new16_any a0)
    have HS0 : Hid (∀ (j : Nat) (q : Cm), ([⟨0, a0⟩] : List Cm)[j]? = some q → q.tx.size ≤ 60 + 60 * 0) := fun j q hq => by
      cases j with
      | zero => simp at hq; rw [← hq]; show a0.size ≤ _; omega
      | succ j => simp at hq
    have CT : Hid (∀ (i n g cap o nn aa tt : Nat) (d : ByteArray) (L : List Cm) (wx : World), Hid (L.length = n + 1) → n ≤ 7 → Hid (Up L) → n + 1 ≤ cap → Hid (∀ (j : Nat) (q : Cm), L[j]? = some q → q.tx.size ≤ 60 + 60 * i) → i ≤ 40 → d.size ≤ 60 → CmAt wx g 0 L → Calls Try.prog 11 #[.agg #[.func (.func 18) #[] #[], .slice (some ⟨g, 0, none⟩) (n + 1) cap], .agg #[.int .u64 (o : Int), .int .u64 (nn : Int), .int .u64 (aa : Int), .int .u64 (tt : Int), .string d]] wx fun e w' => ∃ L' last code m g' cap', e = .returned (.tuple #[.agg #[.func (.func 18) #[] #[], .slice (some ⟨g', 0, none⟩) (m + 1) cap'], .bool last, .int .i64 ((code : Nat) : Int)]) ∧ Hid (Tk L o nn tt d L' last code) ∧ Hid (L'.length = m + 1) ∧ m ≤ 7 ∧ CmAt w' g' 0 L' ∧ m + 1 ≤ cap' ∧ Below wx.heap.size wx w') := fun i n g cap o nn aa tt d L wx hn h7 hu hc hS hi hd hx => by
      refine (take_any16 g n cap o nn aa tt d L wx hn.out (by omega) hu.out hc hx (fun j q hq => by have := hS.out j q hq; omega)).mono ?_
      rintro e w' ⟨L', last, code, m, g', cap', rfl, hT, hC, hm, hcp, hbb⟩
      have h8 := hT.len (by have := hn.out; omega)
      exact ⟨L', last, code, m, g', cap', rfl, hT, hm, by omega, hC, hcp, hbb⟩
    have C11 : Hid (∀ (n g cap o nn aa tt : Nat) (d : ByteArray) (L : List Cm) (q : Cm) (wx : World), Hid (L.length = n + 1) → n ≤ 7 → Hid (Up L) → n + 1 ≤ cap → Hid (L[n]? = some q) → Hid (q.num = nn) → CmAt wx g 0 L → Calls Try.prog 11 #[.agg #[.func (.func 18) #[] #[], .slice (some ⟨g, 0, none⟩) (n + 1) cap], .agg #[.int .u64 (o : Int), .int .u64 (nn : Int), .int .u64 (aa : Int), .int .u64 (tt : Int), .string d]] wx fun e w' => e = .returned (.tuple #[.agg #[.func (.func 18) #[] #[], .slice (some ⟨g, 0, none⟩) (n + 1) cap], .bool false, .int .i64 11]) ∧ Below wx.heap.size wx w') := fun n g cap o nn aa tt d L q wx hn h7 hu hc hq hqn hx =>
      take_11 g n cap o nn aa tt d L wx hn.out (by omega) hu.out hc hx n (pl_last hu.out hn.out hq.out hqn.out).1 (pl_last hu.out hn.out hq.out hqn.out).2
    have CLt : Hid (∀ (n g cap nn : Nat) (L : List Cm) (q : Cm) (wx : World), Hid (L.length = n + 1) → n ≤ 7 → Hid (L[n]? = some q) → Hid (q.num = nn) → CmAt wx g 0 L → Calls Try.prog 15 #[.agg #[.func (.func 18) #[] #[], .slice (some ⟨g, 0, none⟩) (n + 1) cap]] wx fun e w' => e = .returned (.tuple #[.int .u64 (nn : Int), .string q.tx]) ∧ Below wx.heap.size wx w') := fun n g cap nn L q wx hn h7 hq hqn hx => by
      have h := latest_any g n cap L q wx hn.out (by omega) hq.out hx
      rw [hqn.out] at h
      exact h
    have CU : Hid (∀ (n g cap : Nat) (L : List Cm) (wx : World), Hid (L.length = n + 1) → n ≤ 7 → CmAt wx g 0 L → Calls Try.prog 10 #[.agg #[.func (.func 18) #[] #[], .slice (some ⟨g, 0, none⟩) (n + 1) cap]] wx fun e w' => ∃ g', e = .returned (.slice (some ⟨g', 0, none⟩) (n + 1) (n + 1)) ∧ w'.ownsRow 0 23 1 (.slice (some ⟨g', 0, none⟩) (n + 1) (n + 1)) (n + 1) (nums L) ∧ Below wx.heap.size wx w') := fun n g cap L wx hn h7 hx => by
      refine (nums16_any g n cap L wx hn.out (by omega) hx).mono ?_
      rintro e w' ⟨g', rfl, ho, hbb⟩
      exact ⟨g', rfl, own_lower ho (Nat.zero_le _), hbb⟩
    have CE : Hid (∀ (n ga gb : Nat) (L : List Cm) (wx : World), Hid (L.length = n + 1) → n ≤ 7 → wx.ownsRow 0 23 1 (.slice (some ⟨ga, 0, none⟩) (n + 1) (n + 1)) (n + 1) (nums L) → wx.ownsRow 0 23 1 (.slice (some ⟨gb, 0, none⟩) (n + 1) (n + 1)) (n + 1) (nums L) → Calls Try.prog 13 #[.slice (some ⟨ga, 0, none⟩) (n + 1) (n + 1), .slice (some ⟨gb, 0, none⟩) (n + 1) (n + 1)] wx fun e w' => e = .returned (.bool true) ∧ Below wx.heap.size wx w') := fun n ga gb L wx hn h7 h1 h2 =>
      equalN_any 0 0 ga gb (n + 1) (n + 1) (n + 1) L hn.out (by omega) wx h1 h2
    have bb : Below w.heap.size w w := Below.refl _ _
    go_enter Try.func6, Try.ntmps6
    go_wp2_with fail
    refine (CL.out _).mono ?_
    rintro e wa2 ⟨rfl, bwa2⟩
    replace bb := bb.trans (bwa2.mono bb.size)
    clear bwa2
    go_wp2_with fail
    refine (CR.out _).mono ?_
    rintro e wa3 ⟨rfl, bwa3⟩
    replace bb := bb.trans (bwa3.mono bb.size)
    clear bwa3
    go_wp2_with fail
    refine (CN.out _).mono ?_
    rintro e wa4 ⟨g0, rfl, H0, bwa4⟩
    replace bb := bb.trans (bwa4.mono bb.size)
    clear bwa4
    have x1 : Row (wa4.alloc (.cells #[.nilFunc, .slice none 0 0] 30 (0, 0))) wa4.heap.size 30 ([.nilFunc, .slice none 0 0]) := Row.new' rfl rfl
    have lH0x1 : g0 < wa4.heap.size := H0.lt
    have lzx1 := bb.size
    replace H0 := (H0).alloc (.cells #[.nilFunc, .slice none 0 0] 30 (0, 0))
    replace bb := (bb).alloc bb.size (.cells #[.nilFunc, .slice none 0 0] 30 (0, 0))
    have tok5 : True := True.intro
    go_wp2_with (first | (refine at_op (.store 30 (.tmp 5) (.tmp 30)) (by with_reducible rfl) ?_; clear tok5; refine wpList_store_row rfl 30 (.tmp 5) (.tmp 30) rfl (wa4.heap.size) _ rfl rfl _ _ x1 infoRv rfl (by simp [Value.oneCell']) ?_))
    obtain ⟨p1, hp1⟩ : ∃ p1, p1 = wa4.heap.size := ⟨_, rfl⟩
    rw [← hp1] at x1 lH0x1 lzx1 ⊢
    generalize wa4.alloc (.cells #[.nilFunc, .slice none 0 0] 30 (0, 0)) = wa6 at *
    clear hp1
    replace H0 := H0.setRow (k := (p1)) (by omega) (List.toArray ([.func (.func 18) #[] #[], .slice (some ⟨g0, 0, none⟩) 1 1]))
    replace x1 := x1.setRow ([.func (.func 18) #[] #[], .slice (some ⟨g0, 0, none⟩) 1 1])
    replace bb := below_row bb (show _ ≤ p1 by omega) (List.toArray ([.func (.func 18) #[] #[], .slice (some ⟨g0, 0, none⟩) 1 1]))
    generalize wa6.setRow p1 (List.toArray ([.func (.func 18) #[] #[], .slice (some ⟨g0, 0, none⟩) 1 1])) = wa7 at *
    clear CR CN CL
    have hne0 := cm_ne H0 (Nat.le_refl 1) x1
    go_wp2
    go_loopw [33] (fun iv wr => ∃ (i n g cap : Nat) (L : List Cm), i ≤ len1 ∧ iv = .int .i64 (i : Int) ∧ n ≤ 7 ∧ n + 1 ≤ cap ∧ Hid (L.length = n + 1) ∧ Hid (Up L) ∧ Hid (∀ (j : Nat) (q : Cm), L[j]? = some q → q.tx.size ≤ 60 + 60 * i) ∧ g ≠ p1 ∧ Row wr p1 30 [.func (.func 18) #[] #[], .slice (some ⟨g, 0, none⟩) (n + 1) cap] ∧ CmAt wr g 0 L ∧ Below w.heap.size w wr) (fun iv _ => len1 - (intOf iv).toNat)
    case atStart => exact ⟨0, 0, g0, 1, [⟨0, a0⟩], Nat.zero_le _, rfl, by decide, by decide, Lib.hid rfl, one_up a0, HS0, hne0, x1, H0, bb⟩
    case round =>
      clear x1 H0 bb HS0 hne0
      obtain ⟨i, n, g, cap, L, hi, rfl, h7, hcp, HL, HU, HS, hgp, x1, H0, bb⟩ := hrel
      by_cases hlt : i < len1
      · have hs : (i : Int) < (len1 : Int) := by omega
        obtain ⟨b, off, rfl, hbl, hin⟩ := HI.out (by omega)
        obtain ⟨o, nn, aa, tt, d, ⟨ho, hnn, haa, htt, hd⟩, hr0⟩ := hin i hlt
        have hr : wr.rangeAt b (off + i * 5) [.int .u64 (o : Int), .int .u64 (nn : Int), .int .u64 (aa : Int), .int .u64 (tt : Int), .string d] := rangeBelow hr0 bb hbl
        clear hin hr0
        unfold maxLen at hd
        by_cases hd60 : d.size ≤ 60
        · have s60 : ¬ (60 : Int) < (d.size : Int) := by omega
          have x7 : Row (wr.alloc (.cells #[.int .u64 (o : Int), .int .u64 (nn : Int), .int .u64 (aa : Int), .int .u64 (tt : Int), .string d] 37 (0, 0))) wr.heap.size 37 ([.int .u64 (o : Int), .int .u64 (nn : Int), .int .u64 (aa : Int), .int .u64 (tt : Int), .string d]) := Row.new' rfl rfl
          have lx1x7 : p1 < wr.heap.size := x1.lt
          have lzx7 := bb.size
          replace x1 := x1.alloc (.cells #[.int .u64 (o : Int), .int .u64 (nn : Int), .int .u64 (aa : Int), .int .u64 (tt : Int), .string d] 37 (0, 0))
          replace H0 := H0.alloc (.cells #[.int .u64 (o : Int), .int .u64 (nn : Int), .int .u64 (aa : Int), .int .u64 (tt : Int), .string d] 37 (0, 0))
          replace bb := bb.alloc bb.size (.cells #[.int .u64 (o : Int), .int .u64 (nn : Int), .int .u64 (aa : Int), .int .u64 (tt : Int), .string d] 37 (0, 0))
          have c74 : (wr.alloc (.cells #[.int .u64 (o : Int), .int .u64 (nn : Int), .int .u64 (aa : Int), .int .u64 (tt : Int), .string d] 37 (0, 0))).cell? ⟨wr.heap.size, 4, none⟩ = some (.string d) := x7.cell 4
          have tok101 : True := True.intro
          have tok102 : True := True.intro
          have tok103 : True := True.intro
          go_wp2_with (first | (refine at_op (.load 37 (.tmp 35)) (by with_reducible rfl) ?_; clear tok101; refine wpList_load_mid rfl 37 (.tmp 35) rfl b (off + i * 5) rfl _ _ hr Try.underlying37 rfl infoIn16 ?_) | (refine at_op (.load 30 (.tmp 5)) (by with_reducible rfl) ?_; clear tok102; refine wpList_load_row rfl 30 (.tmp 5) rfl (p1) rfl _ _ _ _ x1 Try.underlying30 rfl infoRv ?_) | (refine at_op (.load 37 (.tmp 7)) (by with_reducible rfl) ?_; clear tok103; refine wpList_load_row rfl 37 (.tmp 7) rfl (wr.heap.size) rfl _ _ _ _ x7 Try.underlying37 rfl infoIn16 ?_))
          clear c74 hr
          obtain ⟨p7, hp7⟩ : ∃ p7, p7 = wr.heap.size := ⟨_, rfl⟩
          rw [← hp7] at x7 lx1x7 lzx7 ⊢
          generalize wr.alloc (.cells #[.int .u64 (o : Int), .int .u64 (nn : Int), .int .u64 (aa : Int), .int .u64 (tt : Int), .string d] 37 (0, 0)) = wa104 at *
          clear hp7
          refine (CT.out i n g cap o nn aa tt d L _ HL h7 HU hcp HS (by omega) hd60 H0).mono ?_
          rintro e wa105 ⟨L2, last, code, m, g2, cap2, rfl, hT, hM, hm7, H2, hcp2, bwa105⟩
          replace x1 := x1.below bwa105 x1.lt
          replace H0 := H0.keep bwa105
          replace x7 := x7.below bwa105 x7.lt
          replace bb := bb.trans (bwa105.mono bb.size)
          clear bwa105
          clear H0
          have HU2 : Hid (Up L2) := hT.out.up HU.out
          have HS2 : Hid (∀ (j : Nat) (q : Cm), L2[j]? = some q → q.tx.size ≤ 60 + 60 * (i + 1)) := fun j q hq => by have := hT.out.size HS.out hd60 j q hq; omega
          have hne := cm_ne H2 (by rw [hM.out]; omega) x1
          have hcase : (code = 0 ∧ last = true) ∨ (code = 0 ∧ last = false) ∨ (((code : Int) == 0) = false ∧ last = false) := by
            rcases hT.out with ⟨_, h1, h2⟩ | ⟨h1, _⟩
            · refine .inr (.inr ⟨?_, h1⟩)
              rw [beq_eq_false_iff_ne]
              rcases h2 with ⟨h, _⟩ | ⟨h, _⟩ | ⟨h, _⟩ | ⟨h, _⟩ <;> omega
            · cases last
              · exact .inr (.inl ⟨h1, rfl⟩)
              · exact .inl ⟨h1, rfl⟩
          clear HU HS HL hd60
          rcases hcase with ⟨rfl, rfl⟩ | ⟨rfl, rfl⟩ | ⟨hcn, rfl⟩
          · obtain ⟨q, hq1, hq2⟩ := hT.out.last hM.out
            have HQ := Lib.hid hq1
            have HN := Lib.hid hq2
            clear hq1 hq2 hT CT
            have x8 : Row (wa105.alloc (.cells #[.nilFunc, .slice none 0 0] 30 (0, 0))) wa105.heap.size 30 ([.nilFunc, .slice none 0 0]) := Row.new' rfl rfl
            have lx1x8 : p1 < wa105.heap.size := x1.lt
            have lx7x8 : p7 < wa105.heap.size := x7.lt
            have lH2x8 : g2 < wa105.heap.size := H2.lt
            have lzx8 := bb.size
            replace x1 := (x1).alloc (.cells #[.nilFunc, .slice none 0 0] 30 (0, 0))
            replace x7 := (x7).alloc (.cells #[.nilFunc, .slice none 0 0] 30 (0, 0))
            replace H2 := (H2).alloc (.cells #[.nilFunc, .slice none 0 0] 30 (0, 0))
            replace bb := (bb).alloc bb.size (.cells #[.nilFunc, .slice none 0 0] 30 (0, 0))
            have tok106 : True := True.intro
            have tok107 : True := True.intro
            have tok108 : True := True.intro
            go_wp2_with (first | (refine at_op (.store 30 (.tmp 8) (.tmp 45)) (by with_reducible rfl) ?_; clear tok106; refine wpList_store_row rfl 30 (.tmp 8) (.tmp 45) rfl (wa105.heap.size) _ rfl rfl _ _ x8 infoRv rfl (by simp [Value.oneCell']) ?_) | (refine at_op (.load 30 (.tmp 8)) (by with_reducible rfl) ?_; clear tok107; refine wpList_load_row rfl 30 (.tmp 8) rfl (wa105.heap.size) rfl _ _ _ _ ((x8).setRow ([.func (.func 18) #[] #[], .slice (some ⟨g2, 0, none⟩) (m + 1) cap2])) Try.underlying30 rfl infoRv ?_) | (refine at_op (.load 37 (.tmp 7)) (by with_reducible rfl) ?_; clear tok108; refine wpList_load_row rfl 37 (.tmp 7) rfl (p7) rfl _ _ _ _ ((x7).setRow_other (k := wa105.heap.size) (by omega) (List.toArray ([.func (.func 18) #[] #[], .slice (some ⟨g2, 0, none⟩) (m + 1) cap2]))) Try.underlying37 rfl infoIn16 ?_))
            obtain ⟨p8, hp8⟩ : ∃ p8, p8 = wa105.heap.size := ⟨_, rfl⟩
            rw [← hp8] at x8 lx1x8 lx7x8 lH2x8 lzx8 ⊢
            generalize wa105.alloc (.cells #[.nilFunc, .slice none 0 0] 30 (0, 0)) = wa109 at *
            clear hp8
            replace x1 := x1.setRow_other (k := p8) (by omega) (List.toArray ([.func (.func 18) #[] #[], .slice (some ⟨g2, 0, none⟩) (m + 1) cap2]))
            replace x7 := x7.setRow_other (k := p8) (by omega) (List.toArray ([.func (.func 18) #[] #[], .slice (some ⟨g2, 0, none⟩) (m + 1) cap2]))
            replace H2 := H2.setRow (k := (p8)) (by omega) (List.toArray ([.func (.func 18) #[] #[], .slice (some ⟨g2, 0, none⟩) (m + 1) cap2]))
            replace x8 := x8.setRow ([.func (.func 18) #[] #[], .slice (some ⟨g2, 0, none⟩) (m + 1) cap2])
            replace bb := below_row bb (show _ ≤ p8 by omega) (List.toArray ([.func (.func 18) #[] #[], .slice (some ⟨g2, 0, none⟩) (m + 1) cap2]))
            generalize wa109.setRow p8 (List.toArray ([.func (.func 18) #[] #[], .slice (some ⟨g2, 0, none⟩) (m + 1) cap2])) = wa110 at *
            refine (C11.out m g2 cap2 o nn aa tt d L2 q _ hM hm7 HU2 hcp2 HQ HN H2).mono ?_
            rintro e wa111 ⟨rfl, bwa111⟩
            replace x1 := x1.below bwa111 x1.lt
            replace x7 := x7.below bwa111 x7.lt
            replace H2 := H2.keep bwa111
            replace x8 := x8.below bwa111 x8.lt
            replace bb := bb.trans (bwa111.mono bb.size)
            clear bwa111
            have x11 : Row (wa111.alloc (.cells #[.nilFunc, .slice none 0 0] 30 (0, 0))) wa111.heap.size 30 ([.nilFunc, .slice none 0 0]) := Row.new' rfl rfl
            have lx1x11 : p1 < wa111.heap.size := x1.lt
            have lx7x11 : p7 < wa111.heap.size := x7.lt
            have lH2x11 : g2 < wa111.heap.size := H2.lt
            have lx8x11 : p8 < wa111.heap.size := x8.lt
            have lzx11 := bb.size
            replace x1 := (x1).alloc (.cells #[.nilFunc, .slice none 0 0] 30 (0, 0))
            replace x7 := (x7).alloc (.cells #[.nilFunc, .slice none 0 0] 30 (0, 0))
            replace H2 := (H2).alloc (.cells #[.nilFunc, .slice none 0 0] 30 (0, 0))
            replace x8 := (x8).alloc (.cells #[.nilFunc, .slice none 0 0] 30 (0, 0))
            replace bb := (bb).alloc bb.size (.cells #[.nilFunc, .slice none 0 0] 30 (0, 0))
            have tok112 : True := True.intro
            have tok113 : True := True.intro
            go_wp2_with (first | (refine at_op (.store 30 (.tmp 11) (.tmp 57)) (by with_reducible rfl) ?_; clear tok112; refine wpList_store_row rfl 30 (.tmp 11) (.tmp 57) rfl (wa111.heap.size) _ rfl rfl _ _ x11 infoRv rfl (by simp [Value.oneCell']) ?_) | (refine at_op (.load 30 (.tmp 11)) (by with_reducible rfl) ?_; clear tok113; refine wpList_load_row rfl 30 (.tmp 11) rfl (wa111.heap.size) rfl _ _ _ _ ((x11).setRow ([.func (.func 18) #[] #[], .slice (some ⟨g2, 0, none⟩) (m + 1) cap2])) Try.underlying30 rfl infoRv ?_))
            obtain ⟨p11, hp11⟩ : ∃ p11, p11 = wa111.heap.size := ⟨_, rfl⟩
            rw [← hp11] at x11 lx1x11 lx7x11 lH2x11 lx8x11 lzx11 ⊢
            generalize wa111.alloc (.cells #[.nilFunc, .slice none 0 0] 30 (0, 0)) = wa114 at *
            clear hp11
            replace x1 := x1.setRow_other (k := p11) (by omega) (List.toArray ([.func (.func 18) #[] #[], .slice (some ⟨g2, 0, none⟩) (m + 1) cap2]))
            replace x7 := x7.setRow_other (k := p11) (by omega) (List.toArray ([.func (.func 18) #[] #[], .slice (some ⟨g2, 0, none⟩) (m + 1) cap2]))
            replace H2 := H2.setRow (k := (p11)) (by omega) (List.toArray ([.func (.func 18) #[] #[], .slice (some ⟨g2, 0, none⟩) (m + 1) cap2]))
            replace x8 := x8.setRow_other (k := p11) (by omega) (List.toArray ([.func (.func 18) #[] #[], .slice (some ⟨g2, 0, none⟩) (m + 1) cap2]))
            replace x11 := x11.setRow ([.func (.func 18) #[] #[], .slice (some ⟨g2, 0, none⟩) (m + 1) cap2])
            replace bb := below_row bb (show _ ≤ p11 by omega) (List.toArray ([.func (.func 18) #[] #[], .slice (some ⟨g2, 0, none⟩) (m + 1) cap2]))
            generalize wa114.setRow p11 (List.toArray ([.func (.func 18) #[] #[], .slice (some ⟨g2, 0, none⟩) (m + 1) cap2])) = wa115 at *
            refine (CLt.out m g2 cap2 nn L2 q _ hM hm7 HQ HN H2).mono ?_
            rintro e wa116 ⟨rfl, bwa116⟩
            replace x1 := x1.below bwa116 x1.lt
            replace x7 := x7.below bwa116 x7.lt
            replace H2 := H2.keep bwa116
            replace x8 := x8.below bwa116 x8.lt
            replace x11 := x11.below bwa116 x11.lt
            replace bb := bb.trans (bwa116.mono bb.size)
            clear bwa116
            have tok117 : True := True.intro
            go_wp2_with (first | (refine at_op (.load 30 (.tmp 8)) (by with_reducible rfl) ?_; clear tok117; refine wpList_load_row rfl 30 (.tmp 8) rfl (p8) rfl _ _ _ _ x8 Try.underlying30 rfl infoRv ?_))
            refine (CLt.out m g2 cap2 nn L2 q _ hM hm7 HQ HN H2).mono ?_
            rintro e wa118 ⟨rfl, bwa118⟩
            replace x1 := x1.below bwa118 x1.lt
            replace x7 := x7.below bwa118 x7.lt
            replace H2 := H2.keep bwa118
            replace x8 := x8.below bwa118 x8.lt
            replace x11 := x11.below bwa118 x11.lt
            replace bb := bb.trans (bwa118.mono bb.size)
            clear bwa118
            obtain ⟨qt, hqt⟩ : ∃ x, x = q.tx := ⟨_, rfl⟩
            rw [← hqt]
            clear hqt HQ HN C11 CLt
            go_wp2
            refine wp_region_held_drew (S := fun w' => Row w' p1 30 [.func (.func 18) #[] #[], .slice (some ⟨g, 0, none⟩) (n + 1) cap] ∧ Row w' p7 37 [.int .u64 (o : Int), .int .u64 (nn : Int), .int .u64 (aa : Int), .int .u64 (tt : Int), .string d] ∧ Row w' p8 30 [.func (.func 18) #[] #[], .slice (some ⟨g2, 0, none⟩) (m + 1) cap2] ∧ Row w' p11 30 [.func (.func 18) #[] #[], .slice (some ⟨g2, 0, none⟩) (m + 1) cap2] ∧ Below w.heap.size w w') (by kernel_rfl) (⟨x1.drew, x7.drew, x8.drew, x11.drew, bb.drew⟩) (fun hHeld => ?_)
            replace H2 := H2.drew
            generalize wa118.drew = wd119 at *
            refine take_d 0 (some 70) (.int .i64 11) rfl (by kernel_rfl) (by kernel_rfl) (by kernel_rfl) (fun _ _ _ h => h) (fun oi h => by cases h; exact Or.inl ⟨by rfl, fun w' hS' => by go_simp⟩) hHeld ?_
            try simp only [Act.put, List.setIfInBounds_toArray, List.set_cons_zero, List.set_cons_succ]
            refine take_d 1 (some 71) (.bool false) rfl (by kernel_rfl) (by kernel_rfl) (by kernel_rfl) (fun _ _ _ h => h) (fun oi h => by cases h; exact Or.inl ⟨by rfl, fun w' hS' => by go_simp⟩) hHeld ?_
            try simp only [Act.put, List.setIfInBounds_toArray, List.set_cons_zero, List.set_cons_succ]
            refine take_d 2 (some 72) (.bool false) rfl (by kernel_rfl) (by kernel_rfl) (by kernel_rfl) (fun _ _ _ h => h) (fun oi h => by cases h; exact Or.inl ⟨by rfl, fun w' hS' => by go_simp⟩) hHeld ?_
            try simp only [Act.put, List.setIfInBounds_toArray, List.set_cons_zero, List.set_cons_succ]
            refine take_d 3 (some 73) (.bool false) rfl (by kernel_rfl) (by kernel_rfl) (by kernel_rfl) (fun _ _ _ h => h) (fun oi h => by cases h; exact Or.inl ⟨by rfl, fun w' hS' => by go_simp⟩) hHeld ?_
            try simp only [Act.put, List.setIfInBounds_toArray, List.set_cons_zero, List.set_cons_succ]
            refine take_d 4 (some 74) (.bool false) rfl (by kernel_rfl) (by kernel_rfl) (by kernel_rfl) (fun _ _ _ h => h) (fun oi h => by cases h; exact Or.inl ⟨by rfl, fun w' hS' => by go_simp⟩) hHeld ?_
            try simp only [Act.put, List.setIfInBounds_toArray, List.set_cons_zero, List.set_cons_succ]
            refine take_d 5 (some 75) (.bool false) rfl (by kernel_rfl) (by kernel_rfl) (by kernel_rfl) (fun _ _ _ h => h) (fun oi h => by cases h; exact Or.inl ⟨by rfl, fun w' hS' => by go_simp⟩) hHeld ?_
            try simp only [Act.put, List.setIfInBounds_toArray, List.set_cons_zero, List.set_cons_succ]
            refine take_d 6 (some 76) (.int .u64 (nn : Int)) rfl (by kernel_rfl) (by kernel_rfl) (by kernel_rfl) (fun _ _ _ h => h) (fun oi h => by cases h; exact Or.inl ⟨by rfl, fun w' hS' => by go_simp⟩) hHeld ?_
            try simp only [Act.put, List.setIfInBounds_toArray, List.set_cons_zero, List.set_cons_succ]
            refine take_d 7 (some 77) (.int .u64 (nn : Int)) rfl (by kernel_rfl) (by kernel_rfl) (by kernel_rfl) (fun _ _ _ h => h) (fun oi h => by cases h; exact Or.inl ⟨by rfl, fun w' hS' => by go_simp⟩) hHeld ?_
            try simp only [Act.put, List.setIfInBounds_toArray, List.set_cons_zero, List.set_cons_succ]
            refine take_d 8 (some 78) (.bool false) rfl (by kernel_rfl) (by kernel_rfl) (by kernel_rfl) (fun _ _ _ h => h) (fun oi h => by cases h; exact Or.inl ⟨by rfl, fun w' hS' => by go_simp⟩) hHeld ?_
            try simp only [Act.put, List.setIfInBounds_toArray, List.set_cons_zero, List.set_cons_succ]
            refine take_d 9 (some 79) (.bool false) rfl (by kernel_rfl) (by kernel_rfl) (by kernel_rfl) (fun _ _ _ h => h) (fun oi h => by cases h; exact Or.inl ⟨by rfl, fun w' hS' => by go_simp⟩) hHeld ?_
            try simp only [Act.put, List.setIfInBounds_toArray, List.set_cons_zero, List.set_cons_succ]
            refine take_d 10 (some 80) (.bool false) rfl (by kernel_rfl) (by kernel_rfl) (by kernel_rfl) (fun _ _ _ h => h) (fun oi h => by cases h; exact Or.inl ⟨by rfl, fun w' hS' => by go_simp⟩) hHeld ?_
            try simp only [Act.put, List.setIfInBounds_toArray, List.set_cons_zero, List.set_cons_succ]
            refine take_d 11 (some 81) (.string qt) rfl (by kernel_rfl) (by kernel_rfl) (by kernel_rfl) (fun _ _ _ h => h) (fun oi h => by cases h; exact Or.inl ⟨by rfl, fun w' hS' => by go_simp⟩) hHeld ?_
            try simp only [Act.put, List.setIfInBounds_toArray, List.set_cons_zero, List.set_cons_succ]
            refine take_d 12 (some 82) (.string qt) rfl (by kernel_rfl) (by kernel_rfl) (by kernel_rfl) (fun _ _ _ h => h) (fun oi h => by cases h; exact Or.inl ⟨by rfl, fun w' hS' => by go_simp⟩) hHeld ?_
            try simp only [Act.put, List.setIfInBounds_toArray, List.set_cons_zero, List.set_cons_succ]
            refine take_d 13 (some 83) (.bool false) rfl (by kernel_rfl) (by kernel_rfl) (by kernel_rfl) (fun _ _ _ h => h) (fun oi h => by cases h; exact Or.inl ⟨by rfl, fun w' hS' => by go_simp⟩) hHeld ?_
            try simp only [Act.put, List.setIfInBounds_toArray, List.set_cons_zero, List.set_cons_succ]
            refine take_d 14 (some 84) (.bool false) rfl (by kernel_rfl) (by kernel_rfl) (by kernel_rfl) (fun _ _ _ h => h) (fun oi h => by cases h; exact Or.inl ⟨by rfl, fun w' hS' => by go_simp⟩) hHeld ?_
            try simp only [Act.put, List.setIfInBounds_toArray, List.set_cons_zero, List.set_cons_succ]
            refine take_d 15 (some 85) (.bool false) rfl (by kernel_rfl) (by kernel_rfl) (by kernel_rfl) (fun _ _ _ h => h) (fun oi h => by cases h; exact Or.inl ⟨by rfl, fun w' hS' => by go_simp⟩) hHeld ?_
            try simp only [Act.put, List.setIfInBounds_toArray, List.set_cons_zero, List.set_cons_succ]
            refine take_d 16 (some 86) (.int .u64 (nn : Int)) rfl (by kernel_rfl) (by kernel_rfl) (by kernel_rfl) (fun _ _ _ h => h) (fun oi h => by cases h; exact Or.inl ⟨by rfl, fun w' hS' => by go_simp⟩) hHeld ?_
            try simp only [Act.put, List.setIfInBounds_toArray, List.set_cons_zero, List.set_cons_succ]
            refine take_d 17 (some 87) (.pointer (some ⟨p7, 1, none⟩)) rfl (by kernel_rfl) (by kernel_rfl) (by kernel_rfl) (fun _ _ _ h => h) (fun oi h => by cases h; exact Or.inl ⟨by rfl, fun w' hS' => by go_simp⟩) hHeld ?_
            try simp only [Act.put, List.setIfInBounds_toArray, List.set_cons_zero, List.set_cons_succ]
            refine take_d 18 (some 88) (.int .u64 (nn : Int)) rfl (by kernel_rfl) (by kernel_rfl) (by kernel_rfl) (fun _ _ _ h => h) (fun oi h => by cases h; exact Or.inl ⟨by rfl, fun w' hS' => by have c : w'.cell? ⟨p7, 1, none⟩ = some (.int .u64 (nn : Int)) := hS'.2.1.cell 1; go_simp⟩) hHeld ?_
            try simp only [Act.put, List.setIfInBounds_toArray, List.set_cons_zero, List.set_cons_succ]
            refine take_d 19 (some 89) (.bool false) rfl (by kernel_rfl) (by kernel_rfl) (by kernel_rfl) (fun _ _ _ h => h) (fun oi h => by cases h; exact Or.inl ⟨by rfl, fun w' hS' => by go_simp⟩) hHeld ?_
            try simp only [Act.put, List.setIfInBounds_toArray, List.set_cons_zero, List.set_cons_succ]
            refine take_d 20 (some 90) (.bool false) rfl (by kernel_rfl) (by kernel_rfl) (by kernel_rfl) (fun _ _ _ h => h) (fun oi h => by cases h; exact Or.inl ⟨by rfl, fun w' hS' => by go_simp⟩) hHeld ?_
            try simp only [Act.put, List.setIfInBounds_toArray, List.set_cons_zero, List.set_cons_succ]
            refine take_d 21 (some 91) (.bool false) rfl (by kernel_rfl) (by kernel_rfl) (by kernel_rfl) (fun _ _ _ h => h) (fun oi h => by cases h; exact Or.inl ⟨by rfl, fun w' hS' => by go_simp⟩) hHeld ?_
            try simp only [Act.put, List.setIfInBounds_toArray, List.set_cons_zero, List.set_cons_succ]
            refine take_d 22 (some 92) (.agg #[.func (.func 18) #[] #[], .slice (some ⟨g2, 0, none⟩) (m + 1) cap2]) rfl (by kernel_rfl) (by kernel_rfl) (by kernel_rfl) (fun _ _ _ h => h) (fun oi h => by cases h; exact yieldsIf_load_mid (by rfl) 30 (.tmp 8) rfl p8 0 rfl ([.func (.func 18) #[] #[], .slice (some ⟨g2, 0, none⟩) (m + 1) cap2]) _ (fun w' hS' => hS'.2.2.1.range) Try.underlying30 rfl infoRv) hHeld ?_
            try simp only [Act.put, List.setIfInBounds_toArray, List.set_cons_zero, List.set_cons_succ]
            refine take_d 24 (some 94) (.agg #[.func (.func 18) #[] #[], .slice (some ⟨g2, 0, none⟩) (m + 1) cap2]) rfl (by kernel_rfl) (by kernel_rfl) (by kernel_rfl) (fun _ _ _ h => h) (fun oi h => by cases h; exact yieldsIf_load_mid (by rfl) 30 (.tmp 11) rfl p11 0 rfl ([.func (.func 18) #[] #[], .slice (some ⟨g2, 0, none⟩) (m + 1) cap2]) _ (fun w' hS' => hS'.2.2.2.1.range) Try.underlying30 rfl infoRv) hHeld ?_
            try simp only [Act.put, List.setIfInBounds_toArray, List.set_cons_zero, List.set_cons_succ]
            refine one_d 23 (some 93) rfl (by kernel_rfl) ?_
            intro o ho1 hd K hK
            cases ho1
            go_simp
            refine (CU.out m g2 cap2 L2 _ hM hm7 H2).mono ?_
            rintro e v120 ⟨gn1, rfl, hn1, bb0⟩
            replace H2 := H2.keep bb0
            refine hK.out _ _ (⟨hHeld.1.below bb0 hHeld.1.lt, hHeld.2.1.below bb0 hHeld.2.1.lt, hHeld.2.2.1.below bb0 hHeld.2.2.1.lt, hHeld.2.2.2.1.below bb0 hHeld.2.2.2.1.lt, hHeld.2.2.2.2.trans (bb0.mono hHeld.2.2.2.2.size)⟩) (fun hHeld => ?_)
            clear bb0
            clear hK K hd
            try simp only [Act.put, List.setIfInBounds_toArray, List.set_cons_zero, List.set_cons_succ]
            refine one_d 25 (some 95) rfl (by kernel_rfl) ?_
            intro o ho1 hd K hK
            cases ho1
            go_simp
            refine (CU.out m g2 cap2 L2 _ hM hm7 H2).mono ?_
            rintro e v121 ⟨gn2, rfl, hn2, bb0⟩
            replace H2 := H2.keep bb0
            replace hn1 := ownT hn1 bb0
            refine hK.out _ _ (⟨hHeld.1.below bb0 hHeld.1.lt, hHeld.2.1.below bb0 hHeld.2.1.lt, hHeld.2.2.1.below bb0 hHeld.2.2.1.lt, hHeld.2.2.2.1.below bb0 hHeld.2.2.2.1.lt, hHeld.2.2.2.2.trans (bb0.mono hHeld.2.2.2.2.size)⟩) (fun hHeld => ?_)
            clear bb0
            clear hK K hd
            try simp only [Act.put, List.setIfInBounds_toArray, List.set_cons_zero, List.set_cons_succ]
            refine one_d 26 (some 96) rfl (by kernel_rfl) ?_
            intro o ho1 hd K hK
            cases ho1
            go_simp
            refine (CE.out m gn1 gn2 L2 _ hM hm7 hn1 hn2).mono ?_
            rintro e v122 ⟨rfl, bb0⟩
            replace H2 := H2.keep bb0
            replace hn1 := ownT hn1 bb0
            replace hn2 := ownT hn2 bb0
            refine hK.out _ _ (⟨hHeld.1.below bb0 hHeld.1.lt, hHeld.2.1.below bb0 hHeld.2.1.lt, hHeld.2.2.1.below bb0 hHeld.2.2.1.lt, hHeld.2.2.2.1.below bb0 hHeld.2.2.2.1.lt, hHeld.2.2.2.2.trans (bb0.mono hHeld.2.2.2.2.size)⟩) (fun hHeld => ?_)
            clear bb0
            clear hK K hd
            try simp only [Act.put, List.setIfInBounds_toArray, List.set_cons_zero, List.set_cons_succ]
            refine take_d 27 (some 97) (.bool false) rfl (by kernel_rfl) (by kernel_rfl) (by kernel_rfl) (fun _ _ _ h => h) (fun oi h => by cases h; exact Or.inl ⟨by rfl, fun w' hS' => by go_simp⟩) hHeld ?_
            try simp only [Act.put, List.setIfInBounds_toArray, List.set_cons_zero, List.set_cons_succ]
            refine take_d 28 (some 98) (.bool false) rfl (by kernel_rfl) (by kernel_rfl) (by kernel_rfl) (fun _ _ _ h => h) (fun oi h => by cases h; exact Or.inl ⟨by rfl, fun w' hS' => by go_simp⟩) hHeld ?_
            try simp only [Act.put, List.setIfInBounds_toArray, List.set_cons_zero, List.set_cons_succ]
            refine wpAnyH_done (by kernel_rfl) ?_ _
            try simp only [Act.put]
            replace x1 := hHeld.1
            replace x7 := hHeld.2.1
            replace x8 := hHeld.2.2.1
            replace x11 := hHeld.2.2.2.1
            replace bb := hHeld.2.2.2.2
            clear hHeld
            clear hn1 hn2
            have tok123 : True := True.intro
            have tok124 : True := True.intro
            go_wp2_with (first | (refine at_op (.load 30 (.tmp 8)) (by with_reducible rfl) ?_; clear tok123; refine wpList_load_row rfl 30 (.tmp 8) rfl (p8) rfl _ _ _ _ x8 Try.underlying30 rfl infoRv ?_) | (refine at_op (.store 30 (.tmp 5) (.tmp 99)) (by with_reducible rfl) ?_; clear tok124; refine wpList_store_row rfl 30 (.tmp 5) (.tmp 99) rfl (p1) _ rfl rfl _ _ x1 infoRv rfl (by simp [Value.oneCell']) ?_))
            replace x1 := x1.setRow ([.func (.func 18) #[] #[], .slice (some ⟨g2, 0, none⟩) (m + 1) cap2])
            replace x7 := x7.setRow_other (k := p1) (by omega) (List.toArray ([.func (.func 18) #[] #[], .slice (some ⟨g2, 0, none⟩) (m + 1) cap2]))
            replace H2 := H2.setRow (k := (p1)) (by omega) (List.toArray ([.func (.func 18) #[] #[], .slice (some ⟨g2, 0, none⟩) (m + 1) cap2]))
            replace x8 := x8.setRow_other (k := p1) (by omega) (List.toArray ([.func (.func 18) #[] #[], .slice (some ⟨g2, 0, none⟩) (m + 1) cap2]))
            replace x11 := x11.setRow_other (k := p1) (by omega) (List.toArray ([.func (.func 18) #[] #[], .slice (some ⟨g2, 0, none⟩) (m + 1) cap2]))
            replace bb := below_row bb (show _ ≤ p1 by omega) (List.toArray ([.func (.func 18) #[] #[], .slice (some ⟨g2, 0, none⟩) (m + 1) cap2]))
            generalize v122.setRow p1 (List.toArray ([.func (.func 18) #[] #[], .slice (some ⟨g2, 0, none⟩) (m + 1) cap2])) = wa125 at *
            go_wp2
            go_roundw
            case rel => exact ⟨i + 1, m, g2, cap2, L2, by omega, by go_num, hm7, hcp2, hM, HU2, HS2, hne, x1, H2, bb⟩
            case measure => simp [intOf]; omega
          · clear hT CT C11 CLt CU CE
            have x8 : Row (wa105.alloc (.cells #[.nilFunc, .slice none 0 0] 30 (0, 0))) wa105.heap.size 30 ([.nilFunc, .slice none 0 0]) := Row.new' rfl rfl
            have lx1x8 : p1 < wa105.heap.size := x1.lt
            have lx7x8 : p7 < wa105.heap.size := x7.lt
            have lH2x8 : g2 < wa105.heap.size := H2.lt
            have lzx8 := bb.size
            replace x1 := (x1).alloc (.cells #[.nilFunc, .slice none 0 0] 30 (0, 0))
            replace x7 := (x7).alloc (.cells #[.nilFunc, .slice none 0 0] 30 (0, 0))
            replace H2 := (H2).alloc (.cells #[.nilFunc, .slice none 0 0] 30 (0, 0))
            replace bb := (bb).alloc bb.size (.cells #[.nilFunc, .slice none 0 0] 30 (0, 0))
            have tok206 : True := True.intro
            have tok207 : True := True.intro
            have tok208 : True := True.intro
            go_wp2_with (first | (refine at_op (.store 30 (.tmp 8) (.tmp 45)) (by with_reducible rfl) ?_; clear tok206; refine wpList_store_row rfl 30 (.tmp 8) (.tmp 45) rfl (wa105.heap.size) _ rfl rfl _ _ x8 infoRv rfl (by simp [Value.oneCell']) ?_) | (refine at_op (.load 30 (.tmp 8)) (by with_reducible rfl) ?_; clear tok207; refine wpList_load_row rfl 30 (.tmp 8) rfl (wa105.heap.size) rfl _ _ _ _ ((x8).setRow ([.func (.func 18) #[] #[], .slice (some ⟨g2, 0, none⟩) (m + 1) cap2])) Try.underlying30 rfl infoRv ?_) | (refine at_op (.store 30 (.tmp 5) (.tmp 99)) (by with_reducible rfl) ?_; clear tok208; refine wpList_store_row rfl 30 (.tmp 5) (.tmp 99) rfl (p1) _ rfl rfl _ _ ((x1).setRow_other (k := wa105.heap.size) (by omega) (List.toArray ([.func (.func 18) #[] #[], .slice (some ⟨g2, 0, none⟩) (m + 1) cap2]))) infoRv rfl (by simp [Value.oneCell']) ?_))
            obtain ⟨p8, hp8⟩ : ∃ p8, p8 = wa105.heap.size := ⟨_, rfl⟩
            rw [← hp8] at x8 lx1x8 lx7x8 lH2x8 lzx8 ⊢
            generalize wa105.alloc (.cells #[.nilFunc, .slice none 0 0] 30 (0, 0)) = wa209 at *
            clear hp8
            replace x1 := x1.setRow_other (k := p8) (by omega) (List.toArray ([.func (.func 18) #[] #[], .slice (some ⟨g2, 0, none⟩) (m + 1) cap2]))
            replace x7 := x7.setRow_other (k := p8) (by omega) (List.toArray ([.func (.func 18) #[] #[], .slice (some ⟨g2, 0, none⟩) (m + 1) cap2]))
            replace H2 := H2.setRow (k := (p8)) (by omega) (List.toArray ([.func (.func 18) #[] #[], .slice (some ⟨g2, 0, none⟩) (m + 1) cap2]))
            replace x8 := x8.setRow ([.func (.func 18) #[] #[], .slice (some ⟨g2, 0, none⟩) (m + 1) cap2])
            replace bb := below_row bb (show _ ≤ p8 by omega) (List.toArray ([.func (.func 18) #[] #[], .slice (some ⟨g2, 0, none⟩) (m + 1) cap2]))
            generalize wa209.setRow p8 (List.toArray ([.func (.func 18) #[] #[], .slice (some ⟨g2, 0, none⟩) (m + 1) cap2])) = wa210 at *
            replace x1 := x1.setRow ([.func (.func 18) #[] #[], .slice (some ⟨g2, 0, none⟩) (m + 1) cap2])
            replace x7 := x7.setRow_other (k := p1) (by omega) (List.toArray ([.func (.func 18) #[] #[], .slice (some ⟨g2, 0, none⟩) (m + 1) cap2]))
            replace H2 := H2.setRow (k := (p1)) (by omega) (List.toArray ([.func (.func 18) #[] #[], .slice (some ⟨g2, 0, none⟩) (m + 1) cap2]))
            replace x8 := x8.setRow_other (k := p1) (by omega) (List.toArray ([.func (.func 18) #[] #[], .slice (some ⟨g2, 0, none⟩) (m + 1) cap2]))
            replace bb := below_row bb (show _ ≤ p1 by omega) (List.toArray ([.func (.func 18) #[] #[], .slice (some ⟨g2, 0, none⟩) (m + 1) cap2]))
            generalize wa210.setRow p1 (List.toArray ([.func (.func 18) #[] #[], .slice (some ⟨g2, 0, none⟩) (m + 1) cap2])) = wa211 at *
            go_wp2
            go_roundw
            case rel => exact ⟨i + 1, m, g2, cap2, L2, by omega, by go_num, hm7, hcp2, hM, HU2, HS2, hne, x1, H2, bb⟩
            case measure => simp [intOf]; omega
          · clear hT CT C11 CLt CU CE
            have x8 : Row (wa105.alloc (.cells #[.nilFunc, .slice none 0 0] 30 (0, 0))) wa105.heap.size 30 ([.nilFunc, .slice none 0 0]) := Row.new' rfl rfl
            have lx1x8 : p1 < wa105.heap.size := x1.lt
            have lx7x8 : p7 < wa105.heap.size := x7.lt
            have lH2x8 : g2 < wa105.heap.size := H2.lt
            have lzx8 := bb.size
            replace x1 := (x1).alloc (.cells #[.nilFunc, .slice none 0 0] 30 (0, 0))
            replace x7 := (x7).alloc (.cells #[.nilFunc, .slice none 0 0] 30 (0, 0))
            replace H2 := (H2).alloc (.cells #[.nilFunc, .slice none 0 0] 30 (0, 0))
            replace bb := (bb).alloc bb.size (.cells #[.nilFunc, .slice none 0 0] 30 (0, 0))
            have tok306 : True := True.intro
            have tok307 : True := True.intro
            have tok308 : True := True.intro
            go_wp2_with (first | (refine at_op (.store 30 (.tmp 8) (.tmp 45)) (by with_reducible rfl) ?_; clear tok306; refine wpList_store_row rfl 30 (.tmp 8) (.tmp 45) rfl (wa105.heap.size) _ rfl rfl _ _ x8 infoRv rfl (by simp [Value.oneCell']) ?_) | (refine at_op (.load 30 (.tmp 8)) (by with_reducible rfl) ?_; clear tok307; refine wpList_load_row rfl 30 (.tmp 8) rfl (wa105.heap.size) rfl _ _ _ _ ((x8).setRow ([.func (.func 18) #[] #[], .slice (some ⟨g2, 0, none⟩) (m + 1) cap2])) Try.underlying30 rfl infoRv ?_) | (refine at_op (.store 30 (.tmp 5) (.tmp 99)) (by with_reducible rfl) ?_; clear tok308; refine wpList_store_row rfl 30 (.tmp 5) (.tmp 99) rfl (p1) _ rfl rfl _ _ ((x1).setRow_other (k := wa105.heap.size) (by omega) (List.toArray ([.func (.func 18) #[] #[], .slice (some ⟨g2, 0, none⟩) (m + 1) cap2]))) infoRv rfl (by simp [Value.oneCell']) ?_))
            obtain ⟨p8, hp8⟩ : ∃ p8, p8 = wa105.heap.size := ⟨_, rfl⟩
            rw [← hp8] at x8 lx1x8 lx7x8 lH2x8 lzx8 ⊢
            generalize wa105.alloc (.cells #[.nilFunc, .slice none 0 0] 30 (0, 0)) = wa309 at *
            clear hp8
            replace x1 := x1.setRow_other (k := p8) (by omega) (List.toArray ([.func (.func 18) #[] #[], .slice (some ⟨g2, 0, none⟩) (m + 1) cap2]))
            replace x7 := x7.setRow_other (k := p8) (by omega) (List.toArray ([.func (.func 18) #[] #[], .slice (some ⟨g2, 0, none⟩) (m + 1) cap2]))
            replace H2 := H2.setRow (k := (p8)) (by omega) (List.toArray ([.func (.func 18) #[] #[], .slice (some ⟨g2, 0, none⟩) (m + 1) cap2]))
            replace x8 := x8.setRow ([.func (.func 18) #[] #[], .slice (some ⟨g2, 0, none⟩) (m + 1) cap2])
            replace bb := below_row bb (show _ ≤ p8 by omega) (List.toArray ([.func (.func 18) #[] #[], .slice (some ⟨g2, 0, none⟩) (m + 1) cap2]))
            generalize wa309.setRow p8 (List.toArray ([.func (.func 18) #[] #[], .slice (some ⟨g2, 0, none⟩) (m + 1) cap2])) = wa310 at *
            replace x1 := x1.setRow ([.func (.func 18) #[] #[], .slice (some ⟨g2, 0, none⟩) (m + 1) cap2])
            replace x7 := x7.setRow_other (k := p1) (by omega) (List.toArray ([.func (.func 18) #[] #[], .slice (some ⟨g2, 0, none⟩) (m + 1) cap2]))
            replace H2 := H2.setRow (k := (p1)) (by omega) (List.toArray ([.func (.func 18) #[] #[], .slice (some ⟨g2, 0, none⟩) (m + 1) cap2]))
            replace x8 := x8.setRow_other (k := p1) (by omega) (List.toArray ([.func (.func 18) #[] #[], .slice (some ⟨g2, 0, none⟩) (m + 1) cap2]))
            replace bb := below_row bb (show _ ≤ p1 by omega) (List.toArray ([.func (.func 18) #[] #[], .slice (some ⟨g2, 0, none⟩) (m + 1) cap2]))
            generalize wa310.setRow p1 (List.toArray ([.func (.func 18) #[] #[], .slice (some ⟨g2, 0, none⟩) (m + 1) cap2])) = wa311 at *
            go_wp2
            go_roundw
            case rel => exact ⟨i + 1, m, g2, cap2, L2, by omega, by go_num, hm7, hcp2, hM, HU2, HS2, hne, x1, H2, bb⟩
            case measure => simp [intOf]; omega
        · have e1 : (60 : Int) < (d.size : Int) := by omega
          have c74 : (wr.alloc (.cells #[.int .u64 (o : Int), .int .u64 (nn : Int), .int .u64 (aa : Int), .int .u64 (tt : Int), .string d] 37 (0, 0))).cell? ⟨wr.heap.size, 4, none⟩ = some (.string d) := (Row.new' (l := [.int .u64 (o : Int), .int .u64 (nn : Int), .int .u64 (aa : Int), .int .u64 (tt : Int), .string d]) rfl rfl : Row (wr.alloc (.cells #[.int .u64 (o : Int), .int .u64 (nn : Int), .int .u64 (aa : Int), .int .u64 (tt : Int), .string d] 37 (0, 0))) wr.heap.size 37 [.int .u64 (o : Int), .int .u64 (nn : Int), .int .u64 (aa : Int), .int .u64 (tt : Int), .string d]).cell 4
          go_wp2_with (refine wpList_load_mid rfl 37 (.tmp 35) rfl b (off + i * 5) rfl _ _ hr Try.underlying37 rfl infoIn16 ?_)
          go_ret
          exact ⟨rfl, bb.alloc bb.size _⟩
      · obtain rfl : i = len1 := by omega
        go_wp2
        go_ret
        exact ⟨rfl, bb⟩
  · by_cases hc : 40 < len1
    · have g1 : (40 : Int) < (len1 : Int) := by omega
      clear hb
      have bb : Below w.heap.size w w := Below.refl _ _
      go_enter Try.func6, Try.ntmps6
      go_wp2_with fail
      refine (CL.out _).mono ?_
      rintro e wa2 ⟨rfl, bwa2⟩
      replace bb := bb.trans (bwa2.mono bb.size)
      clear bwa2
      go_wp2
      go_ret
      exact ⟨rfl, bb⟩
    · have g1 : ¬ (40 : Int) < (len1 : Int) := by omega
      have g2 : (60 : Int) < (a0.size : Int) := by omega
      clear hb
      have bb : Below w.heap.size w w := Below.refl _ _
      go_enter Try.func6, Try.ntmps6
      go_wp2_with fail
      refine (CL.out _).mono ?_
      rintro e wa2 ⟨rfl, bwa2⟩
      replace bb := bb.trans (bwa2.mono bb.size)
      clear bwa2
      go_wp2
      go_ret
      exact ⟨rfl, bb⟩

end Go.Proofs.Ytclkcillflaefaa.ReceiverTwiceW
