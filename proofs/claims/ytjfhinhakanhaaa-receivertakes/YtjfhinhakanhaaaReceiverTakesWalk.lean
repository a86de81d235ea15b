/-
  Layer 16: ReceiverTakes, the walk: behind any instructions each is answered, and the states are, as the document says.
-/
import Derived.Test.YtjfhinhakanhaaaGWalk
namespace Go.Proofs.Ytjfhinhakanhaaa.ReceiverTakesW
open Go.RowKit
set_option linter.unusedVariables false
set_option linter.unusedSimpArgs false
set_option maxRecDepth 20000
open R16

set_option maxHeartbeats 8000000 in
theorem walk (a0 : ByteArray) (a1 : Option Addr) (len1 cap1 : Nat) (a2 : Int) (w : World) (w0 : a0.size ≤ maxLen) (w1 : InIns5 w a1 len1 cap1) (w2 : (Lit.int .u64 a2).wf = true) :
    Calls Try.prog 3 #[.string a0, .slice a1 len1 cap1, .int .u64 a2] w fun e w' => e = .returned (.bool true) ∧ Below w.heap.size w w' := by
  obtain ⟨y0, y1⟩ := Go.bounds_u64 w2
  obtain ⟨look, rfl⟩ := Int.eq_ofNat_of_zero_le y0
  have hcap1 := w1.2.1
  have hlc1 := w1.1
  have HI := Lib.hid w1.2.2
  have CL := Lib.hid awake16_any
  unfold maxLen at w0 hcap1
  clear w1 w2 y0 y1
  by_cases hb : len1 ≤ 60 ∧ a0.size ≤ 60
  · obtain ⟨hb1, hb2⟩ := hb
    have g1 : ¬ (60 : Int) < (len1 : Int) := by omega
    have g2 : ¬ (60 : Int) < (a0.size : Int) := by omega
    have CR := Lib.hid rule16_any
    have CN := Lib.hid (new16_any a0)
    have HS0 : Hid (∀ (j : Nat) (q : Cm), ([⟨0, a0⟩] : List Cm)[j]? = some q → q.tx.size ≤ 60 + 60 * 0) := fun j q hq => by
      cases j with
      | zero => simp at hq; rw [← hq]; show a0.size ≤ _; omega
      | succ j => simp at hq
    have CT : Hid (∀ (i n g cap o nn aa tt : Nat) (d : ByteArray) (L : List Cm) (wx : World), Hid (L.length = n + 1) → n ≤ 7 → Hid (Up L) → n + 1 ≤ cap → Hid (∀ (j : Nat) (q : Cm), L[j]? = some q → q.tx.size ≤ 60 + 60 * i) → i ≤ 60 → d.size ≤ 60 → CmAt wx g 0 L → Calls Try.prog 11 #[.agg #[.func (.func 18) #[] #[], .slice (some ⟨g, 0, none⟩) (n + 1) cap], .agg #[.int .u64 (o : Int), .int .u64 (nn : Int), .int .u64 (aa : Int), .int .u64 (tt : Int), .string d]] wx fun e w' => ∃ L' last code m g' cap', e = .returned (.tuple #[.agg #[.func (.func 18) #[] #[], .slice (some ⟨g', 0, none⟩) (m + 1) cap'], .bool last, .int .i64 ((code : Nat) : Int)]) ∧ Hid (Tk L o nn tt d L' last code) ∧ Hid (L'.length = m + 1) ∧ m ≤ 7 ∧ CmAt w' g' 0 L' ∧ m + 1 ≤ cap' ∧ Below wx.heap.size wx w') := fun i n g cap o nn aa tt d L wx hn h7 hu hc hS hi hd hx => by
      refine (take_any16 g n cap o nn aa tt d L wx hn.out (by omega) hu.out hc hx (fun j q hq => by have := hS.out j q hq; omega)).mono ?_
      rintro e w' ⟨L', last, code, m, g', cap', rfl, hT, hC, hm, hcp, hbb⟩
      have h8 := hT.len (by have := hn.out; omega)
      exact ⟨L', last, code, m, g', cap', rfl, hT, hm, by omega, hC, hcp, hbb⟩
    have CQ : Hid (∀ (i n g off cap o nn tt m code : Nat) (last : Bool) (d : ByteArray) (L L2 : List Cm) (wx : World), Hid (L.length = n + 1) → n ≤ 7 → Hid (Up L) → Hid (∀ (j : Nat) (q : Cm), L[j]? = some q → q.tx.size ≤ 60 + 60 * i) → i ≤ 60 → d.size ≤ 60 → Hid (Tk L o nn tt d L2 last code) → Hid (L2.length = m + 1) → CmAt wx g off L → Calls Try.prog 12 #[.slice (some ⟨g, off, none⟩) (n + 1) cap, .int .u64 (o : Int), .int .u64 (nn : Int), .int .u64 (tt : Int), .string d] wx fun e w' => ∃ g' off' cap', e = .returned (.tuple #[.slice (some ⟨g', off', none⟩) (m + 1) cap', .bool last, .int .i64 ((code : Nat) : Int)]) ∧ CmAt w' g' off' L2 ∧ Below wx.heap.size wx w') := fun i n g off cap o nn tt m code last d L L2 wx hn h7 hu hS hi hd hT hM hx => by
      refine (refTake_any g off n cap o nn tt d L wx hu.out hn.out (by omega) hx (fun j q hq => by have := hS.out j q hq; omega)).mono ?_
      rintro e w' ⟨L', last', code', m', g', off', cap', rfl, hT', hC, hm, hbb⟩
      obtain ⟨rfl, rfl, rfl⟩ := hT'.fn hu.out hT.out
      obtain rfl : m' = m := by have := hM.out; omega
      exact ⟨g', off', cap', rfl, hC, hbb⟩
    have CLt : Hid (∀ (n g cap : Nat) (L : List Cm) (q : Cm) (wx : World), Hid (L.length = n + 1) → n ≤ 7 → Hid (L[n]? = some q) → CmAt wx g 0 L → Calls Try.prog 15 #[.agg #[.func (.func 18) #[] #[], .slice (some ⟨g, 0, none⟩) (n + 1) cap]] wx fun e w' => e = .returned (.tuple #[.int .u64 (q.num : Int), .string q.tx]) ∧ Below wx.heap.size wx w') := fun n g cap L q wx hn h7 hq hx =>
      latest_any g n cap L q wx hn.out (by omega) hq.out hx
    have CU : Hid (∀ (n g cap : Nat) (L : List Cm) (wx : World), Hid (L.length = n + 1) → n ≤ 7 → CmAt wx g 0 L → Calls Try.prog 10 #[.agg #[.func (.func 18) #[] #[], .slice (some ⟨g, 0, none⟩) (n + 1) cap]] wx fun e w' => ∃ g', e = .returned (.slice (some ⟨g', 0, none⟩) (n + 1) (n + 1)) ∧ NumAt w' g' n L ∧ Below wx.heap.size wx w') := fun n g cap L wx hn h7 hx => by
      refine (nums16_any g n cap L wx hn.out (by omega) hx).mono ?_
      rintro e w' ⟨g', rfl, ho, hbb⟩
      exact ⟨g', rfl, own_lower ho (Nat.zero_le _), hbb⟩
    have CE : Hid (∀ (n ga gb : Nat) (L : List Cm) (wx : World), Hid (L.length = n + 1) → n ≤ 7 → NumAt wx ga n L → NumAt wx gb n L → Calls Try.prog 13 #[.slice (some ⟨ga, 0, none⟩) (n + 1) (n + 1), .slice (some ⟨gb, 0, none⟩) (n + 1) (n + 1)] wx fun e w' => e = .returned (.bool true) ∧ Below wx.heap.size wx w') := fun n ga gb L wx hn h7 h1 h2 =>
      equalN_any 0 0 ga gb (n + 1) (n + 1) (n + 1) L hn.out (by omega) wx h1 h2
    have CO : Hid (∀ (n g cap k : Nat) (L : List Cm) (q : Cm) (wx : World), Hid (L.length = n + 1) → n ≤ 7 → Hid (Up L) → Hid (L[k]? = some q) → CmAt wx g 0 L → Calls Try.prog 14 #[.agg #[.func (.func 18) #[] #[], .slice (some ⟨g, 0, none⟩) (n + 1) cap], .int .u64 (q.num : Int)] wx fun e w' => e = .returned (.tuple #[.string q.tx, .bool true]) ∧ Below wx.heap.size wx w') := fun n g cap k L q wx hn h7 hu hq hx =>
      of_there g n cap k L q wx hn.out (by omega) hu.out hq.out hx
    have CW : Hid (∀ (n g cap k : Nat) (L : List Cm) (wx : World), Hid (L.length = n + 1) → n ≤ 7 → Hid (Up L) → CmAt wx g 0 L → Calls Try.prog 14 #[.agg #[.func (.func 18) #[] #[], .slice (some ⟨g, 0, none⟩) (n + 1) cap], .int .u64 (k : Int)] wx fun e w' => ∃ (t : ByteArray) (b : Bool), e = .returned (.tuple #[.string t, .bool b]) ∧ Hid ((b = true ∧ ∃ (j : Nat) (q : Cm), L[j]? = some q ∧ q.num = k) ∨ (b = false ∧ t = ⟨#[]⟩ ∧ ∀ (j : Nat) (q : Cm), L[j]? = some q → q.num ≠ k)) ∧ Below wx.heap.size wx w') := fun n g cap k L wx hn h7 hu hx =>
      of_what g n cap k L wx hn.out (by omega) hu.out hx
    have CF : Hid (∀ (n g off cap k : Nat) (L : List Cm) (wx : World), Hid (L.length = n + 1) → n ≤ 7 → CmAt wx g off L → Calls Try.prog 16 #[.slice (some ⟨g, off, none⟩) (n + 1) cap, .int .u64 (k : Int)] wx fun e w' => ∃ r : Int, e = .returned (.int .i64 r) ∧ Hid (FindR L k r) ∧ Below wx.heap.size wx w') := fun n g off cap k L wx hn h7 hx =>
      refFind_any g off (n + 1) cap k L wx hn.out (by omega) hx
    have bb : Below w.heap.size w w := Below.refl _ _
    go_enter Try.func3, Try.ntmps3
    go_wp2_with fail
    refine (CL.out _).mono ?_
    rintro e wa2 ⟨rfl, bwa2⟩
    replace bb := bb.trans (bwa2.mono bb.size)
    clear bwa2
    go_wp2_with fail
    refine (CR.out _).mono ?_
    rintro e wa3 ⟨rfl, bwa3⟩
    replace bb := bb.trans (bwa3.mono bb.size)
    clear bwa3
    go_wp2_with fail
    refine (CN.out _).mono ?_
    rintro e wa4 ⟨g0, rfl, H0, bwa4⟩
    replace bb := bb.trans (bwa4.mono bb.size)
    clear bwa4
    have x1 : Row (wa4.alloc (.cells #[.nilFunc, .slice none 0 0] 30 (0, 0))) wa4.heap.size 30 ([.nilFunc, .slice none 0 0]) := Row.new' rfl rfl
    have lH0x1 : g0 < wa4.heap.size := H0.lt
    have lzx1 := bb.size
    replace H0 := (H0).alloc (.cells #[.nilFunc, .slice none 0 0] 30 (0, 0))
    replace bb := (bb).alloc bb.size (.cells #[.nilFunc, .slice none 0 0] 30 (0, 0))
    have sz : (wa4.alloc (.cells #[.nilFunc, .slice none 0 0] 30 (0, 0))).heap.size = wa4.heap.size + 1 := by simp
    have tok5 : True := True.intro
    go_wp2_with (first | (refine at_op (.store 30 (.tmp 7) (.tmp 40)) (by with_reducible rfl) ?_; clear tok5; refine wpList_store_row rfl 30 (.tmp 7) (.tmp 40) rfl (wa4.heap.size) _ rfl rfl _ _ x1 infoRv rfl (by simp [Value.oneCell']) ?_))
    obtain ⟨p1, hp1⟩ : ∃ p1, p1 = wa4.heap.size := ⟨_, rfl⟩
    rw [← hp1] at x1 lH0x1 lzx1 sz ⊢
    generalize wa4.alloc (.cells #[.nilFunc, .slice none 0 0] 30 (0, 0)) = wa6 at *
    clear hp1
    have sz2 : (wa6.setRow p1 (List.toArray ([.func (.func 18) #[] #[], .slice (some ⟨g0, 0, none⟩) 1 1]))).heap.size = p1 + 1 := by simp [World.setRow]; exact sz
    replace H0 := H0.setRow (k := (p1)) (by omega) (List.toArray ([.func (.func 18) #[] #[], .slice (some ⟨g0, 0, none⟩) 1 1]))
    replace x1 := x1.setRow ([.func (.func 18) #[] #[], .slice (some ⟨g0, 0, none⟩) 1 1])
    replace bb := below_row bb (show _ ≤ p1 by omega) (List.toArray ([.func (.func 18) #[] #[], .slice (some ⟨g0, 0, none⟩) 1 1]))
    generalize wa6.setRow p1 (List.toArray ([.func (.func 18) #[] #[], .slice (some ⟨g0, 0, none⟩) 1 1])) = wa7 at *
    have y1 : Row (wa7.alloc (.cells #[.int .u64 0, .string a0] 34 (0, 0))) (p1 + 1) 34 ([.int .u64 0, .string a0]) := Row.new' rfl (by first | exact sz2 | exact sz2.symm)
    replace x1 := x1.alloc (.cells #[.int .u64 0, .string a0] 34 (0, 0))
    replace H0 := H0.alloc (.cells #[.int .u64 0, .string a0] 34 (0, 0))
    replace bb := bb.alloc bb.size (.cells #[.int .u64 0, .string a0] 34 (0, 0))
    generalize wa7.alloc (.cells #[.int .u64 0, .string a0] 34 (0, 0)) = wb8 at *
    obtain ⟨gq0, hgq0⟩ : ∃ x, x = p1 + 1 := ⟨_, rfl⟩
    rw [← hgq0] at y1 ⊢
    clear hgq0 sz sz2
    have hne0 := cm_ne' H0 (Nat.le_refl 1) x1 (fun z => by simp) (fun z => by simp)
    have Q0 : CmAt wb8 gq0 0 [⟨0, a0⟩] := ⟨_, [], [], rfl, y1⟩
    have hnq0 := cm_ne' Q0 (Nat.le_refl 1) x1 (fun z => by simp) (fun z => by simp)
    clear CR CN CL y1
    go_wp2
    go_loopw [46, 8] (fun iv qv wr => ∃ (i n g cap : Nat) (L : List Cm) (gq oq cq : Nat), i ≤ len1 ∧ iv = .int .i64 (i : Int) ∧ qv = .slice (some ⟨gq, oq, none⟩) (n + 1) cq ∧ n ≤ 7 ∧ n + 1 ≤ cap ∧ Hid (L.length = n + 1) ∧ Hid (Up L) ∧ Hid (∀ (j : Nat) (q : Cm), L[j]? = some q → q.tx.size ≤ 60 + 60 * i) ∧ g ≠ p1 ∧ gq ≠ p1 ∧ Row wr p1 30 [.func (.func 18) #[] #[], .slice (some ⟨g, 0, none⟩) (n + 1) cap] ∧ CmAt wr g 0 L ∧ CmAt wr gq oq L ∧ Below w.heap.size w wr) (fun iv _ _ => len1 - (intOf iv).toNat)
    case atStart => exact ⟨0, 0, g0, 1, [⟨0, a0⟩], gq0, 0, 1, Nat.zero_le _, rfl, rfl, by decide, by decide, Lib.hid rfl, up_one a0, HS0, hne0, hnq0, x1, H0, Q0, bb⟩
    case round =>
      clear x1 H0 Q0 bb HS0 hne0 hnq0
      obtain ⟨i, n, g, cap, L, gq, oq, cq, hi, rfl, rfl, h7, hcp, HL, HU, HS, hgp, hqp, x1, H0, Q0, bb⟩ := hrel
      by_cases hlt : i < len1
      · have hs : (i : Int) < (len1 : Int) := by omega
        obtain ⟨b, off, rfl, hbl, hin⟩ := HI.out (by omega)
        obtain ⟨o, nn, aa, tt, d, ⟨ho, hnn, haa, htt, hd⟩, hr0⟩ := hin i hlt
        have hr : wr.rangeAt b (off + i * 5) [.int .u64 (o : Int), .int .u64 (nn : Int), .int .u64 (aa : Int), .int .u64 (tt : Int), .string d] := rangeBelow hr0 bb hbl
        clear hin hr0
        unfold maxLen at hd
        by_cases hd60 : d.size ≤ 60
        · have s60 : ¬ (60 : Int) < (d.size : Int) := by omega
          have x10 : Row (wr.alloc (.cells #[.int .u64 (o : Int), .int .u64 (nn : Int), .int .u64 (aa : Int), .int .u64 (tt : Int), .string d] 37 (0, 0))) wr.heap.size 37 ([.int .u64 (o : Int), .int .u64 (nn : Int), .int .u64 (aa : Int), .int .u64 (tt : Int), .string d]) := Row.new' rfl rfl
          have lx1x10 : p1 < wr.heap.size := x1.lt
          have lzx10 := bb.size
          replace x1 := x1.alloc (.cells #[.int .u64 (o : Int), .int .u64 (nn : Int), .int .u64 (aa : Int), .int .u64 (tt : Int), .string d] 37 (0, 0))
          replace H0 := H0.alloc (.cells #[.int .u64 (o : Int), .int .u64 (nn : Int), .int .u64 (aa : Int), .int .u64 (tt : Int), .string d] 37 (0, 0))
          replace Q0 := Q0.alloc (.cells #[.int .u64 (o : Int), .int .u64 (nn : Int), .int .u64 (aa : Int), .int .u64 (tt : Int), .string d] 37 (0, 0))
          replace bb := bb.alloc bb.size (.cells #[.int .u64 (o : Int), .int .u64 (nn : Int), .int .u64 (aa : Int), .int .u64 (tt : Int), .string d] 37 (0, 0))
          have c51 : (wr.alloc (.cells #[.int .u64 (o : Int), .int .u64 (nn : Int), .int .u64 (aa : Int), .int .u64 (tt : Int), .string d] 37 (0, 0))).cell? ⟨wr.heap.size, 4, none⟩ = some (.string d) := x10.cell 4
          have tok101 : True := True.intro
          have tok102 : True := True.intro
          go_wp2_with (first | (refine at_op (.load 37 (.tmp 48)) (by with_reducible rfl) ?_; clear tok101; refine wpList_load_mid rfl 37 (.tmp 48) rfl b (off + i * 5) rfl _ _ hr Try.underlying37 rfl infoIn16 ?_) | (refine at_op (.load 30 (.tmp 7)) (by with_reducible rfl) ?_; clear tok102; refine wpList_load_row rfl 30 (.tmp 7) rfl (p1) rfl _ _ _ _ x1 Try.underlying30 rfl infoRv ?_))
          clear c51 hr
          obtain ⟨p10, hp10⟩ : ∃ p10, p10 = wr.heap.size := ⟨_, rfl⟩
          rw [← hp10] at x10 lx1x10 lzx10 ⊢
          generalize wr.alloc (.cells #[.int .u64 (o : Int), .int .u64 (nn : Int), .int .u64 (aa : Int), .int .u64 (tt : Int), .string d] 37 (0, 0)) = wa103 at *
          clear hp10
          refine (CU.out n g cap L _ HL h7 H0).mono ?_
          rintro e wa104 ⟨gw, rfl, N0, bwa104⟩
          replace x1 := x1.below bwa104 x1.lt
          replace H0 := H0.keep bwa104
          replace Q0 := Q0.keep bwa104
          replace x10 := x10.below bwa104 x10.lt
          replace bb := bb.trans (bwa104.mono bb.size)
          clear bwa104
          have tok105 : True := True.intro
          have tok106 : True := True.intro
          go_wp2_with (first | (refine at_op (.load 30 (.tmp 7)) (by with_reducible rfl) ?_; clear tok105; refine wpList_load_row rfl 30 (.tmp 7) rfl (p1) rfl _ _ _ _ x1 Try.underlying30 rfl infoRv ?_) | (refine at_op (.load 37 (.tmp 10)) (by with_reducible rfl) ?_; clear tok106; refine wpList_load_row rfl 37 (.tmp 10) rfl (p10) rfl _ _ _ _ x10 Try.underlying37 rfl infoIn16 ?_))
          refine (CT.out i n g cap o nn aa tt d L _ HL h7 HU hcp HS (by omega) hd60 H0).mono ?_
          rintro e wa107 ⟨L2, last, code, m, g2, cap2, rfl, hT, hM, hm7, H2, hcp2, bwa107⟩
          replace x1 := x1.below bwa107 x1.lt
          replace H0 := H0.keep bwa107
          replace Q0 := Q0.keep bwa107
          replace x10 := x10.below bwa107 x10.lt
          replace N0 := N0.keep bwa107
          replace bb := bb.trans (bwa107.mono bb.size)
          clear bwa107
          have HU2 : Hid (Up L2) := hT.out.up HU.out
          have HS2 : Hid (∀ (j : Nat) (q : Cm), L2[j]? = some q → q.tx.size ≤ 60 + 60 * (i + 1)) := fun j q hq => by have := hT.out.size HS.out hd60 j q hq; omega
          have hne := cm_ne' H2 (by rw [hM.out]; omega) x1 (fun z => by simp) (fun z => by simp)
          have x12 : Row (wa107.alloc (.cells #[.nilFunc, .slice none 0 0] 30 (0, 0))) wa107.heap.size 30 ([.nilFunc, .slice none 0 0]) := Row.new' rfl rfl
          have lx1x12 : p1 < wa107.heap.size := x1.lt
          have lH0x12 : g < wa107.heap.size := H0.lt
          have lQ0x12 : gq < wa107.heap.size := Q0.lt
          have lx10x12 : p10 < wa107.heap.size := x10.lt
          have lN0x12 : gw < wa107.heap.size := N0.lt
          have lH2x12 : g2 < wa107.heap.size := H2.lt
          have lzx12 := bb.size
          replace x1 := (x1).alloc (.cells #[.nilFunc, .slice none 0 0] 30 (0, 0))
          replace H0 := (H0).alloc (.cells #[.nilFunc, .slice none 0 0] 30 (0, 0))
          replace Q0 := (Q0).alloc (.cells #[.nilFunc, .slice none 0 0] 30 (0, 0))
          replace x10 := (x10).alloc (.cells #[.nilFunc, .slice none 0 0] 30 (0, 0))
          replace N0 := (N0).alloc (.cells #[.nilFunc, .slice none 0 0] 30 (0, 0))
          replace H2 := (H2).alloc (.cells #[.nilFunc, .slice none 0 0] 30 (0, 0))
          replace bb := (bb).alloc bb.size (.cells #[.nilFunc, .slice none 0 0] 30 (0, 0))
          have c0 : _ = some (.int .u64 (o : Int) : Value) := ((x10).setRow_other (k := wa107.heap.size) (by omega) (List.toArray ([.func (.func 18) #[] #[], .slice (some ⟨g2, 0, none⟩) (m + 1) cap2]))).cell 0
          have c1 : _ = some (.int .u64 (nn : Int) : Value) := ((x10).setRow_other (k := wa107.heap.size) (by omega) (List.toArray ([.func (.func 18) #[] #[], .slice (some ⟨g2, 0, none⟩) (m + 1) cap2]))).cell 1
          have c3 : _ = some (.int .u64 (tt : Int) : Value) := ((x10).setRow_other (k := wa107.heap.size) (by omega) (List.toArray ([.func (.func 18) #[] #[], .slice (some ⟨g2, 0, none⟩) (m + 1) cap2]))).cell 3
          have c4 : _ = some (.string d : Value) := ((x10).setRow_other (k := wa107.heap.size) (by omega) (List.toArray ([.func (.func 18) #[] #[], .slice (some ⟨g2, 0, none⟩) (m + 1) cap2]))).cell 4
          have tok108 : True := True.intro
          go_wp2_with (first | (refine at_op (.store 30 (.tmp 12) (.tmp 60)) (by with_reducible rfl) ?_; clear tok108; refine wpList_store_row rfl 30 (.tmp 12) (.tmp 60) rfl (wa107.heap.size) _ rfl rfl _ _ x12 infoRv rfl (by simp [Value.oneCell']) ?_))
          clear c0 c1 c3 c4
          obtain ⟨p12, hp12⟩ : ∃ p12, p12 = wa107.heap.size := ⟨_, rfl⟩
          rw [← hp12] at x12 lx1x12 lH0x12 lQ0x12 lx10x12 lN0x12 lH2x12 lzx12 ⊢
          generalize wa107.alloc (.cells #[.nilFunc, .slice none 0 0] 30 (0, 0)) = wa109 at *
          clear hp12
          replace x1 := x1.setRow_other (k := p12) (by omega) (List.toArray ([.func (.func 18) #[] #[], .slice (some ⟨g2, 0, none⟩) (m + 1) cap2]))
          replace H0 := H0.setRow (k := (p12)) (by omega) (List.toArray ([.func (.func 18) #[] #[], .slice (some ⟨g2, 0, none⟩) (m + 1) cap2]))
          replace Q0 := Q0.setRow (k := (p12)) (by omega) (List.toArray ([.func (.func 18) #[] #[], .slice (some ⟨g2, 0, none⟩) (m + 1) cap2]))
          replace x10 := x10.setRow_other (k := p12) (by omega) (List.toArray ([.func (.func 18) #[] #[], .slice (some ⟨g2, 0, none⟩) (m + 1) cap2]))
          replace N0 := N0.setRow (k := (p12)) (by omega) (List.toArray ([.func (.func 18) #[] #[], .slice (some ⟨g2, 0, none⟩) (m + 1) cap2]))
          replace H2 := H2.setRow (k := (p12)) (by omega) (List.toArray ([.func (.func 18) #[] #[], .slice (some ⟨g2, 0, none⟩) (m + 1) cap2]))
          replace x12 := x12.setRow ([.func (.func 18) #[] #[], .slice (some ⟨g2, 0, none⟩) (m + 1) cap2])
          replace bb := below_row bb (show _ ≤ p12 by omega) (List.toArray ([.func (.func 18) #[] #[], .slice (some ⟨g2, 0, none⟩) (m + 1) cap2]))
          generalize wa109.setRow p12 (List.toArray ([.func (.func 18) #[] #[], .slice (some ⟨g2, 0, none⟩) (m + 1) cap2])) = wa110 at *
          refine (CQ.out i n gq oq cq o nn tt m code last d L L2 _ HL h7 HU HS (by omega) hd60 hT hM Q0).mono ?_
          rintro e wa111 ⟨gq2, oq2, cq2, rfl, Q2, bwa111⟩
          replace x1 := x1.below bwa111 x1.lt
          replace H0 := H0.keep bwa111
          replace Q0 := Q0.keep bwa111
          replace x10 := x10.below bwa111 x10.lt
          replace N0 := N0.keep bwa111
          replace H2 := H2.keep bwa111
          replace x12 := x12.below bwa111 x12.lt
          replace bb := bb.trans (bwa111.mono bb.size)
          clear bwa111
          have hnq := cm_ne' Q2 (by rw [hM.out]; omega) x1 (fun z => by simp) (fun z => by simp)
          clear Q0
          clear HS hT CQ CT
          have tok112 : True := True.intro
          go_wp2_with (first | (clear tok112; (refine at_dst (some 86) rfl ?_; refine wpList_rowT (by rfl) 30 (.tmp 7) rfl (p1) rfl _ _ _ (x1) Try.underlying30 rfl infoRv ?_)))
          refine (CU.out n g cap L _ HL h7 H0).mono ?_
          rintro e wa113 ⟨gv, rfl, N1, bwa113⟩
          replace x1 := x1.below bwa113 x1.lt
          replace H0 := H0.keep bwa113
          replace x10 := x10.below bwa113 x10.lt
          replace N0 := N0.keep bwa113
          replace H2 := H2.keep bwa113
          replace x12 := x12.below bwa113 x12.lt
          replace Q2 := Q2.keep bwa113
          replace bb := bb.trans (bwa113.mono bb.size)
          clear bwa113
          go_wp2_with fail
          refine (CE.out n gv gw L _ HL h7 N1 N0).mono ?_
          rintro e wa114 ⟨rfl, bwa114⟩
          replace x1 := x1.below bwa114 x1.lt
          replace H0 := H0.keep bwa114
          replace x10 := x10.below bwa114 x10.lt
          replace N0 := N0.keep bwa114
          replace H2 := H2.keep bwa114
          replace x12 := x12.below bwa114 x12.lt
          replace Q2 := Q2.keep bwa114
          replace N1 := N1.keep bwa114
          replace bb := bb.trans (bwa114.mono bb.size)
          clear bwa114
          clear N0 N1 H0
          have tok115 : True := True.intro
          have tok116 : True := True.intro
          have tok117 : True := True.intro
          go_wp2_with (first | (refine at_op (.load 30 (.tmp 12)) (by with_reducible rfl) ?_; clear tok115; refine wpList_load_row rfl 30 (.tmp 12) rfl (p12) rfl _ _ _ _ x12 Try.underlying30 rfl infoRv ?_) | (refine at_op (.store 30 (.tmp 7) (.tmp 92)) (by with_reducible rfl) ?_; clear tok116; refine wpList_store_row rfl 30 (.tmp 7) (.tmp 92) rfl (p1) _ rfl rfl _ _ (x1) infoRv rfl (by simp [Value.oneCell']) ?_) | (refine at_op (.load 30 (.tmp 7)) (by with_reducible rfl) ?_; clear tok117; refine wpList_load_row rfl 30 (.tmp 7) rfl (p1) rfl _ _ _ _ ((x1).setRow ([.func (.func 18) #[] #[], .slice (some ⟨g2, 0, none⟩) (m + 1) cap2])) Try.underlying30 rfl infoRv ?_))
          replace x1 := x1.setRow ([.func (.func 18) #[] #[], .slice (some ⟨g2, 0, none⟩) (m + 1) cap2])
          replace x10 := x10.setRow_other (k := p1) (by omega) (List.toArray ([.func (.func 18) #[] #[], .slice (some ⟨g2, 0, none⟩) (m + 1) cap2]))
          replace H2 := H2.setRow (k := (p1)) (by omega) (List.toArray ([.func (.func 18) #[] #[], .slice (some ⟨g2, 0, none⟩) (m + 1) cap2]))
          replace x12 := x12.setRow_other (k := p1) (by omega) (List.toArray ([.func (.func 18) #[] #[], .slice (some ⟨g2, 0, none⟩) (m + 1) cap2]))
          replace Q2 := Q2.setRow (k := (p1)) (by omega) (List.toArray ([.func (.func 18) #[] #[], .slice (some ⟨g2, 0, none⟩) (m + 1) cap2]))
          replace bb := below_row bb (show _ ≤ p1 by omega) (List.toArray ([.func (.func 18) #[] #[], .slice (some ⟨g2, 0, none⟩) (m + 1) cap2]))
          generalize wa114.setRow p1 (List.toArray ([.func (.func 18) #[] #[], .slice (some ⟨g2, 0, none⟩) (m + 1) cap2])) = wa118 at *
          refine (CU.out m g2 cap2 L2 _ hM hm7 H2).mono ?_
          rintro e wa119 ⟨gn, rfl, N2, bwa119⟩
          replace x1 := x1.below bwa119 x1.lt
          replace x10 := x10.below bwa119 x10.lt
          replace H2 := H2.keep bwa119
          replace x12 := x12.below bwa119 x12.lt
          replace Q2 := Q2.keep bwa119
          replace bb := bb.trans (bwa119.mono bb.size)
          clear bwa119
          clear x10 x12
          clear CU CE HU
          go_wp2
          go_loopw [103] (fun kv wr => ∃ k : Nat, k ≤ m + 1 ∧ kv = .int .i64 (k : Int) ∧ Row wr p1 30 [.func (.func 18) #[] #[], .slice (some ⟨g2, 0, none⟩) (m + 1) cap2] ∧ CmAt wr g2 0 L2 ∧ CmAt wr gq2 oq2 L2 ∧ NumAt wr gn m L2 ∧ Below w.heap.size w wr) (fun kv _ => m + 1 - (intOf kv).toNat)
          case atStart => exact ⟨0, Nat.zero_le _, rfl, x1, H2, Q2, N2, bb⟩
          case round =>
            clear x1 H2 Q2 N2 bb
            obtain ⟨k, hk, rfl, x1, H2, Q2, N2, bb⟩ := hrel
            by_cases hkm : k < m + 1
            · have hks : (k : Int) < ((m + 1 : Nat) : Int) := by omega
              obtain ⟨q, hq⟩ : ∃ q, L2[k]? = some q := ⟨L2[k]'(by rw [hM.out]; exact hkm), List.getElem?_eq_getElem (by rw [hM.out]; exact hkm)⟩
              have hr2 : wr.rangeAt gq2 (oq2 + k * 2) [.int .u64 (q.num : Int), .string q.tx] := Q2.load hq
              have HQ := Lib.hid hq
              clear hq
              have x20 : Row (wr.alloc (.cells #[.int .u64 (q.num : Int), .string q.tx] 34 (0, 0))) wr.heap.size 34 ([.int .u64 (q.num : Int), .string q.tx]) := Row.new' rfl rfl
              have lx1x20 : p1 < wr.heap.size := x1.lt
              have lzx20 := bb.size
              replace x1 := x1.alloc (.cells #[.int .u64 (q.num : Int), .string q.tx] 34 (0, 0))
              replace H2 := H2.alloc (.cells #[.int .u64 (q.num : Int), .string q.tx] 34 (0, 0))
              replace Q2 := Q2.alloc (.cells #[.int .u64 (q.num : Int), .string q.tx] 34 (0, 0))
              replace N2 := N2.alloc (.cells #[.int .u64 (q.num : Int), .string q.tx] 34 (0, 0))
              replace bb := bb.alloc bb.size (.cells #[.int .u64 (q.num : Int), .string q.tx] 34 (0, 0))
              have c111 : (wr.alloc (.cells #[.int .u64 (q.num : Int), .string q.tx] 34 (0, 0))).cell? ⟨wr.heap.size, 0, none⟩ = some (.int .u64 (q.num : Int)) := x20.cell 0
              have tok301 : True := True.intro
              have tok302 : True := True.intro
              go_wp2_with (first | (refine at_op (.load 34 (.tmp 106)) (by with_reducible rfl) ?_; clear tok301; refine wpList_load_mid rfl 34 (.tmp 106) rfl gq2 (oq2 + k * 2) rfl _ _ hr2 Try.underlying34 rfl infoRs ?_) | (refine at_op (.load 30 (.tmp 7)) (by with_reducible rfl) ?_; clear tok302; refine wpList_load_row rfl 30 (.tmp 7) rfl (p1) rfl _ _ _ _ x1 Try.underlying30 rfl infoRv ?_))
              clear c111 hr2
              obtain ⟨p20, hp20⟩ : ∃ p20, p20 = wr.heap.size := ⟨_, rfl⟩
              rw [← hp20] at x20 lx1x20 lzx20 ⊢
              generalize wr.alloc (.cells #[.int .u64 (q.num : Int), .string q.tx] 34 (0, 0)) = wa303 at *
              clear hp20
              refine (CO.out m g2 cap2 k L2 q _ hM hm7 HU2 HQ H2).mono ?_
              rintro e wa304 ⟨rfl, bwa304⟩
              replace x1 := x1.below bwa304 x1.lt
              replace H2 := H2.keep bwa304
              replace Q2 := Q2.keep bwa304
              replace N2 := N2.keep bwa304
              replace x20 := x20.below bwa304 x20.lt
              replace bb := bb.trans (bwa304.mono bb.size)
              clear bwa304
              obtain ⟨qt, hqt⟩ : ∃ x, x = q.tx := ⟨_, rfl⟩
              rw [← hqt] at x20 ⊢
              clear hqt
              go_wp2
              refine wp_region_held_drew (S := fun w' => Row w' p1 30 [.func (.func 18) #[] #[], .slice (some ⟨g2, 0, none⟩) (m + 1) cap2] ∧ R16.CmAt w' g2 0 L2 ∧ R16.CmAt w' gq2 oq2 L2 ∧ R16.NumAt w' gn m L2 ∧ Row w' p20 34 [.int .u64 (q.num : Int), .string qt] ∧ Below w.heap.size w w') (by kernel_rfl) (⟨x1.drew, H2.drew, Q2.drew, N2.drew, x20.drew, bb.drew⟩) (fun hHeld => ?_)
              generalize wa304.drew = wd305 at *
              refine take_d 0 (some 115) (.slice (some ⟨gn, 0, none⟩) (m + 1) (m + 1)) rfl (by kernel_rfl) (by kernel_rfl) (by kernel_rfl) (fun _ _ _ h => h) (fun oi h => by cases h; exact Or.inl ⟨by rfl, fun w' hS' => by go_simp⟩) hHeld ?_
              try simp only [Act.put, List.setIfInBounds_toArray, List.set_cons_zero, List.set_cons_succ]
              refine take_d 1 (some 116) (.int .i64 (k : Int)) rfl (by kernel_rfl) (by kernel_rfl) (by kernel_rfl) (fun _ _ _ h => h) (fun oi h => by cases h; exact Or.inl ⟨by rfl, fun w' hS' => by go_simp⟩) hHeld ?_
              try simp only [Act.put, List.setIfInBounds_toArray, List.set_cons_zero, List.set_cons_succ]
              refine take_d 2 (some 117) (.pointer (some ⟨gn, k, none⟩)) rfl (by kernel_rfl) (by kernel_rfl) (by kernel_rfl) (fun _ _ _ h => h) (fun oi h => by cases h; exact Or.inl ⟨by rfl, fun w' hS' => by go_simp⟩) hHeld ?_
              try simp only [Act.put, List.setIfInBounds_toArray, List.set_cons_zero, List.set_cons_succ]
              refine take_d 3 (some 118) (.int .u64 (q.num : Int)) rfl (by kernel_rfl) (by kernel_rfl) (by kernel_rfl) (fun _ _ _ h => h) (fun oi h => by cases h; exact Or.inl ⟨by rfl, fun w' hS' => by have c := NumAt.cell (hS'.2.2.2.1) hM.out HQ.out; go_simp⟩) hHeld ?_
              try simp only [Act.put, List.setIfInBounds_toArray, List.set_cons_zero, List.set_cons_succ]
              refine take_d 4 (some 119) (.pointer (some ⟨p20, 0, none⟩)) rfl (by kernel_rfl) (by kernel_rfl) (by kernel_rfl) (fun _ _ _ h => h) (fun oi h => by cases h; exact Or.inl ⟨by rfl, fun w' hS' => by go_simp⟩) hHeld ?_
              try simp only [Act.put, List.setIfInBounds_toArray, List.set_cons_zero, List.set_cons_succ]
              refine take_d 5 (some 120) (.int .u64 (q.num : Int)) rfl (by kernel_rfl) (by kernel_rfl) (by kernel_rfl) (fun _ _ _ h => h) (fun oi h => by cases h; exact Or.inl ⟨by rfl, fun w' hS' => by have c : w'.cell? ⟨p20, 0, none⟩ = some (.int .u64 (q.num : Int)) := hS'.2.2.2.2.1.cell 0; go_simp⟩) hHeld ?_
              try simp only [Act.put, List.setIfInBounds_toArray, List.set_cons_zero, List.set_cons_succ]
              refine take_d 6 (some 121) (.bool false) rfl (by kernel_rfl) (by kernel_rfl) (by kernel_rfl) (fun _ _ _ h => h) (fun oi h => by cases h; exact Or.inl ⟨by rfl, fun w' hS' => by go_simp⟩) hHeld ?_
              try simp only [Act.put, List.setIfInBounds_toArray, List.set_cons_zero, List.set_cons_succ]
              refine take_d 7 (some 122) (.bool false) rfl (by kernel_rfl) (by kernel_rfl) (by kernel_rfl) (fun _ _ _ h => h) (fun oi h => by cases h; exact Or.inl ⟨by rfl, fun w' hS' => by go_simp⟩) hHeld ?_
              try simp only [Act.put, List.setIfInBounds_toArray, List.set_cons_zero, List.set_cons_succ]
              refine take_d 8 (some 123) (.bool true) rfl (by kernel_rfl) (by kernel_rfl) (by kernel_rfl) (fun _ _ _ h => h) (fun oi h => by cases h; exact Or.inl ⟨by rfl, fun w' hS' => by go_simp⟩) hHeld ?_
              try simp only [Act.put, List.setIfInBounds_toArray, List.set_cons_zero, List.set_cons_succ]
              refine take_d 9 (some 124) (.bool false) rfl (by kernel_rfl) (by kernel_rfl) (by kernel_rfl) (fun _ _ _ h => h) (fun oi h => by cases h; exact Or.inl ⟨by rfl, fun w' hS' => by go_simp⟩) hHeld ?_
              try simp only [Act.put, List.setIfInBounds_toArray, List.set_cons_zero, List.set_cons_succ]
              refine take_d 10 (some 125) (.bool false) rfl (by kernel_rfl) (by kernel_rfl) (by kernel_rfl) (fun _ _ _ h => h) (fun oi h => by cases h; exact Or.inl ⟨by rfl, fun w' hS' => by go_simp⟩) hHeld ?_
              try simp only [Act.put, List.setIfInBounds_toArray, List.set_cons_zero, List.set_cons_succ]
              refine take_d 11 (some 126) (.bool false) rfl (by kernel_rfl) (by kernel_rfl) (by kernel_rfl) (fun _ _ _ h => h) (fun oi h => by cases h; exact Or.inl ⟨by rfl, fun w' hS' => by go_simp⟩) hHeld ?_
              try simp only [Act.put, List.setIfInBounds_toArray, List.set_cons_zero, List.set_cons_succ]
              refine take_d 12 (some 127) (.string qt) rfl (by kernel_rfl) (by kernel_rfl) (by kernel_rfl) (fun _ _ _ h => h) (fun oi h => by cases h; exact Or.inl ⟨by rfl, fun w' hS' => by go_simp⟩) hHeld ?_
              try simp only [Act.put, List.setIfInBounds_toArray, List.set_cons_zero, List.set_cons_succ]
              refine take_d 13 (some 128) (.pointer (some ⟨p20, 1, none⟩)) rfl (by kernel_rfl) (by kernel_rfl) (by kernel_rfl) (fun _ _ _ h => h) (fun oi h => by cases h; exact Or.inl ⟨by rfl, fun w' hS' => by go_simp⟩) hHeld ?_
              try simp only [Act.put, List.setIfInBounds_toArray, List.set_cons_zero, List.set_cons_succ]
              refine take_d 14 (some 129) (.string qt) rfl (by kernel_rfl) (by kernel_rfl) (by kernel_rfl) (fun _ _ _ h => h) (fun oi h => by cases h; exact Or.inl ⟨by rfl, fun w' hS' => by have c : w'.cell? ⟨p20, 1, none⟩ = some (.string qt) := hS'.2.2.2.2.1.cell 1; go_simp⟩) hHeld ?_
              try simp only [Act.put, List.setIfInBounds_toArray, List.set_cons_zero, List.set_cons_succ]
              refine take_d 15 (some 130) (.bool false) rfl (by kernel_rfl) (by kernel_rfl) (by kernel_rfl) (fun _ _ _ h => h) (fun oi h => by cases h; exact Or.inl ⟨by rfl, fun w' hS' => by go_simp⟩) hHeld ?_
              try simp only [Act.put, List.setIfInBounds_toArray, List.set_cons_zero, List.set_cons_succ]
              refine take_d 16 (some 131) (.bool false) rfl (by kernel_rfl) (by kernel_rfl) (by kernel_rfl) (fun _ _ _ h => h) (fun oi h => by cases h; exact Or.inl ⟨by rfl, fun w' hS' => by go_simp⟩) hHeld ?_
              try simp only [Act.put, List.setIfInBounds_toArray, List.set_cons_zero, List.set_cons_succ]
              refine wpAnyH_done (by kernel_rfl) ?_ _
              try simp only [Act.put]
              replace x1 := hHeld.1
              replace H2 := hHeld.2.1
              replace Q2 := hHeld.2.2.1
              replace N2 := hHeld.2.2.2.1
              replace x20 := hHeld.2.2.2.2.1
              replace bb := hHeld.2.2.2.2.2
              clear hHeld
              go_wp2
              go_roundw
              case rel => exact ⟨k + 1, by omega, by go_num, x1, H2, Q2, N2, bb⟩
              case measure => simp [intOf]; omega
            · obtain rfl : k = m + 1 := by omega
              clear N2
              obtain ⟨q, hq⟩ : ∃ q, L2[m]? = some q := ⟨L2[m]'(by rw [hM.out]; omega), List.getElem?_eq_getElem (by rw [hM.out]; omega)⟩
              have HQ := Lib.hid hq
              clear hq
              have y1 : IntKind.i64.wrap (((m + 1 : Nat) : Int) - 1) = (m : Int) := by rw [IntKind.wrap_i64]; omega
              have y2 : (m : Int) < ((m + 1 : Nat) : Int) := by omega
              have tok501 : True := True.intro
              go_wp2_with (first | (refine at_op (.load 30 (.tmp 7)) (by with_reducible rfl) ?_; clear tok501; refine wpList_load_row rfl 30 (.tmp 7) rfl (p1) rfl _ _ _ _ x1 Try.underlying30 rfl infoRv ?_))
              refine (CLt.out m g2 cap2 L2 q _ hM hm7 HQ H2).mono ?_
              rintro e wa502 ⟨rfl, bwa502⟩
              replace x1 := x1.below bwa502 x1.lt
              replace H2 := H2.keep bwa502
              replace Q2 := Q2.keep bwa502
              replace bb := bb.trans (bwa502.mono bb.size)
              clear bwa502
              have c144 := Q2.num HQ.out
              have c154 := Q2.tx HQ.out
              go_wp2
              go_roundw
              case rel => exact ⟨i + 1, m, g2, cap2, L2, gq2, oq2, cq2, by omega, by go_num, rfl, hm7, hcp2, hM, HU2, HS2, hne, hnq, x1, H2, Q2, bb⟩
              case measure => simp [intOf]; omega
        · have e1 : (60 : Int) < (d.size : Int) := by omega
          have c51 : (wr.alloc (.cells #[.int .u64 (o : Int), .int .u64 (nn : Int), .int .u64 (aa : Int), .int .u64 (tt : Int), .string d] 37 (0, 0))).cell? ⟨wr.heap.size, 4, none⟩ = some (.string d) := (Row.new' (l := [.int .u64 (o : Int), .int .u64 (nn : Int), .int .u64 (aa : Int), .int .u64 (tt : Int), .string d]) rfl rfl : Row (wr.alloc (.cells #[.int .u64 (o : Int), .int .u64 (nn : Int), .int .u64 (aa : Int), .int .u64 (tt : Int), .string d] 37 (0, 0))) wr.heap.size 37 [.int .u64 (o : Int), .int .u64 (nn : Int), .int .u64 (aa : Int), .int .u64 (tt : Int), .string d]).cell 4
          go_wp2_with (refine wpList_load_mid rfl 37 (.tmp 48) rfl b (off + i * 5) rfl _ _ hr Try.underlying37 rfl infoIn16 ?_)
          go_ret
          exact ⟨rfl, bb.alloc bb.size _⟩
      · obtain rfl : i = len1 := by omega
        have tok951 : True := True.intro
        go_wp2_with (first | (refine at_op (.load 30 (.tmp 7)) (by with_reducible rfl) ?_; clear tok951; refine wpList_load_row rfl 30 (.tmp 7) rfl (p1) rfl _ _ _ _ x1 Try.underlying30 rfl infoRv ?_))
        refine (CW.out n g cap look L _ HL h7 HU H0).mono ?_
        rintro e wa952 ⟨tz, bz, rfl, hbz, bwa952⟩
        replace x1 := x1.below bwa952 x1.lt
        replace H0 := H0.keep bwa952
        replace Q0 := Q0.keep bwa952
        replace bb := bb.trans (bwa952.mono bb.size)
        clear bwa952
        go_wp2_with fail
        refine (CF.out n gq oq cq look L _ HL h7 Q0).mono ?_
        rintro e wa953 ⟨rz, rfl, hrz, bwa953⟩
        replace x1 := x1.below bwa953 x1.lt
        replace H0 := H0.keep bwa953
        replace Q0 := Q0.keep bwa953
        replace bb := bb.trans (bwa953.mono bb.size)
        clear bwa953
        rcases hbz.out with ⟨rfl, jz, qz, hz1, hz2⟩ | ⟨rfl, rfl, hz⟩
        · obtain ⟨kz, rfl⟩ : ∃ kz : Nat, rz = (kz : Int) := by
            rcases hrz.out with ⟨_, h⟩ | ⟨kz, _, h, _⟩
            · exact absurd hz2 (h jz qz hz1)
            · exact ⟨kz, h⟩
          clear hz1 hz2 hrz hbz
          have e1 : (0 : Int) ≤ (kz : Int) := by omega
          go_wp2
          go_ret
          exact ⟨rfl, bb⟩
        · obtain rfl : rz = -1 := by
            rcases hrz.out with ⟨h, _⟩ | ⟨kz, qz, _, h1, h2⟩
            · exact h
            · exact absurd h2 (hz kz qz h1)
          clear hz hrz hbz
          go_wp2
          go_ret
          exact ⟨rfl, bb⟩
  · by_cases hc : 60 < len1
    · have g1 : (60 : Int) < (len1 : Int) := by omega
      clear hb
      have bb : Below w.heap.size w w := Below.refl _ _
      go_enter Try.func3, Try.ntmps3
      go_wp2_with fail
      refine (CL.out _).mono ?_
      rintro e wa2 ⟨rfl, bwa2⟩
      replace bb := bb.trans (bwa2.mono bb.size)
      clear bwa2
      go_wp2
      go_ret
      exact ⟨rfl, bb⟩
    · have g1 : ¬ (60 : Int) < (len1 : Int) := by omega
      have g2 : (60 : Int) < (a0.size : Int) := by omega
      clear hb
      have bb : Below w.heap.size w w := Below.refl _ _
      go_enter Try.func3, Try.ntmps3
      go_wp2_with fail
      refine (CL.out _).mono ?_
      rintro e wa2 ⟨rfl, bwa2⟩
      replace bb := bb.trans (bwa2.mono bb.size)
      clear bwa2
      go_wp2
      go_ret
      exact ⟨rfl, bb⟩

end Go.Proofs.Ytjfhinhakanhaaa.ReceiverTakesW
