/-
  Layer 15: SenderEnds, the walk: whatever was lost: set no more, with each instruction that comes answered, it is quiet within so many waits as it has states; numbers rise by one.
-/
import Derived.Test.YtglfbmgnndebiaaVLaw
import Derived.Test.YtglfbmgnndebiaaISend
import Derived.OpenShut
namespace Go.Proofs.Ytglfbmgnndebiaa.SenderEndsW
open Go.RowKit
set_option linter.unusedVariables false
set_option linter.unusedSimpArgs false
set_option maxRecDepth 20000

theorem infoAct : (Try.prog.info? 50).map (·.size) = some 6 := by kernel_rfl
open S15
theorem acked_top {m N T : Nat} {s : Sn} (h : Ok m N T s) : (s.acked s.top.num).L = [s.top] := by
  have hp := h.pos
  have ht := top_get hp
  unfold Sn.acked
  rw [ackL_some ht rfl (fun j q hj hq => by rw [h.rise _ _ ht, h.rise j q hq]; omega)]
  show s.L.drop (s.L.length - 1) = _
  obtain ⟨hl, hv⟩ := List.getElem?_eq_some_iff.1 ht
  rw [List.drop_eq_getElem_cons hl, hv, List.drop_of_length_le (by omega)]
theorem late_goes {m N T tk : Nat} {s : Sn} (h : Ok m N T s) (hl : s.last ≤ tk) : s.goes (tk + 1000) 1000 1000 = true := by
  unfold Sn.goes
  have : s.again 1000 1000 ≤ tk + 1000 := by
    unfold Sn.again
    have : addS s.last 1000 ≤ tk + 1000 := by unfold addS; split <;> omega
    split <;> omega
  rw [decide_eq_true this, Bool.or_true]
/-- A round: what goes is answered. -/
def rnd (s : Sn) (tk : Nat) : Sn := (s.next (tk + 1000) 1000 1000).acked (s.next (tk + 1000) 1000 1000).top.num
theorem rnd_one {m N T tk : Nat} {s : Sn} (h : Ok m N T s) (hl : s.last ≤ tk) (hT : T ≤ tk + 1000) : (rnd s tk).L.length = 1 := by
  have hn := (h.mono (Nat.le_refl _) (Nat.le_refl _) hT).next 1000 1000 (Nat.le_refl (tk + 1000))
  unfold rnd
  rw [acked_top hn]; rfl
theorem next_now (s : Sn) (a b c : Nat) : (s.next a b c).now = s.now := by
  unfold Sn.next
  split
  · rfl
  · split <;> rfl
theorem rnd_quiet {m N T tk : Nat} {s : Sn} (h : Ok m N T s) (hl : s.last ≤ tk) (hT : T ≤ tk + 1000) (h1 : s.L.length = 1) : (rnd s tk).quiet = true := by
  have hn := (h.mono (Nat.le_refl _) (Nat.le_refl _) hT).next 1000 1000 (Nat.le_refl (tk + 1000))
  have hg := late_goes h hl
  have hL : (rnd s tk).L = [(s.next (tk + 1000) 1000 1000).top] := acked_top hn
  have ht : (rnd s tk).top = (s.next (tk + 1000) 1000 1000).top := top_of (l := []) hL
  have hw : (rnd s tk).now = s.now := next_now s _ _ _
  have hx : (s.next (tk + 1000) 1000 1000).top.tx = s.now := by
    cases hnew : s.hasNew with
    | true =>
      have : s.next (tk + 1000) 1000 1000 = s.grown (tk + 1000) := by unfold Sn.next; rw [if_pos hnew]
      rw [this, top_of (s := s.grown (tk + 1000)) (l := s.L) rfl]
    | false =>
      unfold Sn.goes at hg
      rw [hnew, Bool.false_or] at hg
      have : s.next (tk + 1000) 1000 1000 = s.resent (tk + 1000) := by unfold Sn.next; rw [hnew, if_neg (by decide), if_pos (of_decide_eq_true hg)]
      have h8 : (s.resent (tk + 1000)).top = ⟨s.top.num, tk + 1000, s.top.tx⟩ := top_at (n := 0) (by simp [Sn.resent, h1]) (by unfold Sn.resent; rw [h1]; simp [h1])
      rw [this, h8]
      unfold Sn.hasNew Sn.unsent at hnew
      rw [h1] at hnew
      simp at hnew
      exact hnew.symm
  unfold Sn.quiet Sn.unsent
  rw [hL, ht, hw, hx]
  simp

set_option maxHeartbeats 8000000 in
theorem walk (a0 : ByteArray) (a1 : Option Addr) (len1 cap1 : Nat) (w : World) (w0 : a0.size ≤ maxLen) (w1 : InActs6 w a1 len1 cap1) :
    Calls Try.prog 5 #[.string a0, .slice a1 len1 cap1] w fun e w' => e = .returned (.bool true) ∧ Below w.heap.size w w' := by
  have hcap1 := w1.2.1
  have hlc1 := w1.1
  have HI := Lib.hid w1.2.2
  have CL := Lib.hid awake15_any
  unfold maxLen at w0 hcap1
  clear w1
  by_cases hb : len1 ≤ 30 ∧ a0.size ≤ 100
  · obtain ⟨hb1, hb2⟩ := hb
    have g1 : ¬ (30 : Int) < (len1 : Int) := by omega
    have g2 : ¬ (100 : Int) < (a0.size : Int) := by omega
    have CR := Lib.hid rule_any
    have O0 : Ok 100 0 0 (new a0) := Ok.new hb2
    have CW := Lib.hid (new_sn a0)
    have CX : Hid (∀ (s : Sn) (g cap tk wt bt N T : Nat) (wx : World), Ok 100 N T s → N ≤ 1000 → T ≤ 100000 → wt ≤ 1000 → bt ≤ 1000 → Held wx s g cap → Calls Try.prog 22 #[.agg (s.c g cap).toArray, .int .u64 (tk : Int), .int .u64 (wt : Int), .int .u64 (bt : Int), .int .u64 0] wx fun e w' => ∃ g' cap' o n a x b, e = .returned (.tuple #[.agg ((s.next tk wt bt).c g' cap').toArray, .agg #[.int .u64 ((o : Nat) : Int), .int .u64 ((n : Nat) : Int), .int .u64 ((a : Nat) : Int), .int .u64 (o : Int), .string x], .bool b]) ∧ Held w' (s.next tk wt bt) g' cap' ∧ Below wx.heap.size wx w') := fun s g cap tk wt bt N T wx hO h1 h2 h3 h4 hx => by
      refine (next_sn s g cap tk wt bt 0 wx hO (by decide) (by omega) (by omega) (by omega) (by omega) hx).mono ?_
      rintro e w' ⟨g', cap', rfl, hh, hbb⟩
      exact ⟨g', cap', _, _, _, _, _, rfl, hh, hbb⟩
    have CE : Hid (∀ (s : Sn) (g cap tk N T : Nat) (wx : World), Ok 100 N T s → N ≤ 1000 → T ≤ 100000 → s.last ≤ tk → Held wx s g cap → Calls Try.prog 22 #[.agg (s.c g cap).toArray, .int .u64 ((tk + 1000 : Nat) : Int), .int .u64 1000, .int .u64 1000, .int .u64 0] wx fun e w' => ∃ g' cap' o a x, e = .returned (.tuple #[.agg ((s.next (tk + 1000) 1000 1000).c g' cap').toArray, .agg #[.int .u64 ((o : Nat) : Int), .int .u64 ((s.next (tk + 1000) 1000 1000).top.num : Int), .int .u64 ((a : Nat) : Int), .int .u64 (o : Int), .string x], .bool true]) ∧ Held w' (s.next (tk + 1000) 1000 1000) g' cap' ∧ Below wx.heap.size wx w') := fun s g cap tk N T wx hO h1 h2 h3 hx => by
      have hg := late_goes hO h3
      have := next_sn s g cap (tk + 1000) 1000 1000 0 wx hO (by decide) (by omega) (by omega) (by decide) (by decide) hx
      rw [hg, show s.iN (tk + 1000) 1000 1000 = (s.next (tk + 1000) 1000 1000).top.num by unfold Sn.iN; rw [if_pos hg]] at this
      refine this.mono ?_
      rintro e w' ⟨g', cap', rfl, hh, hbb⟩
      exact ⟨g', cap', _, _, _, rfl, hh, hbb⟩
    have bb : Below w.heap.size w w := Below.refl _ _
    go_enter Try.func5, Try.ntmps5
    go_wp2_with fail
    refine (CL.out _).mono ?_
    rintro e wa2 ⟨rfl, bwa2⟩
    replace bb := bb.trans (bwa2.mono bb.size)
    clear bwa2
    go_wp2_with fail
    refine (CR.out _).mono ?_
    rintro e wa3 ⟨rfl, bwa3⟩
    replace bb := bb.trans (bwa3.mono bb.size)
    clear bwa3
    go_wp2_with fail
    refine (CW.out _).mono ?_
    rintro e wa4 ⟨g0, cap0, rfl, H0, bwa4⟩
    replace bb := bb.trans (bwa4.mono bb.size)
    clear bwa4
    have x1 : Row (wa4.alloc (.cells #[.nilFunc, .nilFunc, .string ⟨#[]⟩, .slice none 0 0, .int .u64 0] 42 (0, 0))) wa4.heap.size 42 ([.nilFunc, .nilFunc, .string ⟨#[]⟩, .slice none 0 0, .int .u64 0]) := Row.new' rfl rfl
    have lH0x1 : g0 < wa4.heap.size := H0.lt
    have lzx1 := bb.size
    replace H0 := (H0).alloc (.cells #[.nilFunc, .nilFunc, .string ⟨#[]⟩, .slice none 0 0, .int .u64 0] 42 (0, 0))
    replace bb := (bb).alloc bb.size (.cells #[.nilFunc, .nilFunc, .string ⟨#[]⟩, .slice none 0 0, .int .u64 0] 42 (0, 0))
    have tok5 : True := True.intro
    go_wp2_with (first | (refine at_op (.store 42 (.tmp 5) (.tmp 26)) (by with_reducible rfl) ?_; clear tok5; refine wpList_store_row rfl 42 (.tmp 5) (.tmp 26) rfl (wa4.heap.size) _ rfl rfl _ _ x1 infoSn rfl (by first | (simp [Value.oneCell']; done) | exact S15.Sn.c_all _ _ _) ?_))
    obtain ⟨p1, hp1⟩ : ∃ p1, p1 = wa4.heap.size := ⟨_, rfl⟩
    rw [← hp1] at x1 lH0x1 lzx1 ⊢
    generalize wa4.alloc (.cells #[.nilFunc, .nilFunc, .string ⟨#[]⟩, .slice none 0 0, .int .u64 0] 42 (0, 0)) = wa6 at *
    clear hp1
    replace H0 := H0.setRow (k := (p1)) (by omega) (List.toArray ((new a0).c g0 cap0))
    replace x1 := x1.setRow ((new a0).c g0 cap0)
    replace bb := below_row bb (show _ ≤ p1 by omega) (List.toArray ((new a0).c g0 cap0))
    generalize wa6.setRow p1 (List.toArray ((new a0).c g0 cap0)) = wa7 at *
    clear CR CW CL
    go_wp2
    go_loopw [29, 6] (fun iv tv wr => ∃ (i tk g cap : Nat) (s : Sn), i ≤ len1 ∧ iv = .int .i64 (i : Int) ∧ tv = .int .u64 (tk : Int) ∧ tk ≤ 1000 * i ∧ Hid (Ok 100 i tk s) ∧ Row wr p1 42 (s.c g cap) ∧ Held wr s g cap ∧ Below w.heap.size w wr) (fun iv _ _ => len1 - (intOf iv).toNat)
    case atStart => exact ⟨0, 0, g0, cap0, new a0, Nat.zero_le _, rfl, rfl, by omega, O0, x1, H0, bb⟩
    case round =>
      clear x1 H0 bb O0
      obtain ⟨i, tk, g, cap, s, hi, rfl, rfl, htk, HO, x1, H0, bb⟩ := hrel
      by_cases hlt : i < len1
      · have hs : (i : Int) < (len1 : Int) := by omega
        obtain ⟨b, off, rfl, hbl, hin⟩ := HI.out (by omega)
        obtain ⟨d, nn, la, wa, be, tx, ⟨hd, hnn, hla, hwa, hbe, htx⟩, hr0⟩ := hin i hlt
        have hr : wr.rangeAt b (off + i * 6) [.int .u8 (d : Int), .string tx, .int .u64 (nn : Int), .int .u64 (la : Int), .int .u64 (wa : Int), .int .u64 (be : Int)] := rangeBelow hr0 bb hbl
        clear hin hr0
        unfold maxLen at htx
        obtain ⟨r1, hr1⟩ : ∃ r, r = la % 1000 := ⟨_, rfl⟩
        obtain ⟨r2, hr2⟩ : ∃ r, r = wa % 1000 := ⟨_, rfl⟩
        obtain ⟨r3, hr3⟩ : ∃ r, r = be % 1000 := ⟨_, rfl⟩
        obtain ⟨m2, hm2⟩ : ∃ r, r = d % 2 := ⟨_, rfl⟩
        obtain ⟨m5, hm5⟩ : ∃ r, r = d % 5 := ⟨_, rfl⟩
        obtain ⟨tk2, htk2⟩ : ∃ r, r = tk + r1 := ⟨_, rfl⟩
        have t1 : ((la : Int).tmod 1000) = (r1 : Int) := by rw [hr1]; rfl
        have q1 : ((la : Int) % 1000) = (r1 : Int) := by rw [hr1]; rfl
        have t2 : ((wa : Int).tmod 1000) = (r2 : Int) := by rw [hr2]; rfl
        have q2 : ((wa : Int) % 1000) = (r2 : Int) := by rw [hr2]; rfl
        have t3 : ((be : Int).tmod 1000) = (r3 : Int) := by rw [hr3]; rfl
        have q3 : ((be : Int) % 1000) = (r3 : Int) := by rw [hr3]; rfl
        have t4 : ((d : Int).tmod 2) = (m2 : Int) := by rw [hm2]; rfl
        have q4 : ((d : Int) % 2) = (m2 : Int) := by rw [hm2]; rfl
        have t5 : ((d : Int).tmod 5) = (m5 : Int) := by rw [hm5]; rfl
        have q5 : ((d : Int) % 5) = (m5 : Int) := by rw [hm5]; rfl
        have b1 : r1 < 1000 := by omega
        have b2 : r2 < 1000 := by omega
        have b3 : r3 < 1000 := by omega
        have y1 : (tk : Int) + (r1 : Int) = (tk2 : Int) := by omega
        have y2 : IntKind.u64.wrap (tk2 : Int) = (tk2 : Int) := by rw [IntKind.wrap_u64]; omega
        have y3 : IntKind.u64.wrap ((tk : Int) + (r1 : Int)) = (tk2 : Int) := by rw [IntKind.wrap_u64]; omega
        have hu1 : tk2 ≤ 1000 * (i + 1) := by omega
        have HT : Hid (tk ≤ tk2) := by show tk ≤ tk2; omega
        clear hr1 hr2 hr3 htk2 htk hm2 hm5
        by_cases h1 : tx.size ≤ 100
        · have e1 : ¬ (100 : Int) < (tx.size : Int) := by omega
          by_cases h2 : m2 = 0
          · have e2 : ((m2 : Int) == 0) = true := by rw [beq_iff_eq]; omega
            clear h2
            have x8 : Row (wr.alloc (.cells #[.int .u8 (d : Int), .string tx, .int .u64 (nn : Int), .int .u64 (la : Int), .int .u64 (wa : Int), .int .u64 (be : Int)] 50 (0, 0))) wr.heap.size 50 ([.int .u8 (d : Int), .string tx, .int .u64 (nn : Int), .int .u64 (la : Int), .int .u64 (wa : Int), .int .u64 (be : Int)]) := Row.new' rfl rfl
            have lx1x8 : p1 < wr.heap.size := x1.lt
            have lzx8 := bb.size
            replace x1 := x1.alloc (.cells #[.int .u8 (d : Int), .string tx, .int .u64 (nn : Int), .int .u64 (la : Int), .int .u64 (wa : Int), .int .u64 (be : Int)] 50 (0, 0))
            replace H0 := H0.alloc (.cells #[.int .u8 (d : Int), .string tx, .int .u64 (nn : Int), .int .u64 (la : Int), .int .u64 (wa : Int), .int .u64 (be : Int)] 50 (0, 0))
            replace bb := bb.alloc bb.size (.cells #[.int .u8 (d : Int), .string tx, .int .u64 (nn : Int), .int .u64 (la : Int), .int .u64 (wa : Int), .int .u64 (be : Int)] 50 (0, 0))
            have tok101 : True := True.intro
            have tok102 : True := True.intro
            go_wp2_with (first | (refine at_op (.load 50 (.tmp 31)) (by with_reducible rfl) ?_; clear tok101; refine wpList_load_mid rfl 50 (.tmp 31) rfl b (off + i * 6) rfl _ _ hr Try.underlying50 rfl infoAct ?_) | (refine at_op (.load 42 (.tmp 5)) (by with_reducible rfl) ?_; clear tok102; refine wpList_load_row rfl 42 (.tmp 5) rfl (p1) rfl _ _ _ _ x1 Try.underlying42 rfl infoSn ?_))
            obtain ⟨p8, hp8⟩ : ∃ p8, p8 = wr.heap.size := ⟨_, rfl⟩
            rw [← hp8] at x8 lx1x8 lzx8 ⊢
            generalize wr.alloc (.cells #[.int .u8 (d : Int), .string tx, .int .u64 (nn : Int), .int .u64 (la : Int), .int .u64 (wa : Int), .int .u64 (be : Int)] 50 (0, 0)) = wa103 at *
            clear hp8
            obtain ⟨s1, hs1⟩ : ∃ x, x = s.set tx := ⟨_, rfl⟩
            have HOs : Hid (Ok 100 i tk2 s1) := by show Ok 100 i tk2 s1; rw [hs1]; exact (HO.out.mono (Nat.le_refl _) (Nat.le_refl _) HT.out).set (by omega)
            have CS1 := set_sn s tx g cap wa103 H0 HO.out.pos
            rw [← hs1] at CS1
            clear hs1
            refine (CS1).mono ?_
            rintro e wa104 ⟨rfl, Hs, bwa104⟩
            replace x1 := x1.below bwa104 x1.lt
            replace H0 := H0.keep bwa104
            replace x8 := x8.below bwa104 x8.lt
            replace bb := bb.trans (bwa104.mono bb.size)
            clear bwa104
            clear CS1
            clear H0
            have hnes := held_ne Hs HOs.out.pos x1
            have x8c := x8.setRow_other (k := p1) (by omega) (List.toArray (s1.c g cap))
            have c84 : (wa104.setRow p1 (List.toArray (s1.c g cap))).cell? ⟨p8, 4, none⟩ = some (.int .u64 (wa : Int)) := x8c.cell 4
            have c85 : (wa104.setRow p1 (List.toArray (s1.c g cap))).cell? ⟨p8, 5, none⟩ = some (.int .u64 (be : Int)) := x8c.cell 5
            clear x8c
            have tok105 : True := True.intro
            have tok106 : True := True.intro
            go_wp2_with (first | (refine at_op (.store 42 (.tmp 5) (.tmp 49)) (by with_reducible rfl) ?_; clear tok105; refine wpList_store_row rfl 42 (.tmp 5) (.tmp 49) rfl (p1) _ rfl rfl _ _ x1 infoSn rfl (by first | (simp [Value.oneCell']; done) | exact S15.Sn.c_all _ _ _) ?_) | (refine at_op (.load 42 (.tmp 5)) (by with_reducible rfl) ?_; clear tok106; refine wpList_load_row rfl 42 (.tmp 5) rfl (p1) rfl _ _ _ _ (x1.setRow (s1.c g cap)) Try.underlying42 rfl infoSn ?_))
            clear c84 c85
            replace x1 := x1.setRow (s1.c g cap)
            replace x8 := x8.setRow_other (k := p1) (by omega) (List.toArray (s1.c g cap))
            replace Hs := Hs.setRow (k := (p1)) (by omega) (List.toArray (s1.c g cap))
            replace bb := below_row bb (show _ ≤ p1 by omega) (List.toArray (s1.c g cap))
            generalize wa104.setRow p1 (List.toArray (s1.c g cap)) = wa107 at *
            obtain ⟨s2, hs2⟩ : ∃ x, x = s1.next tk2 r2 r3 := ⟨_, rfl⟩
            have HO2 : Hid (Ok 100 (i + 1) tk2 s2) := by show Ok 100 (i + 1) tk2 s2; rw [hs2]; exact HOs.out.next r2 r3 (Nat.le_refl _)
            have CX1 := CX.out s1 g cap tk2 r2 r3 i tk2 _ HOs.out (by omega) (by omega) (by omega) (by omega) Hs
            rw [← hs2] at CX1
            clear hs2
            refine (CX1).mono ?_
            rintro e wa108 ⟨g2, cap2, o2, n2, a2, xx, b2', rfl, H2, bwa108⟩
            replace x1 := x1.below bwa108 x1.lt
            replace x8 := x8.below bwa108 x8.lt
            replace Hs := Hs.keep bwa108
            replace bb := bb.trans (bwa108.mono bb.size)
            clear bwa108
            clear CX1
            clear Hs
            have hne := held_ne H2 HO2.out.pos x1
            have tok109 : True := True.intro
            have tok110 : True := True.intro
            go_wp2_with (first | (refine at_op (.store 42 (.tmp 5) (.tmp 60)) (by with_reducible rfl) ?_; clear tok109; refine wpList_store_row rfl 42 (.tmp 5) (.tmp 60) rfl (p1) _ rfl rfl _ _ x1 infoSn rfl (by first | (simp [Value.oneCell']; done) | exact S15.Sn.c_all _ _ _) ?_) | (refine at_op (.load 42 (.tmp 5)) (by with_reducible rfl) ?_; clear tok110; refine wpList_load_row rfl 42 (.tmp 5) rfl (p1) rfl _ _ _ _ (x1.setRow (s2.c g2 cap2)) Try.underlying42 rfl infoSn ?_))
            replace x1 := x1.setRow (s2.c g2 cap2)
            replace x8 := x8.setRow_other (k := p1) (by omega) (List.toArray (s2.c g2 cap2))
            replace H2 := H2.setRow (k := (p1)) (by omega) (List.toArray (s2.c g2 cap2))
            replace bb := below_row bb (show _ ≤ p1 by omega) (List.toArray (s2.c g2 cap2))
            generalize wa108.setRow p1 (List.toArray (s2.c g2 cap2)) = wa111 at *
            obtain ⟨m, hm⟩ : ∃ m, m = s2.L.length := ⟨_, rfl⟩
            have hm8 := HO2.out.few
            have hm1 := HO2.out.pos
            rw [← hm] at hm8 hm1
            have CN1 := nums_sn s2 g2 cap2 wa111 HO2.out H2
            rw [← hm] at CN1
            refine (CN1).mono ?_
            rintro e wa112 ⟨gn, rfl, hnn, bwa112⟩
            replace x1 := x1.below bwa112 x1.lt
            replace x8 := x8.below bwa112 x8.lt
            replace H2 := H2.keep bwa112
            replace bb := bb.trans (bwa112.mono bb.size)
            clear bwa112
            clear CN1
            obtain ⟨Bn, hBn⟩ : ∃ B, B = wa111.heap.size := ⟨_, rfl⟩
            rw [← hBn] at hnn
            clear hBn
            have HN : Hid (∀ k, k < m → ∃ p : St, s2.L[k]? = some p ∧ p.num = s2.base.num + k) := fun k hk => ⟨s2.L[k]'(by omega), List.getElem?_eq_getElem (by omega), HO2.out.rise k _ (List.getElem?_eq_getElem (by omega))⟩
            have HN0 : Hid (s2.L[0]? = some s2.base) := base_get HO2.out.pos
            have hbn : s2.base.num ≤ 31 := Nat.le_trans (HO2.out.num _ HO2.out.baseMem) (by omega)
            clear hm
            go_wp2
            go_loopw [67] (fun kv wq => ∃ k : Nat, k ≤ m ∧ kv = .int .i64 (k : Int) ∧ Row wq p1 42 (s2.c g2 cap2) ∧ Row wq p8 50 [.int .u8 (d : Int), .string tx, .int .u64 (nn : Int), .int .u64 (la : Int), .int .u64 (wa : Int), .int .u64 (be : Int)] ∧ Held wq s2 g2 cap2 ∧ wq.ownsRow Bn 22 1 (.slice (some ⟨gn, 0, none⟩) m m) m (nums s2.L) ∧ Below w.heap.size w wq) (fun kv _ => m - (intOf kv).toNat)
            case atStart => exact ⟨0, Nat.zero_le _, rfl, x1, x8, H2, hnn, bb⟩
            case round =>
              clear x1 x8 H2 hnn bb
              obtain ⟨k, hk, rfl, x1, x8, H2, hnn, bb⟩ := hrel
              by_cases hlk : k < m
              · have hsk : (k : Int) < (m : Int) := by omega
                have hs0 : (0 : Int) < (m : Int) := by omega
                obtain ⟨p, hp1, hp2⟩ := HN.out k hlk
                obtain ⟨pn, hpn⟩ : ∃ x, x = p.num := ⟨_, rfl⟩
                obtain ⟨qn, hqn⟩ : ∃ x, x = s2.base.num := ⟨_, rfl⟩
                have z1 : IntKind.u64.wrap ((qn : Int) + (k : Int)) = (pn : Int) := by rw [IntKind.wrap_u64]; omega
                have z3 : (qn : Int) + (k : Int) = (pn : Int) := by omega
                have z4 : IntKind.u64.wrap (pn : Int) = (pn : Int) := by rw [IntKind.wrap_u64]; omega
                have hm0 : ¬ m = 0 := by omega
                have z2 : IntKind.u64.wrap (k : Int) = (k : Int) := by rw [IntKind.wrap_u64]; omega
                have HP : Hid ((nums s2.L)[k]? = some (.int .u64 (pn : Int))) := by show _ = _; rw [hpn]; exact nums_at hp1
                have HP0 : Hid ((nums s2.L)[0]? = some (.int .u64 (qn : Int))) := by show _ = _; rw [hqn]; exact nums_at HN0.out
                clear hp1 hp2 hpn hqn
                go_wp2
                refine wp_region_held_drew (S := fun w' => Row w' p1 42 (s2.c g2 cap2) ∧ Row w' p8 50 [.int .u8 (d : Int), .string tx, .int .u64 (nn : Int), .int .u64 (la : Int), .int .u64 (wa : Int), .int .u64 (be : Int)] ∧ S15.Held w' s2 g2 cap2 ∧ w'.ownsRow Bn 22 1 (.slice (some ⟨gn, 0, none⟩) m m) m (nums s2.L) ∧ Below w.heap.size w w') (by kernel_rfl) (⟨x1.drew, x8.drew, H2.drew, hnn.drew, bb.drew⟩) (fun hHeld => ?_)
                refine take_d 0 (some 70) (.slice (some ⟨gn, 0, none⟩) m m) rfl (by kernel_rfl) (by kernel_rfl) (by kernel_rfl) (fun _ _ _ h => h) (fun oi h => by cases h; exact Or.inl ⟨by rfl, fun w' hS' => by go_simp⟩) hHeld ?_
                try simp only [Act.put, List.setIfInBounds_toArray, List.set_cons_zero, List.set_cons_succ]
                refine take_d 1 (some 71) (.int .i64 (k : Int)) rfl (by kernel_rfl) (by kernel_rfl) (by kernel_rfl) (fun _ _ _ h => h) (fun oi h => by cases h; exact Or.inl ⟨by rfl, fun w' hS' => by go_simp⟩) hHeld ?_
                try simp only [Act.put, List.setIfInBounds_toArray, List.set_cons_zero, List.set_cons_succ]
                refine take_d 2 (some 72) (.pointer (some ⟨gn, k, none⟩)) rfl (by kernel_rfl) (by kernel_rfl) (by kernel_rfl) (fun _ _ _ h => h) (fun oi h => by cases h; exact Or.inl ⟨by rfl, fun w' hS' => by go_simp⟩) hHeld ?_
                try simp only [Act.put, List.setIfInBounds_toArray, List.set_cons_zero, List.set_cons_succ]
                refine take_d 3 (some 73) (.int .u64 (pn : Int)) rfl (by kernel_rfl) (by kernel_rfl) (by kernel_rfl) (fun _ _ _ h => h) (fun oi h => by cases h; exact Or.inl ⟨by rfl, fun w' hS' => by have c := ((hS'.2.2.2.1).cellAt k (by omega)).trans HP.out; go_simp⟩) hHeld ?_
                try simp only [Act.put, List.setIfInBounds_toArray, List.set_cons_zero, List.set_cons_succ]
                refine take_d 4 (some 74) (.slice (some ⟨gn, 0, none⟩) m m) rfl (by kernel_rfl) (by kernel_rfl) (by kernel_rfl) (fun _ _ _ h => h) (fun oi h => by cases h; exact Or.inl ⟨by rfl, fun w' hS' => by go_simp⟩) hHeld ?_
                try simp only [Act.put, List.setIfInBounds_toArray, List.set_cons_zero, List.set_cons_succ]
                refine take_d 5 (some 75) (.pointer (some ⟨gn, 0, none⟩)) rfl (by kernel_rfl) (by kernel_rfl) (by kernel_rfl) (fun _ _ _ h => h) (fun oi h => by cases h; exact Or.inl ⟨by rfl, fun w' hS' => by go_simp⟩) hHeld ?_
                try simp only [Act.put, List.setIfInBounds_toArray, List.set_cons_zero, List.set_cons_succ]
                refine take_d 6 (some 76) (.int .u64 (qn : Int)) rfl (by kernel_rfl) (by kernel_rfl) (by kernel_rfl) (fun _ _ _ h => h) (fun oi h => by cases h; exact Or.inl ⟨by rfl, fun w' hS' => by have c := ((hS'.2.2.2.1).cellAt 0 (by omega)).trans HP0.out; go_simp⟩) hHeld ?_
                try simp only [Act.put, List.setIfInBounds_toArray, List.set_cons_zero, List.set_cons_succ]
                refine take_d 7 (some 77) (.int .i64 (k : Int)) rfl (by kernel_rfl) (by kernel_rfl) (by kernel_rfl) (fun _ _ _ h => h) (fun oi h => by cases h; exact Or.inl ⟨by rfl, fun w' hS' => by go_simp⟩) hHeld ?_
                try simp only [Act.put, List.setIfInBounds_toArray, List.set_cons_zero, List.set_cons_succ]
                refine take_d 8 (some 78) (.int .u64 (k : Int)) rfl (by kernel_rfl) (by kernel_rfl) (by kernel_rfl) (fun _ _ _ h => h) (fun oi h => by cases h; exact Or.inl ⟨by rfl, fun w' hS' => by go_simp⟩) hHeld ?_
                try simp only [Act.put, List.setIfInBounds_toArray, List.set_cons_zero, List.set_cons_succ]
                refine take_d 9 (some 79) (.int .u64 (pn : Int)) rfl (by kernel_rfl) (by kernel_rfl) (by kernel_rfl) (fun _ _ _ h => h) (fun oi h => by cases h; exact Or.inl ⟨by rfl, fun w' hS' => by go_simp⟩) hHeld ?_
                try simp only [Act.put, List.setIfInBounds_toArray, List.set_cons_zero, List.set_cons_succ]
                refine take_d 10 (some 80) (.bool false) rfl (by kernel_rfl) (by kernel_rfl) (by kernel_rfl) (fun _ _ _ h => h) (fun oi h => by cases h; exact Or.inl ⟨by rfl, fun w' hS' => by go_simp⟩) hHeld ?_
                try simp only [Act.put, List.setIfInBounds_toArray, List.set_cons_zero, List.set_cons_succ]
                refine wpAnyH_done (by kernel_rfl) ?_ _
                try simp only [Act.put]
                go_wp2
                go_roundw
                case rel => exact ⟨k + 1, by omega, by go_num, hHeld.1, hHeld.2.1, hHeld.2.2.1, hHeld.2.2.2.1, hHeld.2.2.2.2⟩
                case measure => simp [intOf]; omega
              · obtain rfl : k = m := by omega
                clear hnn HN HN0
                by_cases h5 : m5 = 0
                · have e5 : ((m5 : Int) == 0) = true := by rw [beq_iff_eq]; omega
                  clear h5
                  have cx80 : wr.cell? ⟨p8, 0, none⟩ = some (.int .u8 (d : Int)) := x8.cell 0
                  have cx82 : wr.cell? ⟨p8, 2, none⟩ = some (.int .u64 (nn : Int)) := x8.cell 2
                  have tok401 : True := True.intro
                  go_wp2_with (first | (refine at_op (.load 42 (.tmp 5)) (by with_reducible rfl) ?_; clear tok401; refine wpList_load_row rfl 42 (.tmp 5) rfl (p1) rfl _ _ _ _ x1 Try.underlying42 rfl infoSn ?_))
                  clear cx80 cx82
                  obtain ⟨s3, hs3⟩ : ∃ x, x = s2.acked nn := ⟨_, rfl⟩
                  have HO3 : Hid (Ok 100 (i + 1) tk2 s3) := by show Ok 100 (i + 1) tk2 s3; rw [hs3]; exact HO2.out.acked nn
                  have CK1 := acked_sn s2 g2 cap2 nn wr HO2.out H2
                  rw [← hs3] at CK1
                  clear hs3
                  refine (CK1).mono ?_
                  rintro e wa402 ⟨g3, cap3, rfl, H3, bwa402⟩
                  replace x1 := x1.below bwa402 x1.lt
                  replace x8 := x8.below bwa402 x8.lt
                  replace H2 := H2.keep bwa402
                  replace bb := bb.trans (bwa402.mono bb.size)
                  clear bwa402
                  clear CK1
                  have hne3 := held_ne H3 HO3.out.pos x1
                  have hne2 := held_ne H2 HO2.out.pos x1
                  have tok403 : True := True.intro
                  go_wp2_with (first | (refine at_op (.store 42 (.tmp 5) (.tmp 89)) (by with_reducible rfl) ?_; clear tok403; refine wpList_store_row rfl 42 (.tmp 5) (.tmp 89) rfl (p1) _ rfl rfl _ _ x1 infoSn rfl (by first | (simp [Value.oneCell']; done) | exact S15.Sn.c_all _ _ _) ?_))
                  replace x1 := x1.setRow (s3.c g3 cap3)
                  replace x8 := x8.setRow_other (k := p1) (by omega) (List.toArray (s3.c g3 cap3))
                  replace H2 := H2.setRow (k := (p1)) (by omega) (List.toArray (s3.c g3 cap3))
                  replace H3 := H3.setRow (k := (p1)) (by omega) (List.toArray (s3.c g3 cap3))
                  replace bb := below_row bb (show _ ≤ p1 by omega) (List.toArray (s3.c g3 cap3))
                  generalize wa402.setRow p1 (List.toArray (s3.c g3 cap3)) = wa404 at *
                  go_wp2
                  go_roundw
                  case rel => exact ⟨i + 1, tk2, g3, cap3, s3, by omega, by go_num, rfl, hu1, HO3, x1, H3, bb⟩
                  case measure => simp [intOf]; omega
                · have e5 : ((m5 : Int) == 0) = false := by rw [beq_eq_false_iff_ne]; omega
                  clear h5
                  have cx80 : wr.cell? ⟨p8, 0, none⟩ = some (.int .u8 (d : Int)) := x8.cell 0
                  have cx82 : wr.cell? ⟨p8, 2, none⟩ = some (.int .u64 (nn : Int)) := x8.cell 2
                  go_wp2
                  go_roundw
                  case rel => exact ⟨i + 1, tk2, g2, cap2, s2, by omega, by go_num, rfl, hu1, HO2, x1, H2, bb⟩
                  case measure => simp [intOf]; omega
          · have e2 : ((m2 : Int) == 0) = false := by rw [beq_eq_false_iff_ne]; omega
            clear h2
            have HOs : Hid (Ok 100 i tk2 s) := HO.out.mono (Nat.le_refl _) (Nat.le_refl _) HT.out
            have x8 : Row (wr.alloc (.cells #[.int .u8 (d : Int), .string tx, .int .u64 (nn : Int), .int .u64 (la : Int), .int .u64 (wa : Int), .int .u64 (be : Int)] 50 (0, 0))) wr.heap.size 50 ([.int .u8 (d : Int), .string tx, .int .u64 (nn : Int), .int .u64 (la : Int), .int .u64 (wa : Int), .int .u64 (be : Int)]) := Row.new' rfl rfl
            have lx1x8 : p1 < wr.heap.size := x1.lt
            have lzx8 := bb.size
            replace x1 := x1.alloc (.cells #[.int .u8 (d : Int), .string tx, .int .u64 (nn : Int), .int .u64 (la : Int), .int .u64 (wa : Int), .int .u64 (be : Int)] 50 (0, 0))
            replace H0 := H0.alloc (.cells #[.int .u8 (d : Int), .string tx, .int .u64 (nn : Int), .int .u64 (la : Int), .int .u64 (wa : Int), .int .u64 (be : Int)] 50 (0, 0))
            replace bb := bb.alloc bb.size (.cells #[.int .u8 (d : Int), .string tx, .int .u64 (nn : Int), .int .u64 (la : Int), .int .u64 (wa : Int), .int .u64 (be : Int)] 50 (0, 0))
            have tok101 : True := True.intro
            have tok102 : True := True.intro
            go_wp2_with (first | (refine at_op (.load 50 (.tmp 31)) (by with_reducible rfl) ?_; clear tok101; refine wpList_load_mid rfl 50 (.tmp 31) rfl b (off + i * 6) rfl _ _ hr Try.underlying50 rfl infoAct ?_) | (refine at_op (.load 42 (.tmp 5)) (by with_reducible rfl) ?_; clear tok102; refine wpList_load_row rfl 42 (.tmp 5) rfl (p1) rfl _ _ _ _ x1 Try.underlying42 rfl infoSn ?_))
            obtain ⟨p8, hp8⟩ : ∃ p8, p8 = wr.heap.size := ⟨_, rfl⟩
            rw [← hp8] at x8 lx1x8 lzx8 ⊢
            generalize wr.alloc (.cells #[.int .u8 (d : Int), .string tx, .int .u64 (nn : Int), .int .u64 (la : Int), .int .u64 (wa : Int), .int .u64 (be : Int)] 50 (0, 0)) = wa103 at *
            clear hp8
            have Hs := H0
            clear H0
            obtain ⟨s2, hs2⟩ : ∃ x, x = s.next tk2 r2 r3 := ⟨_, rfl⟩
            have HO2 : Hid (Ok 100 (i + 1) tk2 s2) := by show Ok 100 (i + 1) tk2 s2; rw [hs2]; exact HOs.out.next r2 r3 (Nat.le_refl _)
            have CX1 := CX.out s g cap tk2 r2 r3 i tk2 _ HOs.out (by omega) (by omega) (by omega) (by omega) Hs
            rw [← hs2] at CX1
            clear hs2
            refine (CX1).mono ?_
            rintro e wa104 ⟨g2, cap2, o2, n2, a2, xx, b2', rfl, H2, bwa104⟩
            replace x1 := x1.below bwa104 x1.lt
            replace x8 := x8.below bwa104 x8.lt
            replace Hs := Hs.keep bwa104
            replace bb := bb.trans (bwa104.mono bb.size)
            clear bwa104
            clear CX1
            clear Hs
            have hne := held_ne H2 HO2.out.pos x1
            have tok105 : True := True.intro
            have tok106 : True := True.intro
            go_wp2_with (first | (refine at_op (.store 42 (.tmp 5) (.tmp 60)) (by with_reducible rfl) ?_; clear tok105; refine wpList_store_row rfl 42 (.tmp 5) (.tmp 60) rfl (p1) _ rfl rfl _ _ x1 infoSn rfl (by first | (simp [Value.oneCell']; done) | exact S15.Sn.c_all _ _ _) ?_) | (refine at_op (.load 42 (.tmp 5)) (by with_reducible rfl) ?_; clear tok106; refine wpList_load_row rfl 42 (.tmp 5) rfl (p1) rfl _ _ _ _ (x1.setRow (s2.c g2 cap2)) Try.underlying42 rfl infoSn ?_))
            replace x1 := x1.setRow (s2.c g2 cap2)
            replace x8 := x8.setRow_other (k := p1) (by omega) (List.toArray (s2.c g2 cap2))
            replace H2 := H2.setRow (k := (p1)) (by omega) (List.toArray (s2.c g2 cap2))
            replace bb := below_row bb (show _ ≤ p1 by omega) (List.toArray (s2.c g2 cap2))
            generalize wa104.setRow p1 (List.toArray (s2.c g2 cap2)) = wa107 at *
            obtain ⟨m, hm⟩ : ∃ m, m = s2.L.length := ⟨_, rfl⟩
            have hm8 := HO2.out.few
            have hm1 := HO2.out.pos
            rw [← hm] at hm8 hm1
            have CN1 := nums_sn s2 g2 cap2 wa107 HO2.out H2
            rw [← hm] at CN1
            refine (CN1).mono ?_
            rintro e wa108 ⟨gn, rfl, hnn, bwa108⟩
            replace x1 := x1.below bwa108 x1.lt
            replace x8 := x8.below bwa108 x8.lt
            replace H2 := H2.keep bwa108
            replace bb := bb.trans (bwa108.mono bb.size)
            clear bwa108
            clear CN1
            obtain ⟨Bn, hBn⟩ : ∃ B, B = wa107.heap.size := ⟨_, rfl⟩
            rw [← hBn] at hnn
            clear hBn
            have HN : Hid (∀ k, k < m → ∃ p : St, s2.L[k]? = some p ∧ p.num = s2.base.num + k) := fun k hk => ⟨s2.L[k]'(by omega), List.getElem?_eq_getElem (by omega), HO2.out.rise k _ (List.getElem?_eq_getElem (by omega))⟩
            have HN0 : Hid (s2.L[0]? = some s2.base) := base_get HO2.out.pos
            have hbn : s2.base.num ≤ 31 := Nat.le_trans (HO2.out.num _ HO2.out.baseMem) (by omega)
            clear hm
            go_wp2
            go_loopw [67] (fun kv wq => ∃ k : Nat, k ≤ m ∧ kv = .int .i64 (k : Int) ∧ Row wq p1 42 (s2.c g2 cap2) ∧ Row wq p8 50 [.int .u8 (d : Int), .string tx, .int .u64 (nn : Int), .int .u64 (la : Int), .int .u64 (wa : Int), .int .u64 (be : Int)] ∧ Held wq s2 g2 cap2 ∧ wq.ownsRow Bn 22 1 (.slice (some ⟨gn, 0, none⟩) m m) m (nums s2.L) ∧ Below w.heap.size w wq) (fun kv _ => m - (intOf kv).toNat)
            case atStart => exact ⟨0, Nat.zero_le _, rfl, x1, x8, H2, hnn, bb⟩
            case round =>
              clear x1 x8 H2 hnn bb
              obtain ⟨k, hk, rfl, x1, x8, H2, hnn, bb⟩ := hrel
              by_cases hlk : k < m
              · have hsk : (k : Int) < (m : Int) := by omega
                have hs0 : (0 : Int) < (m : Int) := by omega
                obtain ⟨p, hp1, hp2⟩ := HN.out k hlk
                obtain ⟨pn, hpn⟩ : ∃ x, x = p.num := ⟨_, rfl⟩
                obtain ⟨qn, hqn⟩ : ∃ x, x = s2.base.num := ⟨_, rfl⟩
                have z1 : IntKind.u64.wrap ((qn : Int) + (k : Int)) = (pn : Int) := by rw [IntKind.wrap_u64]; omega
                have z3 : (qn : Int) + (k : Int) = (pn : Int) := by omega
                have z4 : IntKind.u64.wrap (pn : Int) = (pn : Int) := by rw [IntKind.wrap_u64]; omega
                have hm0 : ¬ m = 0 := by omega
                have z2 : IntKind.u64.wrap (k : Int) = (k : Int) := by rw [IntKind.wrap_u64]; omega
                have HP : Hid ((nums s2.L)[k]? = some (.int .u64 (pn : Int))) := by show _ = _; rw [hpn]; exact nums_at hp1
                have HP0 : Hid ((nums s2.L)[0]? = some (.int .u64 (qn : Int))) := by show _ = _; rw [hqn]; exact nums_at HN0.out
                clear hp1 hp2 hpn hqn
                go_wp2
                refine wp_region_held_drew (S := fun w' => Row w' p1 42 (s2.c g2 cap2) ∧ Row w' p8 50 [.int .u8 (d : Int), .string tx, .int .u64 (nn : Int), .int .u64 (la : Int), .int .u64 (wa : Int), .int .u64 (be : Int)] ∧ S15.Held w' s2 g2 cap2 ∧ w'.ownsRow Bn 22 1 (.slice (some ⟨gn, 0, none⟩) m m) m (nums s2.L) ∧ Below w.heap.size w w') (by kernel_rfl) (⟨x1.drew, x8.drew, H2.drew, hnn.drew, bb.drew⟩) (fun hHeld => ?_)
                refine take_d 0 (some 70) (.slice (some ⟨gn, 0, none⟩) m m) rfl (by kernel_rfl) (by kernel_rfl) (by kernel_rfl) (fun _ _ _ h => h) (fun oi h => by cases h; exact Or.inl ⟨by rfl, fun w' hS' => by go_simp⟩) hHeld ?_
                try simp only [Act.put, List.setIfInBounds_toArray, List.set_cons_zero, List.set_cons_succ]
                refine take_d 1 (some 71) (.int .i64 (k : Int)) rfl (by kernel_rfl) (by kernel_rfl) (by kernel_rfl) (fun _ _ _ h => h) (fun oi h => by cases h; exact Or.inl ⟨by rfl, fun w' hS' => by go_simp⟩) hHeld ?_
                try simp only [Act.put, List.setIfInBounds_toArray, List.set_cons_zero, List.set_cons_succ]
                refine take_d 2 (some 72) (.pointer (some ⟨gn, k, none⟩)) rfl (by kernel_rfl) (by kernel_rfl) (by kernel_rfl) (fun _ _ _ h => h) (fun oi h => by cases h; exact Or.inl ⟨by rfl, fun w' hS' => by go_simp⟩) hHeld ?_
                try simp only [Act.put, List.setIfInBounds_toArray, List.set_cons_zero, List.set_cons_succ]
                refine take_d 3 (some 73) (.int .u64 (pn : Int)) rfl (by kernel_rfl) (by kernel_rfl) (by kernel_rfl) (fun _ _ _ h => h) (fun oi h => by cases h; exact Or.inl ⟨by rfl, fun w' hS' => by have c := ((hS'.2.2.2.1).cellAt k (by omega)).trans HP.out; go_simp⟩) hHeld ?_
                try simp only [Act.put, List.setIfInBounds_toArray, List.set_cons_zero, List.set_cons_succ]
                refine take_d 4 (some 74) (.slice (some ⟨gn, 0, none⟩) m m) rfl (by kernel_rfl) (by kernel_rfl) (by kernel_rfl) (fun _ _ _ h => h) (fun oi h => by cases h; exact Or.inl ⟨by rfl, fun w' hS' => by go_simp⟩) hHeld ?_
                try simp only [Act.put, List.setIfInBounds_toArray, List.set_cons_zero, List.set_cons_succ]
                refine take_d 5 (some 75) (.pointer (some ⟨gn, 0, none⟩)) rfl (by kernel_rfl) (by kernel_rfl) (by kernel_rfl) (fun _ _ _ h => h) (fun oi h => by cases h; exact Or.inl ⟨by rfl, fun w' hS' => by go_simp⟩) hHeld ?_
                try simp only [Act.put, List.setIfInBounds_toArray, List.set_cons_zero, List.set_cons_succ]
                refine take_d 6 (some 76) (.int .u64 (qn : Int)) rfl (by kernel_rfl) (by kernel_rfl) (by kernel_rfl) (fun _ _ _ h => h) (fun oi h => by cases h; exact Or.inl ⟨by rfl, fun w' hS' => by have c := ((hS'.2.2.2.1).cellAt 0 (by omega)).trans HP0.out; go_simp⟩) hHeld ?_
                try simp only [Act.put, List.setIfInBounds_toArray, List.set_cons_zero, List.set_cons_succ]
                refine take_d 7 (some 77) (.int .i64 (k : Int)) rfl (by kernel_rfl) (by kernel_rfl) (by kernel_rfl) (fun _ _ _ h => h) (fun oi h => by cases h; exact Or.inl ⟨by rfl, fun w' hS' => by go_simp⟩) hHeld ?_
                try simp only [Act.put, List.setIfInBounds_toArray, List.set_cons_zero, List.set_cons_succ]
                refine take_d 8 (some 78) (.int .u64 (k : Int)) rfl (by kernel_rfl) (by kernel_rfl) (by kernel_rfl) (fun _ _ _ h => h) (fun oi h => by cases h; exact Or.inl ⟨by rfl, fun w' hS' => by go_simp⟩) hHeld ?_
                try simp only [Act.put, List.setIfInBounds_toArray, List.set_cons_zero, List.set_cons_succ]
                refine take_d 9 (some 79) (.int .u64 (pn : Int)) rfl (by kernel_rfl) (by kernel_rfl) (by kernel_rfl) (fun _ _ _ h => h) (fun oi h => by cases h; exact Or.inl ⟨by rfl, fun w' hS' => by go_simp⟩) hHeld ?_
                try simp only [Act.put, List.setIfInBounds_toArray, List.set_cons_zero, List.set_cons_succ]
                refine take_d 10 (some 80) (.bool false) rfl (by kernel_rfl) (by kernel_rfl) (by kernel_rfl) (fun _ _ _ h => h) (fun oi h => by cases h; exact Or.inl ⟨by rfl, fun w' hS' => by go_simp⟩) hHeld ?_
                try simp only [Act.put, List.setIfInBounds_toArray, List.set_cons_zero, List.set_cons_succ]
                refine wpAnyH_done (by kernel_rfl) ?_ _
                try simp only [Act.put]
                go_wp2
                go_roundw
                case rel => exact ⟨k + 1, by omega, by go_num, hHeld.1, hHeld.2.1, hHeld.2.2.1, hHeld.2.2.2.1, hHeld.2.2.2.2⟩
                case measure => simp [intOf]; omega
              · obtain rfl : k = m := by omega
                clear hnn HN HN0
                by_cases h5 : m5 = 0
                · have e5 : ((m5 : Int) == 0) = true := by rw [beq_iff_eq]; omega
                  clear h5
                  have cx80 : wr.cell? ⟨p8, 0, none⟩ = some (.int .u8 (d : Int)) := x8.cell 0
                  have cx82 : wr.cell? ⟨p8, 2, none⟩ = some (.int .u64 (nn : Int)) := x8.cell 2
                  have tok401 : True := True.intro
                  go_wp2_with (first | (refine at_op (.load 42 (.tmp 5)) (by with_reducible rfl) ?_; clear tok401; refine wpList_load_row rfl 42 (.tmp 5) rfl (p1) rfl _ _ _ _ x1 Try.underlying42 rfl infoSn ?_))
                  clear cx80 cx82
                  obtain ⟨s3, hs3⟩ : ∃ x, x = s2.acked nn := ⟨_, rfl⟩
                  have HO3 : Hid (Ok 100 (i + 1) tk2 s3) := by show Ok 100 (i + 1) tk2 s3; rw [hs3]; exact HO2.out.acked nn
                  have CK1 := acked_sn s2 g2 cap2 nn wr HO2.out H2
                  rw [← hs3] at CK1
                  clear hs3
                  refine (CK1).mono ?_
                  rintro e wa402 ⟨g3, cap3, rfl, H3, bwa402⟩
                  replace x1 := x1.below bwa402 x1.lt
                  replace x8 := x8.below bwa402 x8.lt
                  replace H2 := H2.keep bwa402
                  replace bb := bb.trans (bwa402.mono bb.size)
                  clear bwa402
                  clear CK1
                  have hne3 := held_ne H3 HO3.out.pos x1
                  have hne2 := held_ne H2 HO2.out.pos x1
                  have tok403 : True := True.intro
                  go_wp2_with (first | (refine at_op (.store 42 (.tmp 5) (.tmp 89)) (by with_reducible rfl) ?_; clear tok403; refine wpList_store_row rfl 42 (.tmp 5) (.tmp 89) rfl (p1) _ rfl rfl _ _ x1 infoSn rfl (by first | (simp [Value.oneCell']; done) | exact S15.Sn.c_all _ _ _) ?_))
                  replace x1 := x1.setRow (s3.c g3 cap3)
                  replace x8 := x8.setRow_other (k := p1) (by omega) (List.toArray (s3.c g3 cap3))
                  replace H2 := H2.setRow (k := (p1)) (by omega) (List.toArray (s3.c g3 cap3))
                  replace H3 := H3.setRow (k := (p1)) (by omega) (List.toArray (s3.c g3 cap3))
                  replace bb := below_row bb (show _ ≤ p1 by omega) (List.toArray (s3.c g3 cap3))
                  generalize wa402.setRow p1 (List.toArray (s3.c g3 cap3)) = wa404 at *
                  go_wp2
                  go_roundw
                  case rel => exact ⟨i + 1, tk2, g3, cap3, s3, by omega, by go_num, rfl, hu1, HO3, x1, H3, bb⟩
                  case measure => simp [intOf]; omega
                · have e5 : ((m5 : Int) == 0) = false := by rw [beq_eq_false_iff_ne]; omega
                  clear h5
                  have cx80 : wr.cell? ⟨p8, 0, none⟩ = some (.int .u8 (d : Int)) := x8.cell 0
                  have cx82 : wr.cell? ⟨p8, 2, none⟩ = some (.int .u64 (nn : Int)) := x8.cell 2
                  go_wp2
                  go_roundw
                  case rel => exact ⟨i + 1, tk2, g2, cap2, s2, by omega, by go_num, rfl, hu1, HO2, x1, H2, bb⟩
                  case measure => simp [intOf]; omega
        · have e1 : (100 : Int) < (tx.size : Int) := by omega
          go_wp2_with (refine wpList_load_mid rfl 50 (.tmp 31) rfl b (off + i * 6) rfl _ _ hr Try.underlying50 rfl infoAct ?_)
          go_ret
          exact ⟨rfl, bb.alloc bb.size _⟩
      · obtain rfl : i = len1 := by omega
        clear HI CX
        go_wp2
        go_loopw [91, 6] (fun kv tv wr => ∃ (k tk g cap : Nat) (s : Sn), k ≤ 4 ∧ kv = .int .i64 (k : Int) ∧ tv = .int .u64 (tk : Int) ∧ tk ≤ 30000 + 1000 * k ∧ Hid (Ok 100 (i + k) tk s) ∧ (1 ≤ k → s.L.length = 1) ∧ (2 ≤ k → s.quiet = true) ∧ Row wr p1 42 (s.c g cap) ∧ Held wr s g cap ∧ Below w.heap.size w wr) (fun kv _ _ => 4 - (intOf kv).toNat)
        case atStart => exact ⟨0, tk, g, cap, s, by omega, rfl, rfl, by omega, HO, fun h => absurd h (by omega), fun h => absurd h (by omega), x1, H0, bb⟩
        case round =>
          clear x1 H0 bb HO htk s
          obtain ⟨k, tk, g, cap, s, hk, rfl, rfl, htk, HO, h1, h2, x1, H0, bb⟩ := hrel
          by_cases hlk : k < 4
          · have hs : (k : Int) < 4 := by omega
            have hll := HO.out.last
            obtain ⟨tk2, htk2⟩ : ∃ x, x = tk + 1000 := ⟨_, rfl⟩
            have y3 : IntKind.u64.wrap ((tk : Int) + 1000) = (tk2 : Int) := by rw [IntKind.wrap_u64]; omega
            obtain ⟨s2, hs2⟩ : ∃ x, x = s.next (tk + 1000) 1000 1000 := ⟨_, rfl⟩
            have HO2 : Hid (Ok 100 (i + k + 1) tk2 s2) := by show Ok 100 (i + k + 1) tk2 s2; rw [hs2, htk2]; exact (HO.out.mono (Nat.le_refl _) (Nat.le_refl _) (by omega)).next 1000 1000 (Nat.le_refl _)
            obtain ⟨s3, hs3⟩ : ∃ x, x = s2.acked s2.top.num := ⟨_, rfl⟩
            have HO3 : Hid (Ok 100 (i + (k + 1)) tk2 s3) := by show Ok 100 (i + (k + 1)) tk2 s3; rw [hs3]; exact HO2.out.acked _
            have hr3 : s3 = rnd s tk := by rw [hs3, hs2]; rfl
            have hq1 : s3.L.length = 1 := by rw [hr3]; exact rnd_one HO.out hll (by omega)
            have hq2 : 2 ≤ k + 1 → s3.quiet = true := fun h => by rw [hr3]; exact rnd_quiet HO.out hll (by omega) (h1 (by omega))
            have CE1 := fun wx hx => CE.out s g cap tk (i + k) tk wx HO.out (by omega) (by omega) hll hx
            rw [← hs2, ← htk2] at CE1
            have CK1 := fun g cap wx hx => acked_sn s2 g cap s2.top.num wx HO2.out hx
            rw [← hs3] at CK1
            have HC1 := Lib.hid CE1
            have HC2 := Lib.hid CK1
            obtain ⟨nt, hnt⟩ : ∃ x, x = s2.top.num := ⟨_, rfl⟩
            rw [← hnt] at HC1 HC2
            have hu : tk2 ≤ 30000 + 1000 * (k + 1) := by omega
            clear hs2 hs3 hr3 hnt CE1 CK1 h1 h2 htk2
            have tok601 : True := True.intro
            go_wp2_with (first | (refine at_op (.load 42 (.tmp 5)) (by with_reducible rfl) ?_; clear tok601; refine wpList_load_row rfl 42 (.tmp 5) rfl (p1) rfl _ _ _ _ x1 Try.underlying42 rfl infoSn ?_))
            refine (HC1.out _ H0).mono ?_
            rintro e wa602 ⟨g2, cap2, o2, a2, xx, rfl, H2, bwa602⟩
            replace x1 := x1.below bwa602 x1.lt
            replace H0 := H0.keep bwa602
            replace bb := bb.trans (bwa602.mono bb.size)
            clear bwa602
            clear H0
            have x2 : Row ((wa602.alloc (.cells #[.nilFunc, .nilFunc, .string ⟨#[]⟩, .slice none 0 0, .int .u64 0] 42 (0, 0))).alloc (.cells #[.int .u64 0, .int .u64 0, .int .u64 0, .int .u64 0, .string ⟨#[]⟩] 24 (0, 0))) wa602.heap.size 42 ([.nilFunc, .nilFunc, .string ⟨#[]⟩, .slice none 0 0, .int .u64 0]) := (Row.new' rfl rfl).alloc _
            have x3 : Row ((wa602.alloc (.cells #[.nilFunc, .nilFunc, .string ⟨#[]⟩, .slice none 0 0, .int .u64 0] 42 (0, 0))).alloc (.cells #[.int .u64 0, .int .u64 0, .int .u64 0, .int .u64 0, .string ⟨#[]⟩] 24 (0, 0))) (wa602.heap.size + 1) 24 ([.int .u64 0, .int .u64 0, .int .u64 0, .int .u64 0, .string ⟨#[]⟩]) := Row.new' rfl (by simp)
            have lx1x2 : p1 < wa602.heap.size := x1.lt
            have lH2x2 : g2 < wa602.heap.size := H2.lt
            have lzx2 := bb.size
            replace x1 := ((x1).alloc (.cells #[.nilFunc, .nilFunc, .string ⟨#[]⟩, .slice none 0 0, .int .u64 0] 42 (0, 0))).alloc (.cells #[.int .u64 0, .int .u64 0, .int .u64 0, .int .u64 0, .string ⟨#[]⟩] 24 (0, 0))
            replace H2 := ((H2).alloc (.cells #[.nilFunc, .nilFunc, .string ⟨#[]⟩, .slice none 0 0, .int .u64 0] 42 (0, 0))).alloc (.cells #[.int .u64 0, .int .u64 0, .int .u64 0, .int .u64 0, .string ⟨#[]⟩] 24 (0, 0))
            replace bb := ((bb).alloc bb.size (.cells #[.nilFunc, .nilFunc, .string ⟨#[]⟩, .slice none 0 0, .int .u64 0] 42 (0, 0))).alloc (by simp; omega) (.cells #[.int .u64 0, .int .u64 0, .int .u64 0, .int .u64 0, .string ⟨#[]⟩] 24 (0, 0))
            have hne := held_ne H2 HO2.out.pos x1
            have x3c := (((x3).setRow_other (k := wa602.heap.size) (by omega) (List.toArray (s2.c g2 cap2))).setRow ([.int .u64 (o2 : Int), .int .u64 (nt : Int), .int .u64 (a2 : Int), .int .u64 (o2 : Int), .string xx])).setRow_other (k := p1) (by omega) (List.toArray (s2.c g2 cap2))
            have c31 : (((((wa602.alloc (.cells #[.nilFunc, .nilFunc, .string ⟨#[]⟩, .slice none 0 0, .int .u64 0] 42 (0, 0))).alloc (.cells #[.int .u64 0, .int .u64 0, .int .u64 0, .int .u64 0, .string ⟨#[]⟩] 24 (0, 0))).setRow wa602.heap.size (List.toArray (s2.c g2 cap2))).setRow (wa602.heap.size + 1) (List.toArray ([.int .u64 (o2 : Int), .int .u64 (nt : Int), .int .u64 (a2 : Int), .int .u64 (o2 : Int), .string xx]))).setRow p1 (List.toArray (s2.c g2 cap2))).cell? ⟨(wa602.heap.size + 1), 1, none⟩ = some (.int .u64 (nt : Int)) := x3c.cell 1
            clear x3c
            have tok603 : True := True.intro
            have tok604 : True := True.intro
            have tok605 : True := True.intro
            have tok606 : True := True.intro
            have tok607 : True := True.intro
            go_wp2_with (first | (refine at_op (.store 42 (.tmp 11) (.tmp 99)) (by with_reducible rfl) ?_; clear tok603; refine wpList_store_row rfl 42 (.tmp 11) (.tmp 99) rfl (wa602.heap.size) _ rfl rfl _ _ x2 infoSn rfl (by first | (simp [Value.oneCell']; done) | exact S15.Sn.c_all _ _ _) ?_) | (refine at_op (.store 24 (.tmp 12) (.tmp 100)) (by with_reducible rfl) ?_; clear tok604; refine wpList_store_row rfl 24 (.tmp 12) (.tmp 100) rfl ((wa602.heap.size + 1)) _ rfl rfl _ _ ((x3).setRow_other (k := wa602.heap.size) (by omega) (List.toArray (s2.c g2 cap2))) infoIn rfl (by first | (simp [Value.oneCell']; done) | exact S15.Sn.c_all _ _ _) ?_) | (refine at_op (.load 42 (.tmp 11)) (by with_reducible rfl) ?_; clear tok605; refine wpList_load_row rfl 42 (.tmp 11) rfl (wa602.heap.size) rfl _ _ _ _ (((x2).setRow (s2.c g2 cap2)).setRow_other (k := (wa602.heap.size + 1)) (by omega) (List.toArray ([.int .u64 (o2 : Int), .int .u64 (nt : Int), .int .u64 (a2 : Int), .int .u64 (o2 : Int), .string xx]))) Try.underlying42 rfl infoSn ?_) | (refine at_op (.store 42 (.tmp 5) (.tmp 102)) (by with_reducible rfl) ?_; clear tok606; refine wpList_store_row rfl 42 (.tmp 5) (.tmp 102) rfl (p1) _ rfl rfl _ _ (((x1).setRow_other (k := wa602.heap.size) (by omega) (List.toArray (s2.c g2 cap2))).setRow_other (k := (wa602.heap.size + 1)) (by omega) (List.toArray ([.int .u64 (o2 : Int), .int .u64 (nt : Int), .int .u64 (a2 : Int), .int .u64 (o2 : Int), .string xx]))) infoSn rfl (by first | (simp [Value.oneCell']; done) | exact S15.Sn.c_all _ _ _) ?_) | (refine at_op (.load 42 (.tmp 5)) (by with_reducible rfl) ?_; clear tok607; refine wpList_load_row rfl 42 (.tmp 5) rfl (p1) rfl _ _ _ _ ((((x1).setRow_other (k := wa602.heap.size) (by omega) (List.toArray (s2.c g2 cap2))).setRow_other (k := (wa602.heap.size + 1)) (by omega) (List.toArray ([.int .u64 (o2 : Int), .int .u64 (nt : Int), .int .u64 (a2 : Int), .int .u64 (o2 : Int), .string xx]))).setRow (s2.c g2 cap2)) Try.underlying42 rfl infoSn ?_))
            clear c31
            obtain ⟨p2, hp2⟩ : ∃ p2, p2 = wa602.heap.size := ⟨_, rfl⟩
            rw [← hp2] at x2 x3 lx1x2 lH2x2 lzx2 ⊢
            generalize (wa602.alloc (.cells #[.nilFunc, .nilFunc, .string ⟨#[]⟩, .slice none 0 0, .int .u64 0] 42 (0, 0))).alloc (.cells #[.int .u64 0, .int .u64 0, .int .u64 0, .int .u64 0, .string ⟨#[]⟩] 24 (0, 0)) = wa608 at *
            clear hp2
            replace x1 := x1.setRow_other (k := p2) (by omega) (List.toArray (s2.c g2 cap2))
            replace H2 := H2.setRow (k := (p2)) (by omega) (List.toArray (s2.c g2 cap2))
            replace x2 := x2.setRow (s2.c g2 cap2)
            replace x3 := x3.setRow_other (k := p2) (by omega) (List.toArray (s2.c g2 cap2))
            replace bb := below_row bb (show _ ≤ p2 by omega) (List.toArray (s2.c g2 cap2))
            generalize wa608.setRow p2 (List.toArray (s2.c g2 cap2)) = wa609 at *
            replace x1 := x1.setRow_other (k := (p2 + 1)) (by omega) (List.toArray ([.int .u64 (o2 : Int), .int .u64 (nt : Int), .int .u64 (a2 : Int), .int .u64 (o2 : Int), .string xx]))
            replace H2 := H2.setRow (k := ((p2 + 1))) (by omega) (List.toArray ([.int .u64 (o2 : Int), .int .u64 (nt : Int), .int .u64 (a2 : Int), .int .u64 (o2 : Int), .string xx]))
            replace x2 := x2.setRow_other (k := (p2 + 1)) (by omega) (List.toArray ([.int .u64 (o2 : Int), .int .u64 (nt : Int), .int .u64 (a2 : Int), .int .u64 (o2 : Int), .string xx]))
            replace x3 := x3.setRow ([.int .u64 (o2 : Int), .int .u64 (nt : Int), .int .u64 (a2 : Int), .int .u64 (o2 : Int), .string xx])
            replace bb := below_row bb (show _ ≤ (p2 + 1) by omega) (List.toArray ([.int .u64 (o2 : Int), .int .u64 (nt : Int), .int .u64 (a2 : Int), .int .u64 (o2 : Int), .string xx]))
            generalize wa609.setRow ((p2 + 1)) (List.toArray ([.int .u64 (o2 : Int), .int .u64 (nt : Int), .int .u64 (a2 : Int), .int .u64 (o2 : Int), .string xx])) = wa610 at *
            replace x1 := x1.setRow (s2.c g2 cap2)
            replace H2 := H2.setRow (k := (p1)) (by omega) (List.toArray (s2.c g2 cap2))
            replace x2 := x2.setRow_other (k := p1) (by omega) (List.toArray (s2.c g2 cap2))
            replace x3 := x3.setRow_other (k := p1) (by omega) (List.toArray (s2.c g2 cap2))
            replace bb := below_row bb (show _ ≤ p1 by omega) (List.toArray (s2.c g2 cap2))
            generalize wa610.setRow p1 (List.toArray (s2.c g2 cap2)) = wa611 at *
            refine (HC2.out g2 cap2 _ H2).mono ?_
            rintro e wa612 ⟨g3, cap3, rfl, H3, bwa612⟩
            replace x1 := x1.below bwa612 x1.lt
            replace H2 := H2.keep bwa612
            replace x2 := x2.below bwa612 x2.lt
            replace x3 := x3.below bwa612 x3.lt
            replace bb := bb.trans (bwa612.mono bb.size)
            clear bwa612
            have hne3 := held_ne H3 HO3.out.pos x1
            clear H2
            have tok613 : True := True.intro
            go_wp2_with (first | (refine at_op (.store 42 (.tmp 5) (.tmp 107)) (by with_reducible rfl) ?_; clear tok613; refine wpList_store_row rfl 42 (.tmp 5) (.tmp 107) rfl (p1) _ rfl rfl _ _ x1 infoSn rfl (by first | (simp [Value.oneCell']; done) | exact S15.Sn.c_all _ _ _) ?_))
            replace x1 := x1.setRow (s3.c g3 cap3)
            replace x2 := x2.setRow_other (k := p1) (by omega) (List.toArray (s3.c g3 cap3))
            replace x3 := x3.setRow_other (k := p1) (by omega) (List.toArray (s3.c g3 cap3))
            replace H3 := H3.setRow (k := (p1)) (by omega) (List.toArray (s3.c g3 cap3))
            replace bb := below_row bb (show _ ≤ p1 by omega) (List.toArray (s3.c g3 cap3))
            generalize wa612.setRow p1 (List.toArray (s3.c g3 cap3)) = wa614 at *
            go_wp2
            go_roundw
            case rel => exact ⟨k + 1, tk2, g3, cap3, s3, by omega, by go_num, rfl, hu, HO3, fun _ => hq1, hq2, x1, H3, bb⟩
            case measure => simp [intOf]; omega
          · obtain rfl : k = 4 := by omega
            have CQ := quiet_sn s g cap wr HO.out H0
            rw [h2 (by omega)] at CQ
            have tok701 : True := True.intro
            go_wp2_with (first | (refine at_op (.load 42 (.tmp 5)) (by with_reducible rfl) ?_; clear tok701; refine wpList_load_row rfl 42 (.tmp 5) rfl (p1) rfl _ _ _ _ x1 Try.underlying42 rfl infoSn ?_))
            refine (CQ).mono ?_
            rintro e wa702 ⟨rfl, bwa702⟩
            replace x1 := x1.below bwa702 x1.lt
            replace H0 := H0.keep bwa702
            replace bb := bb.trans (bwa702.mono bb.size)
            clear bwa702
            go_wp2
            go_ret
            exact ⟨rfl, bb⟩
  · by_cases hc : 30 < len1
    · have g1 : (30 : Int) < (len1 : Int) := by omega
      clear hb
      have bb : Below w.heap.size w w := Below.refl _ _
      go_enter Try.func5, Try.ntmps5
      go_wp2_with fail
      refine (CL.out _).mono ?_
      rintro e wa2 ⟨rfl, bwa2⟩
      replace bb := bb.trans (bwa2.mono bb.size)
      clear bwa2
      go_wp2
      go_ret
      exact ⟨rfl, bb⟩
    · have g1 : ¬ (30 : Int) < (len1 : Int) := by omega
      have g2 : (100 : Int) < (a0.size : Int) := by omega
      clear hb
      have bb : Below w.heap.size w w := Below.refl _ _
      go_enter Try.func5, Try.ntmps5
      go_wp2_with fail
      refine (CL.out _).mono ?_
      rintro e wa2 ⟨rfl, bwa2⟩
      replace bb := bb.trans (bwa2.mono bb.size)
      clear bwa2
      go_wp2
      go_ret
      exact ⟨rfl, bb⟩

end Go.Proofs.Ytglfbmgnndebiaa.SenderEndsW
