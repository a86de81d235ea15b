/-
  Layer 16: ReceiverFollows, the walk: each state that a receiver has is the one that was sent; Latest never falls; sent again it comes up.
-/
import Derived.Test.YtjfhinhakanhaaaGFollow
import Derived.Test.YtjfhinhakanhaaaPStrs
namespace Go.Proofs.Ytjfhinhakanhaaa.ReceiverFollowsW
open Go.RowKit
set_option linter.unusedVariables false
set_option linter.unusedSimpArgs false
set_option maxRecDepth 20000
open R16
theorem infoStrF : (Try.prog.info? 9).map (fun i => (i.zero, i.size, i.bytes)) = some (some (.string ⟨#[]⟩), 1, 16) := by kernel_rfl

set_option maxHeartbeats 8000000 in
theorem walk (a0 : Option Addr) (len0 cap0 : Nat) (z0 : Nat → ByteArray) (a1 : Option Addr) (len1 cap1 : Nat) (z1 : List Int) (a2 : Int) (w : World) (w0 : InStrs w a0 len0 cap0 z0) (w1 : IsRow .u16 w a1 len1 cap1 z1) (w2 : (Lit.int .u32 a2).wf = true) :
    Calls Try.prog 4 #[.slice a0 len0 cap0, .slice a1 len1 cap1, .int .u32 a2] w fun e w' => e = .returned (.bool true) ∧ Below w.heap.size w w' := by
  obtain ⟨y0, y1⟩ := Go.bounds_u32 w2
  obtain ⟨acks, rfl⟩ := Int.eq_ofNat_of_zero_le y0
  have hcap0 := w0.2.1
  have hlc0 := w0.1
  have HST := Lib.hid w0.2.2
  have HPK : Hid (0 < len1 → ∃ b off, a1 = some ⟨b, off, none⟩ ∧ b < w.heap.size ∧ ∀ i, i < len1 → ∃ k : Nat, k < 65536 ∧ w.cell? ⟨b, off + i, none⟩ = some (.int .u16 (k : Int))) := fun h => w1.halfs h
  have CL := Lib.hid awake16_any
  obtain ⟨i0, hif, hz0, hz1, hz2⟩ := info_parts infoStrF
  unfold maxLen at hcap0
  clear w0 w1 w2 y0
  by_cases hb : len0 ≤ 20 ∧ len1 ≤ 60 ∧ 0 < len0
  · obtain ⟨hb1, hb2, hb3⟩ := hb
    have g1 : ¬ (20 : Int) < (len0 : Int) := by omega
    have g2 : ¬ (60 : Int) < (len1 : Int) := by omega
    have g3 : ((len0 : Int) == 0) = false := by rw [beq_eq_false_iff_ne]; omega
    have CR := Lib.hid rule16_any
    have CN := Lib.hid (new16_any ⟨#[97]⟩)
    have CT : Hid (∀ (b to n g cap p : Nat) (d : ByteArray) (L : List Cm) (wx : World), Hid (∀ j, j < len0 → (z0 j).size ≤ 40) → Hid (L.length = n + 1) → n ≤ 7 → Hid (Fw (txT z0) len0 b L) → d.size ≤ 900 → n + 1 ≤ cap → Row wx p 30 [.func (.func 18) #[] #[], .slice (some ⟨g, 0, none⟩) (n + 1) cap] → CmAt wx g 0 L → Calls Try.prog 11 #[.agg #[.func (.func 18) #[] #[], .slice (some ⟨g, 0, none⟩) (n + 1) cap], .agg #[.int .u64 (b : Int), .int .u64 (to : Int), .int .u64 0, .int .u64 (b : Int), .string d]] wx fun e w' => ∃ L' last code m g' cap', e = .returned (.tuple #[.agg #[.func (.func 18) #[] #[], .slice (some ⟨g', 0, none⟩) (m + 1) cap'], .bool last, .int .i64 ((code : Nat) : Int)]) ∧ Hid (Tk L b to b d L' last code) ∧ Hid (L'.length = m + 1) ∧ m ≤ 7 ∧ g' ≠ p ∧ CmAt w' g' 0 L' ∧ m + 1 ≤ cap' ∧ Below wx.heap.size wx w') := fun b to n g cap p d L wx hS hn h7 hF hd hc hr hx => by
      refine (take_any16 g n cap b to 0 b d L wx hn.out (by omega) hF.out.up hc hx (fun j q hq => by
        have h1 := hF.out.own j q hq
        have h2 := txT_size hS.out q.num h1.1
        rw [h1.2.2]; omega)).mono ?_
      rintro e w' ⟨L', last, code, m, g', cap', rfl, hT, hC, hm, hcp, hbb⟩
      have h8 := hT.len (by have := hn.out; omega)
      exact ⟨L', last, code, m, g', cap', rfl, hT, hm, by omega, cm_ne' hC (by omega) (hr.below hbb hr.lt) (fun z => by simp) (fun z => by simp), hC, hcp, hbb⟩
    have CLt : Hid (∀ (n g cap : Nat) (L : List Cm) (q : Cm) (wx : World), Hid (L.length = n + 1) → n ≤ 7 → Hid (L[n]? = some q) → CmAt wx g 0 L → Calls Try.prog 15 #[.agg #[.func (.func 18) #[] #[], .slice (some ⟨g, 0, none⟩) (n + 1) cap]] wx fun e w' => e = .returned (.tuple #[.int .u64 (q.num : Int), .string q.tx]) ∧ Below wx.heap.size wx w') := fun n g cap L q wx hn h7 hq hx =>
      latest_any g n cap L q wx hn.out (by omega) hq.out hx
    have CU : Hid (∀ (n g cap : Nat) (L : List Cm) (wx : World), Hid (L.length = n + 1) → n ≤ 7 → CmAt wx g 0 L → Calls Try.prog 10 #[.agg #[.func (.func 18) #[] #[], .slice (some ⟨g, 0, none⟩) (n + 1) cap]] wx fun e w' => ∃ g', e = .returned (.slice (some ⟨g', 0, none⟩) (n + 1) (n + 1)) ∧ NumAt w' g' n L ∧ Below wx.heap.size wx w') := fun n g cap L wx hn h7 hx => by
      refine (nums16_any g n cap L wx hn.out (by omega) hx).mono ?_
      rintro e w' ⟨g', rfl, ho, hbb⟩
      exact ⟨g', rfl, own_lower ho (Nat.zero_le _), hbb⟩
    have CO : Hid (∀ (b n g cap k : Nat) (L : List Cm) (q : Cm) (wx : World), Hid (L.length = n + 1) → n ≤ 7 → Hid (Fw (txT z0) len0 b L) → Hid (L[k]? = some q) → CmAt wx g 0 L → Calls Try.prog 14 #[.agg #[.func (.func 18) #[] #[], .slice (some ⟨g, 0, none⟩) (n + 1) cap], .int .u64 (q.num : Int)] wx fun e w' => e = .returned (.tuple #[.string (txT z0 q.num), .bool true]) ∧ Below wx.heap.size wx w') := fun b n g cap k L q wx hn h7 hF hq hx => by
      have h := of_there g n cap k L q wx hn.out (by omega) hF.out.up hq.out hx
      rw [(hF.out.own k q hq.out).2.2] at h
      exact h
    have bb : Below w.heap.size w w := Below.refl _ _
    go_enter Try.func4, Try.ntmps4
    go_wp2_with fail
    refine (CL.out _).mono ?_
    rintro e wa2 ⟨rfl, bwa2⟩
    replace bb := bb.trans (bwa2.mono bb.size)
    clear bwa2
    have ho : (wa2.alloc (.cells #[.string ⟨#[97]⟩] 9 (0, 0))).ownsRow w.heap.size 9 1 (.slice (some ⟨wa2.heap.size, 0, none⟩) 1 1) 1 (txL z0 1) := World.ownsRow_lit wa2 #[.string ⟨#[97]⟩] 1 bb.size (by decide) rfl
    replace bb := bb.alloc bb.size (.cells #[.string ⟨#[97]⟩] 9 (0, 0))
    clear CL
    go_wp2
    go_loopw [45, 7] (fun iv tv wr => ∃ j : Nat, j ≤ len0 ∧ iv = .int .i64 (j : Int) ∧ wr.ownsRow w.heap.size 9 1 tv (j + 1) (txL z0 (j + 1)) ∧ Hid (∀ k, k < j → (z0 k).size ≤ 40 ∧ bang (z0 k) = false) ∧ Below w.heap.size w wr) (fun iv _ _ => len0 - (intOf iv).toNat)
    case atStart => exact ⟨0, Nat.zero_le _, rfl, ho, (fun k hk => absurd hk (Nat.not_lt_zero k)), bb⟩
    case round =>
      clear ho bb
      obtain ⟨j, hj, rfl, ho, HP, bb⟩ := hrel
      obtain ⟨gt, capt, rfl, hgt1, hgt2, hgt3, hgt4⟩ := own_sl ho
      by_cases hlt : j < len0
      · have hs : (j : Int) < (len0 : Int) := by omega
        obtain ⟨ba, oa, rfl, hba, hcs⟩ := HST.out (by omega)
        have c47 : wr.cell? ⟨ba, oa + j, none⟩ = some (.string (z0 j)) := (bb.cell (p := ⟨ba, oa + j, none⟩) hba).trans (hcs j hlt).1
        have hsz := (hcs j hlt).2
        unfold maxLen at hsz
        clear hcs
        by_cases h40 : (z0 j).size ≤ 40
        · have e40 : ¬ (40 : Int) < ((z0 j).size : Int) := by omega
          have hbg : bang (z0 j) = true ∨ bang (z0 j) = false := by cases bang (z0 j) <;> simp
          rcases hbg with hbg | hbg
          · obtain ⟨h0, h1⟩ := bang_yes hbg
            have e0 : (0 : Int) < ((z0 j).size : Int) := by omega
            clear hbg
            go_wp2
            go_ret
            exact ⟨rfl, bb⟩
          · have hTs := txT_size (fun k hk => (HP.out k hk).1) j (Nat.le_refl _)
            have HP2 : Hid (∀ k, k < j + 1 → (z0 k).size ≤ 40 ∧ bang (z0 k) = false) := fun k hk => by
              rcases Nat.lt_or_ge k j with c | c
              · exact HP.out k c
              · obtain rfl : k = j := by omega
                exact ⟨h40, hbg⟩
            have hzz : (txT z0 j).size + (z0 j).size ≤ 9223372036854775807 := by omega
            have c68 : wr.cell? ⟨gt, j, none⟩ = some (.string (txT z0 j)) := (World.ownsRow.cellAt ho j (by omega)).trans (txL_at z0 (Nat.lt_succ_self j))
            have y1 : IntKind.i64.wrap (((j + 1 : Nat) : Int) - 1) = (j : Int) := by rw [IntKind.wrap_i64]; omega
            have y2 : (j : Int) < ((j + 1 : Nat) : Int) := by omega
            have ho2 := ho.alloc (.cells #[.string (txT z0 j ++ z0 j)] 9 (0, 0))
            have bb2 := bb.alloc bb.size (.cells #[.string (txT z0 j ++ z0 j)] 9 (0, 0))
            have hown := own_blk ho
            have hwl := bb.size
            have r20 : Row (wr.alloc (.cells #[.string (txT z0 j ++ z0 j)] 9 (0, 0))) wr.heap.size 9 [.string (txT z0 j ++ z0 j)] := Row.new' rfl rfl
            have hnews : Hid (∀ (jj : Nat) (u : Value), ([.string (txT z0 j ++ z0 j)] : List Value)[jj]? = some u → (wr.alloc (.cells #[.string (txT z0 j ++ z0 j)] 9 (0, 0))).cell? ((⟨wr.heap.size, 0, none⟩ : Addr).add jj) = some u) := fun jj u hjj => by rw [R16.addrAdd, Nat.zero_add, r20.cell]; exact hjj
            clear ho bb r20 HP
            have E0 : (z0 j).size = 0 ∨ 0 < (z0 j).size := Nat.eq_zero_or_pos _
            rcases E0 with h0 | h0
            · have e0 : ¬ (0 : Int) < ((z0 j).size : Int) := by omega
              clear hbg
              go_wp2_with (first | (at_builtin; go_loud (refine wpList_append_own _ rfl _ _ 52 rfl w.heap.size 9 i0 _ 1 16 Try.underlying52 hif hz0 hz1 hz2 rfl (by decide) _ (j + 1) _ rfl ho2 ⟨wr.heap.size, 0, none⟩ 1 1 ([.string (txT z0 j ++ z0 j)]) rfl rfl hnews.out (by intro u hu; simp at hu; rcases hu with rfl | rfl <;> rfl) (by unfold maxLen; omega) (by omega) (by simp; omega) ?_)))
              intro v' w' ho' hgr _
              have hAA : txL z0 (j + 1) ++ [.string (txT z0 j ++ z0 j)] = txL z0 (j + 1 + 1) := txL_succ z0 (j + 1)
              rw [hAA] at ho'
              have bb3 := bb2.grown hgr (by simp; omega) (fun jj hjj => hown jj hjj)
              clear ho2 bb2 hgr hnews hAA
              go_wp2
              go_roundw
              case rel => exact ⟨j + 1, by omega, by go_num, ho', HP2, bb3⟩
              case measure => simp [intOf]; omega
            · have h1 := bang_no hbg h0
              have e0 : (0 : Int) < ((z0 j).size : Int) := by omega
              clear hbg
              go_wp2_with (first | (at_builtin; go_loud (refine wpList_append_own _ rfl _ _ 52 rfl w.heap.size 9 i0 _ 1 16 Try.underlying52 hif hz0 hz1 hz2 rfl (by decide) _ (j + 1) _ rfl ho2 ⟨wr.heap.size, 0, none⟩ 1 1 ([.string (txT z0 j ++ z0 j)]) rfl rfl hnews.out (by intro u hu; simp at hu; rcases hu with rfl | rfl <;> rfl) (by unfold maxLen; omega) (by omega) (by simp; omega) ?_)))
              intro v' w' ho' hgr _
              have hAA : txL z0 (j + 1) ++ [.string (txT z0 j ++ z0 j)] = txL z0 (j + 1 + 1) := txL_succ z0 (j + 1)
              rw [hAA] at ho'
              have bb3 := bb2.grown hgr (by simp; omega) (fun jj hjj => hown jj hjj)
              clear ho2 bb2 hgr hnews hAA
              go_wp2
              go_roundw
              case rel => exact ⟨j + 1, by omega, by go_num, ho', HP2, bb3⟩
              case measure => simp [intOf]; omega
        · have e40 : (40 : Int) < ((z0 j).size : Int) := by omega
          go_wp2
          go_ret
          exact ⟨rfl, bb⟩
      · obtain rfl : len0 = j := by omega
        have HT := TxAt.of_owns ho
        have HS40 : Hid (∀ k, k < len0 → (z0 k).size ≤ 40) := fun k hk => (HP.out k hk).1
        have HBG : Hid (∀ k, k < len0 → bang (z0 k) = false) := fun k hk => (HP.out k hk).2
        clear HP ho
        go_wp2_with fail
        refine (CR.out _).mono ?_
        rintro e wa51 ⟨rfl, bwa51⟩
        replace HT := HT.keep bwa51
        replace bb := bb.trans (bwa51.mono bb.size)
        clear bwa51
        go_wp2_with fail
        refine (CN.out _).mono ?_
        rintro e wa52 ⟨g0, rfl, H0, bwa52⟩
        replace HT := HT.keep bwa52
        replace bb := bb.trans (bwa52.mono bb.size)
        clear bwa52
        have x10 : Row (wa52.alloc (.cells #[.nilFunc, .slice none 0 0] 30 (0, 0))) wa52.heap.size 30 ([.nilFunc, .slice none 0 0]) := Row.new' rfl rfl
        have lHTx10 : gt < wa52.heap.size := HT.lt
        have lH0x10 : g0 < wa52.heap.size := H0.lt
        have lzx10 := bb.size
        replace HT := (HT).alloc (.cells #[.nilFunc, .slice none 0 0] 30 (0, 0))
        replace H0 := (H0).alloc (.cells #[.nilFunc, .slice none 0 0] 30 (0, 0))
        replace bb := (bb).alloc bb.size (.cells #[.nilFunc, .slice none 0 0] 30 (0, 0))
        have tok53 : True := True.intro
        go_wp2_with (first | (refine at_op (.store 30 (.tmp 10) (.tmp 75)) (by with_reducible rfl) ?_; clear tok53; refine wpList_store_row rfl 30 (.tmp 10) (.tmp 75) rfl (wa52.heap.size) _ rfl rfl _ _ x10 infoRv rfl (by simp [Value.oneCell']) ?_))
        obtain ⟨p10, hp10⟩ : ∃ p10, p10 = wa52.heap.size := ⟨_, rfl⟩
        rw [← hp10] at x10 lHTx10 lH0x10 lzx10 ⊢
        generalize wa52.alloc (.cells #[.nilFunc, .slice none 0 0] 30 (0, 0)) = wa54 at *
        clear hp10
        replace HT := HT.setRow (k := (p10)) (by omega) (List.toArray ([.func (.func 18) #[] #[], .slice (some ⟨g0, 0, none⟩) 1 1]))
        replace H0 := H0.setRow (k := (p10)) (by omega) (List.toArray ([.func (.func 18) #[] #[], .slice (some ⟨g0, 0, none⟩) 1 1]))
        replace x10 := x10.setRow ([.func (.func 18) #[] #[], .slice (some ⟨g0, 0, none⟩) 1 1])
        replace bb := below_row bb (show _ ≤ p10 by omega) (List.toArray ([.func (.func 18) #[] #[], .slice (some ⟨g0, 0, none⟩) 1 1]))
        generalize wa54.setRow p10 (List.toArray ([.func (.func 18) #[] #[], .slice (some ⟨g0, 0, none⟩) 1 1])) = wa55 at *
        have hne0 := cm_ne' H0 (Nat.le_refl 1) x10 (fun z => by simp) (fun z => by simp)
        have htp : gt ≠ p10 := by omega
        have HF0 : Hid (Fw (txT z0) len0 0 [⟨0, ⟨#[97]⟩⟩]) := ⟨up_one _, fun jj q hq => by
            cases jj with
            | zero => simp at hq; subst hq; exact ⟨Nat.zero_le _, by decide, rfl⟩
            | succ jj => simp at hq, 0, _, rfl, rfl⟩
        clear CR CN
        go_wp2
        go_loopw [78, 11] (fun iv bv wr => ∃ (i b n g cap : Nat) (L : List Cm), i ≤ len1 ∧ iv = .int .i64 (i : Int) ∧ bv = .int .u64 (b : Int) ∧ b ≤ len0 ∧ n ≤ 7 ∧ n + 1 ≤ cap ∧ Hid (L.length = n + 1) ∧ Hid (Fw (txT z0) len0 b L) ∧ g ≠ p10 ∧ Row wr p10 30 [.func (.func 18) #[] #[], .slice (some ⟨g, 0, none⟩) (n + 1) cap] ∧ CmAt wr g 0 L ∧ TxAt wr gt (len0 + 1) z0 ∧ Below w.heap.size w wr) (fun iv _ _ => len1 - (intOf iv).toNat)
        case atStart => exact ⟨0, 0, 0, g0, 1, [⟨0, ⟨#[97]⟩⟩], Nat.zero_le _, rfl, rfl, Nat.zero_le _, by decide, by decide, Lib.hid rfl, HF0, hne0, x10, H0, HT, bb⟩
        case round =>
          clear x10 H0 HT bb HF0 hne0
          obtain ⟨i, b, n, g, cap, L, hi, rfl, rfl, hbN, h7, hcp, HL, HF, hgp, x10, H0, HT, bb⟩ := hrel
          by_cases hlt : i < len1
          · have hs : (i : Int) < (len1 : Int) := by omega
            obtain ⟨bk, ok, rfl, hbk, hcell⟩ := HPK.out (by omega)
            obtain ⟨c, hc, hcc⟩ := hcell i hlt
            have cb : wr.cell? ⟨bk, ok + i, none⟩ = some (.int .u16 (c : Int)) := (bb.cell (p := ⟨bk, ok + i, none⟩) hbk).trans hcc
            clear hcell hcc
            have k1 : IntKind.u64.wrap (len0 : Int) = (len0 : Int) := by rw [IntKind.wrap_u64]; omega
            obtain ⟨to, hto⟩ : ∃ to, to = b + 1 + c % min (max (len0 - b) 1) 7 := ⟨_, rfl⟩
            have hM0 : min (max ((len0 : Int) - (b : Int)) 1) 7 = ((min (max (len0 - b) 1) 7 : Nat) : Int) := by omega
            have hmod : c % min (max (len0 - b) 1) 7 < min (max (len0 - b) 1) 7 := Nat.mod_lt _ (by omega)
            have kto : IntKind.u64.wrap ((b : Int) + 1 + (c : Int) % min (max ((len0 : Int) - (b : Int)) 1) 7) = (to : Int) := by
              rw [hM0, ← Int.natCast_emod, IntKind.wrap_u64]; omega
            have hbt : b < to := by omega
            have hb7 : to ≤ b + 7 := by omega
            clear hto hM0 hmod
            by_cases htoN : to ≤ len0
            · have e99 : ¬ (len0 : Int) < (to : Int) := by omega
              have hbs : (b : Int) < ((len0 + 1 : Nat) : Int) := by omega
              have hts : (to : Int) < ((len0 + 1 : Nat) : Int) := by omega
              obtain ⟨q1, hq1⟩ : ∃ q, L[n]? = some q := ⟨L[n]'(by rw [HL.out]; omega), List.getElem?_eq_getElem (by rw [HL.out]; omega)⟩
              have HQ1 := Lib.hid hq1
              clear hq1
              obtain ⟨d, hd1, hd2, hd3, hd4, hd5⟩ := txT_cut z0 HBG.out (Nat.le_of_lt hbt) htoN
              have hds : d.size ≤ 900 := by have := txT_size HS40.out to htoN; omega
              have HD := Lib.hid hd2
              have hd0 : ((txT z0 b).size : Int) ≤ ((txT z0 to).size : Int) := by omega
              clear hd2
              have tok201 : True := True.intro
              go_wp2_with (first | (refine at_op (.load 30 (.tmp 10)) (by with_reducible rfl) ?_; clear tok201; refine wpList_load_row rfl 30 (.tmp 10) rfl (p10) rfl _ _ _ _ x10 Try.underlying30 rfl infoRv ?_))
              refine (CLt.out n g cap L q1 _ HL h7 HQ1 H0).mono ?_
              rintro e wa202 ⟨rfl, bwa202⟩
              replace x10 := x10.below bwa202 x10.lt
              replace H0 := H0.keep bwa202
              replace HT := HT.keep bwa202
              replace bb := bb.trans (bwa202.mono bb.size)
              clear bwa202
              go_wp2
              refine wp_region_held_drew (S := fun w' => R16.TxAt w' gt (len0 + 1) z0 ∧ Below w.heap.size w w') (by kernel_rfl) (⟨HT.drew, bb.drew⟩) (fun hHeld => ?_)
              replace x10 := x10.drew
              replace H0 := H0.drew
              generalize wa202.drew = wd203 at *
              refine take_d 1 (some 107) (.int .u64 (b : Int)) rfl (by kernel_rfl) (by kernel_rfl) (by kernel_rfl) (fun _ _ _ h => h) (fun oi h => by cases h; exact Or.inl ⟨by rfl, fun w' hS' => by go_simp⟩) hHeld ?_
              try simp only [Act.put, List.setIfInBounds_toArray, List.set_cons_zero, List.set_cons_succ]
              refine take_d 2 (some 108) (.int .u64 (to : Int)) rfl (by kernel_rfl) (by kernel_rfl) (by kernel_rfl) (fun _ _ _ h => h) (fun oi h => by cases h; exact Or.inl ⟨by rfl, fun w' hS' => by go_simp⟩) hHeld ?_
              try simp only [Act.put, List.setIfInBounds_toArray, List.set_cons_zero, List.set_cons_succ]
              refine take_d 3 (some 109) (.int .u64 (b : Int)) rfl (by kernel_rfl) (by kernel_rfl) (by kernel_rfl) (fun _ _ _ h => h) (fun oi h => by cases h; exact Or.inl ⟨by rfl, fun w' hS' => by go_simp⟩) hHeld ?_
              try simp only [Act.put, List.setIfInBounds_toArray, List.set_cons_zero, List.set_cons_succ]
              refine take_d 4 (some 110) (.slice (some ⟨gt, 0, none⟩) (len0 + 1) capt) rfl (by kernel_rfl) (by kernel_rfl) (by kernel_rfl) (fun _ _ _ h => h) (fun oi h => by cases h; exact Or.inl ⟨by rfl, fun w' hS' => by go_simp⟩) hHeld ?_
              try simp only [Act.put, List.setIfInBounds_toArray, List.set_cons_zero, List.set_cons_succ]
              refine take_d 5 (some 111) (.int .u64 (to : Int)) rfl (by kernel_rfl) (by kernel_rfl) (by kernel_rfl) (fun _ _ _ h => h) (fun oi h => by cases h; exact Or.inl ⟨by rfl, fun w' hS' => by go_simp⟩) hHeld ?_
              try simp only [Act.put, List.setIfInBounds_toArray, List.set_cons_zero, List.set_cons_succ]
              refine take_d 6 (some 112) (.pointer (some ⟨gt, to, none⟩)) rfl (by kernel_rfl) (by kernel_rfl) (by kernel_rfl) (fun _ _ _ h => h) (fun oi h => by cases h; exact Or.inl ⟨by rfl, fun w' hS' => by have h9 : ¬ ((len0 : Int) + 1 ≤ (to : Int)) := (by omega); go_simp⟩) hHeld ?_
              try simp only [Act.put, List.setIfInBounds_toArray, List.set_cons_zero, List.set_cons_succ]
              refine take_d 7 (some 113) (.string (txT z0 to)) rfl (by kernel_rfl) (by kernel_rfl) (by kernel_rfl) (fun _ _ _ h => h) (fun oi h => by cases h; exact Or.inl ⟨by rfl, fun w' hS' => by have c := TxAt.cell (hS'.1) (show to < len0 + 1 by omega); go_simp⟩) hHeld ?_
              try simp only [Act.put, List.setIfInBounds_toArray, List.set_cons_zero, List.set_cons_succ]
              refine take_d 8 (some 114) (.slice (some ⟨gt, 0, none⟩) (len0 + 1) capt) rfl (by kernel_rfl) (by kernel_rfl) (by kernel_rfl) (fun _ _ _ h => h) (fun oi h => by cases h; exact Or.inl ⟨by rfl, fun w' hS' => by go_simp⟩) hHeld ?_
              try simp only [Act.put, List.setIfInBounds_toArray, List.set_cons_zero, List.set_cons_succ]
              refine take_d 9 (some 115) (.int .u64 (b : Int)) rfl (by kernel_rfl) (by kernel_rfl) (by kernel_rfl) (fun _ _ _ h => h) (fun oi h => by cases h; exact Or.inl ⟨by rfl, fun w' hS' => by go_simp⟩) hHeld ?_
              try simp only [Act.put, List.setIfInBounds_toArray, List.set_cons_zero, List.set_cons_succ]
              refine take_d 10 (some 116) (.pointer (some ⟨gt, b, none⟩)) rfl (by kernel_rfl) (by kernel_rfl) (by kernel_rfl) (fun _ _ _ h => h) (fun oi h => by cases h; exact Or.inl ⟨by rfl, fun w' hS' => by have h9 : ¬ ((len0 : Int) + 1 ≤ (b : Int)) := (by omega); go_simp⟩) hHeld ?_
              try simp only [Act.put, List.setIfInBounds_toArray, List.set_cons_zero, List.set_cons_succ]
              refine take_d 11 (some 117) (.string (txT z0 b)) rfl (by kernel_rfl) (by kernel_rfl) (by kernel_rfl) (fun _ _ _ h => h) (fun oi h => by cases h; exact Or.inl ⟨by rfl, fun w' hS' => by have c := TxAt.cell (hS'.1) (show b < len0 + 1 by omega); go_simp⟩) hHeld ?_
              try simp only [Act.put, List.setIfInBounds_toArray, List.set_cons_zero, List.set_cons_succ]
              refine take_d 12 (some 118) (.int .i64 ((txT z0 b).size : Int)) rfl (by kernel_rfl) (by kernel_rfl) (by kernel_rfl) (fun _ _ _ h => h) (fun oi h => by cases h; exact Or.inl ⟨by rfl, fun w' hS' => by go_simp⟩) hHeld ?_
              try simp only [Act.put, List.setIfInBounds_toArray, List.set_cons_zero, List.set_cons_succ]
              refine take_d 13 (some 119) (.string d) rfl (by kernel_rfl) (by kernel_rfl) (by kernel_rfl) (fun _ _ _ h => h) (fun oi h => by cases h; exact Or.inl ⟨by rfl, fun w' hS' => by go_simp⟩) hHeld ?_
              try simp only [Act.put, List.setIfInBounds_toArray, List.set_cons_zero, List.set_cons_succ]
              refine take_d 14 (some 120) (.agg #[.int .u64 (b : Int), .int .u64 (to : Int), .int .u64 0, .int .u64 (b : Int), .string d]) rfl (by kernel_rfl) (by kernel_rfl) (by kernel_rfl) (fun _ _ _ h => h) (fun oi h => by cases h; exact Or.inl ⟨by rfl, fun w' hS' => by go_simp⟩) hHeld ?_
              try simp only [Act.put, List.setIfInBounds_toArray, List.set_cons_zero, List.set_cons_succ]
              refine one_d 0 (some 106) rfl (by kernel_rfl) ?_
              intro o ho1 hd K hK
              cases ho1
              refine step_load_row rfl 30 (.tmp 10) rfl (p10) rfl _ ([.func (.func 18) #[] #[], .slice (some ⟨g, 0, none⟩) (n + 1) cap]) _ x10 Try.underlying30 rfl infoRv ?_
              refine hK.out _ _ hHeld (fun hHeld => ?_)
              clear hK K hd
              try simp only [Act.put, List.setIfInBounds_toArray, List.set_cons_zero, List.set_cons_succ]
              refine one_d 15 (some 121) rfl (by kernel_rfl) ?_
              intro o ho1 hd K hK
              cases ho1
              go_simp
              refine (CT.out b to n g cap p10 d L _ HS40 HL h7 HF hds hcp x10 H0).mono ?_
              rintro e v204 ⟨L2, last, code, m, g2, cap2, rfl, hT, hM, hm7, hg2, H2, hcp2, bb0⟩
              replace x10 := x10.below bb0 x10.lt
              replace H0 := H0.keep bb0
              refine hK.out _ _ (⟨hHeld.1.keep bb0, hHeld.2.trans (bb0.mono hHeld.2.size)⟩) (fun hHeld => ?_)
              clear bb0
              clear hK K hd
              try simp only [Act.put, List.setIfInBounds_toArray, List.set_cons_zero, List.set_cons_succ]
              refine take_d 16 (some 105) (.tuple #[.agg #[.func (.func 18) #[] #[], .slice (some ⟨g2, 0, none⟩) (m + 1) cap2], .bool last, .int .i64 ((code : Nat) : Int)]) rfl (by kernel_rfl) (by kernel_rfl) (by kernel_rfl) (fun _ _ _ h => h) (fun oi h => by cases h; exact Or.inl ⟨by rfl, fun w' hS' => by go_simp⟩) hHeld ?_
              try simp only [Act.put, List.setIfInBounds_toArray, List.set_cons_zero, List.set_cons_succ]
              refine take_d 17 (some 122) (.agg #[.func (.func 18) #[] #[], .slice (some ⟨g2, 0, none⟩) (m + 1) cap2]) rfl (by kernel_rfl) (by kernel_rfl) (by kernel_rfl) (fun _ _ _ h => h) (fun oi h => by cases h; exact Or.inl ⟨by rfl, fun w' hS' => by go_simp⟩) hHeld ?_
              try simp only [Act.put, List.setIfInBounds_toArray, List.set_cons_zero, List.set_cons_succ]
              refine take_d 18 (some 123) (.bool last) rfl (by kernel_rfl) (by kernel_rfl) (by kernel_rfl) (fun _ _ _ h => h) (fun oi h => by cases h; exact Or.inl ⟨by rfl, fun w' hS' => by go_simp⟩) hHeld ?_
              try simp only [Act.put, List.setIfInBounds_toArray, List.set_cons_zero, List.set_cons_succ]
              refine take_d 19 (some 124) (.int .i64 ((code : Nat) : Int)) rfl (by kernel_rfl) (by kernel_rfl) (by kernel_rfl) (fun _ _ _ h => h) (fun oi h => by cases h; exact Or.inl ⟨by rfl, fun w' hS' => by go_simp⟩) hHeld ?_
              try simp only [Act.put, List.setIfInBounds_toArray, List.set_cons_zero, List.set_cons_succ]
              refine one_d 20 none rfl (by kernel_rfl) ?_
              intro o ho1 hd K hK
              cases ho1
              refine step_store_row rfl 30 (.tmp 10) (.tmp 122) rfl (p10) ([.func (.func 18) #[] #[], .slice (some ⟨g2, 0, none⟩) (m + 1) cap2]) rfl rfl _ _ x10 infoRv rfl (by simp [Value.oneCell']) ?_
              rw [hd]
              replace x10 := x10.setRow ([.func (.func 18) #[] #[], .slice (some ⟨g2, 0, none⟩) (m + 1) cap2])
              replace H0 := H0.setRow (k := (p10)) (by omega) (List.toArray ([.func (.func 18) #[] #[], .slice (some ⟨g2, 0, none⟩) (m + 1) cap2]))
              replace H2 := H2.setRow (k := (p10)) (by omega) (List.toArray ([.func (.func 18) #[] #[], .slice (some ⟨g2, 0, none⟩) (m + 1) cap2]))
              have hH : R16.TxAt (v204.setRow p10 (List.toArray ([.func (.func 18) #[] #[], .slice (some ⟨g2, 0, none⟩) (m + 1) cap2]))) gt (len0 + 1) z0 ∧ Below w.heap.size w (v204.setRow p10 (List.toArray ([.func (.func 18) #[] #[], .slice (some ⟨g2, 0, none⟩) (m + 1) cap2]))) := ⟨hHeld.1.setRow (k := (p10)) (by omega) (List.toArray ([.func (.func 18) #[] #[], .slice (some ⟨g2, 0, none⟩) (m + 1) cap2])), below_row hHeld.2 (show _ ≤ p10 by omega) (List.toArray ([.func (.func 18) #[] #[], .slice (some ⟨g2, 0, none⟩) (m + 1) cap2]))⟩
              clear hHeld
              generalize v204.setRow p10 (List.toArray ([.func (.func 18) #[] #[], .slice (some ⟨g2, 0, none⟩) (m + 1) cap2])) = v205 at *
              refine hK.out _ _ hH (fun hHeld => ?_)
              clear hH
              clear hK K hd
              try simp only [Act.put]
              refine wpAnyH_done (by kernel_rfl) ?_ _
              try simp only [Act.put]
              replace HT := hHeld.1
              replace bb := hHeld.2
              clear hHeld
              obtain ⟨q2, hq2⟩ : ∃ q, L2[m]? = some q := ⟨L2[m]'(by rw [hM.out]; omega), List.getElem?_eq_getElem (by rw [hM.out]; omega)⟩
              have hrise := Tk.rise hT.out HF.out.up HL.out hM.out HQ1.out hq2
              have e132 : ¬ (q2.num : Int) < (q1.num : Int) := by omega
              have HF2 : Hid (Fw (txT z0) len0 b L2) := HF.out.take hT.out hbt hb7 htoN HD.out
              obtain ⟨hb1', hb2', hb3'⟩ := HF2.out.base hM.out hq2
              have HF3 := Lib.hid hb1'
              have HQ2 := Lib.hid hq2
              clear hb1' hq2 hT HD hd1 hd3 hd4 hd5 hd0 hrise hds e99 hts hbs HQ1 HF HL
              clear H0
              have tok206 : True := True.intro
              go_wp2_with (first | (refine at_op (.load 30 (.tmp 10)) (by with_reducible rfl) ?_; clear tok206; refine wpList_load_row rfl 30 (.tmp 10) rfl (p10) rfl _ _ _ _ x10 Try.underlying30 rfl infoRv ?_))
              refine (CLt.out m g2 cap2 L2 q2 _ hM hm7 HQ2 H2).mono ?_
              rintro e wa207 ⟨rfl, bwa207⟩
              replace x10 := x10.below bwa207 x10.lt
              replace HT := HT.keep bwa207
              replace H2 := H2.keep bwa207
              replace bb := bb.trans (bwa207.mono bb.size)
              clear bwa207
              have tok208 : True := True.intro
              go_wp2_with (first | (refine at_op (.load 30 (.tmp 10)) (by with_reducible rfl) ?_; clear tok208; refine wpList_load_row rfl 30 (.tmp 10) rfl (p10) rfl _ _ _ _ x10 Try.underlying30 rfl infoRv ?_))
              refine (CU.out m g2 cap2 L2 _ hM hm7 H2).mono ?_
              rintro e wa209 ⟨gn, rfl, N2, bwa209⟩
              replace x10 := x10.below bwa209 x10.lt
              replace HT := HT.keep bwa209
              replace H2 := H2.keep bwa209
              replace bb := bb.trans (bwa209.mono bb.size)
              clear bwa209
              clear e132
              go_wp2
              go_loopw [136] (fun kv wr => ∃ k : Nat, k ≤ m + 1 ∧ kv = .int .i64 (k : Int) ∧ Row wr p10 30 [.func (.func 18) #[] #[], .slice (some ⟨g2, 0, none⟩) (m + 1) cap2] ∧ CmAt wr g2 0 L2 ∧ TxAt wr gt (len0 + 1) z0 ∧ NumAt wr gn m L2 ∧ Below w.heap.size w wr) (fun kv _ => m + 1 - (intOf kv).toNat)
              case atStart => exact ⟨0, Nat.zero_le _, rfl, x10, H2, HT, N2, bb⟩
              case round =>
                clear x10 H2 HT N2 bb
                obtain ⟨k, hk, rfl, x10, H2, HT, N2, bb⟩ := hrel
                by_cases hkm : k < m + 1
                · have hks : (k : Int) < ((m + 1 : Nat) : Int) := by omega
                  obtain ⟨q, hq⟩ : ∃ q, L2[k]? = some q := ⟨L2[k]'(by rw [hM.out]; exact hkm), List.getElem?_eq_getElem (by rw [hM.out]; exact hkm)⟩
                  have c138 := NumAt.cell N2 hM.out hq
                  have hqN := (HF2.out.own k q hq).1
                  have HQ := Lib.hid hq
                  clear hq
                  have hqs : (q.num : Int) < ((len0 + 1 : Nat) : Int) := by omega
                  have tok301 : True := True.intro
                  go_wp2_with (first | (refine at_op (.load 30 (.tmp 10)) (by with_reducible rfl) ?_; clear tok301; refine wpList_load_row rfl 30 (.tmp 10) rfl (p10) rfl _ _ _ _ x10 Try.underlying30 rfl infoRv ?_))
                  clear c138
                  refine (CO.out b m g2 cap2 k L2 q _ hM hm7 HF2 HQ H2).mono ?_
                  rintro e wa302 ⟨rfl, bwa302⟩
                  replace x10 := x10.below bwa302 x10.lt
                  replace H2 := H2.keep bwa302
                  replace HT := HT.keep bwa302
                  replace N2 := N2.keep bwa302
                  replace bb := bb.trans (bwa302.mono bb.size)
                  clear bwa302
                  have c152 := TxAt.cell HT (show q.num < len0 + 1 by omega)
                  go_wp2
                  go_roundw
                  case rel => exact ⟨k + 1, by omega, by go_num, x10, H2, HT, N2, bb⟩
                  case measure => simp [intOf]; omega
                · obtain rfl : k = m + 1 := by omega
                  clear N2
                  go_wp2
                  · go_roundw
                    case rel => exact ⟨i + 1, q2.num, m, g2, cap2, L2, by omega, by go_num, rfl, hb3', hm7, hcp2, hM, HF3, hg2, x10, H2, HT, bb⟩
                    case measure => simp [intOf]; omega
                  · go_roundw
                    case rel => exact ⟨i + 1, b, m, g2, cap2, L2, by omega, by go_num, rfl, hbN, hm7, hcp2, hM, HF2, hg2, x10, H2, HT, bb⟩
                    case measure => simp [intOf]; omega
            · have e99 : (len0 : Int) < (to : Int) := by omega
              clear hbt hb7
              have k1 : IntKind.u64.wrap (len0 : Int) = (len0 : Int) := by rw [IntKind.wrap_u64]; omega
              have hbs : (b : Int) < ((len0 + 1 : Nat) : Int) := by omega
              have hts : (len0 : Int) < ((len0 + 1 : Nat) : Int) := by omega
              obtain ⟨d, hd1, hd2, hd3, hd4, hd5⟩ := txT_cut z0 HBG.out hbN (Nat.le_refl _)
              have hds : d.size ≤ 900 := by have := txT_size HS40.out len0 (Nat.le_refl _); omega
              have HD := Lib.hid hd2
              have hd0 : ((txT z0 b).size : Int) ≤ ((txT z0 len0).size : Int) := by omega
              clear hd2
              go_wp2
              refine wp_region_held_drew (S := fun w' => R16.TxAt w' gt (len0 + 1) z0 ∧ Below w.heap.size w w') (by kernel_rfl) (⟨HT.drew, bb.drew⟩) (fun hHeld => ?_)
              replace x10 := x10.drew
              replace H0 := H0.drew
              generalize wr.drew = wd701 at *
              refine take_d 1 (some 170) (.int .u64 (b : Int)) rfl (by kernel_rfl) (by kernel_rfl) (by kernel_rfl) (fun _ _ _ h => h) (fun oi h => by cases h; exact Or.inl ⟨by rfl, fun w' hS' => by go_simp⟩) hHeld ?_
              try simp only [Act.put, List.setIfInBounds_toArray, List.set_cons_zero, List.set_cons_succ]
              refine take_d 2 (some 171) (.int .u64 (len0 : Int)) rfl (by kernel_rfl) (by kernel_rfl) (by kernel_rfl) (fun _ _ _ h => h) (fun oi h => by cases h; exact Or.inl ⟨by rfl, fun w' hS' => by go_simp⟩) hHeld ?_
              try simp only [Act.put, List.setIfInBounds_toArray, List.set_cons_zero, List.set_cons_succ]
              refine take_d 3 (some 172) (.int .u64 (b : Int)) rfl (by kernel_rfl) (by kernel_rfl) (by kernel_rfl) (fun _ _ _ h => h) (fun oi h => by cases h; exact Or.inl ⟨by rfl, fun w' hS' => by go_simp⟩) hHeld ?_
              try simp only [Act.put, List.setIfInBounds_toArray, List.set_cons_zero, List.set_cons_succ]
              refine take_d 4 (some 173) (.slice (some ⟨gt, 0, none⟩) (len0 + 1) capt) rfl (by kernel_rfl) (by kernel_rfl) (by kernel_rfl) (fun _ _ _ h => h) (fun oi h => by cases h; exact Or.inl ⟨by rfl, fun w' hS' => by go_simp⟩) hHeld ?_
              try simp only [Act.put, List.setIfInBounds_toArray, List.set_cons_zero, List.set_cons_succ]
              refine take_d 5 (some 174) (.int .u64 (len0 : Int)) rfl (by kernel_rfl) (by kernel_rfl) (by kernel_rfl) (fun _ _ _ h => h) (fun oi h => by cases h; exact Or.inl ⟨by rfl, fun w' hS' => by go_simp⟩) hHeld ?_
              try simp only [Act.put, List.setIfInBounds_toArray, List.set_cons_zero, List.set_cons_succ]
              refine take_d 6 (some 175) (.pointer (some ⟨gt, len0, none⟩)) rfl (by kernel_rfl) (by kernel_rfl) (by kernel_rfl) (fun _ _ _ h => h) (fun oi h => by cases h; exact Or.inl ⟨by rfl, fun w' hS' => by have h9 : ¬ ((len0 : Int) + 1 ≤ (len0 : Int)) := (by omega); go_simp⟩) hHeld ?_
              try simp only [Act.put, List.setIfInBounds_toArray, List.set_cons_zero, List.set_cons_succ]
              refine take_d 7 (some 176) (.string (txT z0 len0)) rfl (by kernel_rfl) (by kernel_rfl) (by kernel_rfl) (fun _ _ _ h => h) (fun oi h => by cases h; exact Or.inl ⟨by rfl, fun w' hS' => by have c := TxAt.cell (hS'.1) (show len0 < len0 + 1 by omega); go_simp⟩) hHeld ?_
              try simp only [Act.put, List.setIfInBounds_toArray, List.set_cons_zero, List.set_cons_succ]
              refine take_d 8 (some 177) (.slice (some ⟨gt, 0, none⟩) (len0 + 1) capt) rfl (by kernel_rfl) (by kernel_rfl) (by kernel_rfl) (fun _ _ _ h => h) (fun oi h => by cases h; exact Or.inl ⟨by rfl, fun w' hS' => by go_simp⟩) hHeld ?_
              try simp only [Act.put, List.setIfInBounds_toArray, List.set_cons_zero, List.set_cons_succ]
              refine take_d 9 (some 178) (.int .u64 (b : Int)) rfl (by kernel_rfl) (by kernel_rfl) (by kernel_rfl) (fun _ _ _ h => h) (fun oi h => by cases h; exact Or.inl ⟨by rfl, fun w' hS' => by go_simp⟩) hHeld ?_
              try simp only [Act.put, List.setIfInBounds_toArray, List.set_cons_zero, List.set_cons_succ]
              refine take_d 10 (some 179) (.pointer (some ⟨gt, b, none⟩)) rfl (by kernel_rfl) (by kernel_rfl) (by kernel_rfl) (fun _ _ _ h => h) (fun oi h => by cases h; exact Or.inl ⟨by rfl, fun w' hS' => by have h9 : ¬ ((len0 : Int) + 1 ≤ (b : Int)) := (by omega); go_simp⟩) hHeld ?_
              try simp only [Act.put, List.setIfInBounds_toArray, List.set_cons_zero, List.set_cons_succ]
              refine take_d 11 (some 180) (.string (txT z0 b)) rfl (by kernel_rfl) (by kernel_rfl) (by kernel_rfl) (fun _ _ _ h => h) (fun oi h => by cases h; exact Or.inl ⟨by rfl, fun w' hS' => by have c := TxAt.cell (hS'.1) (show b < len0 + 1 by omega); go_simp⟩) hHeld ?_
              try simp only [Act.put, List.setIfInBounds_toArray, List.set_cons_zero, List.set_cons_succ]
              refine take_d 12 (some 181) (.int .i64 ((txT z0 b).size : Int)) rfl (by kernel_rfl) (by kernel_rfl) (by kernel_rfl) (fun _ _ _ h => h) (fun oi h => by cases h; exact Or.inl ⟨by rfl, fun w' hS' => by go_simp⟩) hHeld ?_
              try simp only [Act.put, List.setIfInBounds_toArray, List.set_cons_zero, List.set_cons_succ]
              refine take_d 13 (some 182) (.string d) rfl (by kernel_rfl) (by kernel_rfl) (by kernel_rfl) (fun _ _ _ h => h) (fun oi h => by cases h; exact Or.inl ⟨by rfl, fun w' hS' => by go_simp⟩) hHeld ?_
              try simp only [Act.put, List.setIfInBounds_toArray, List.set_cons_zero, List.set_cons_succ]
              refine take_d 14 (some 183) (.agg #[.int .u64 (b : Int), .int .u64 (len0 : Int), .int .u64 0, .int .u64 (b : Int), .string d]) rfl (by kernel_rfl) (by kernel_rfl) (by kernel_rfl) (fun _ _ _ h => h) (fun oi h => by cases h; exact Or.inl ⟨by rfl, fun w' hS' => by go_simp⟩) hHeld ?_
              try simp only [Act.put, List.setIfInBounds_toArray, List.set_cons_zero, List.set_cons_succ]
              refine one_d 0 (some 169) rfl (by kernel_rfl) ?_
              intro o ho1 hd K hK
              cases ho1
              refine step_load_row rfl 30 (.tmp 10) rfl (p10) rfl _ ([.func (.func 18) #[] #[], .slice (some ⟨g, 0, none⟩) (n + 1) cap]) _ x10 Try.underlying30 rfl infoRv ?_
              refine hK.out _ _ hHeld (fun hHeld => ?_)
              clear hK K hd
              try simp only [Act.put, List.setIfInBounds_toArray, List.set_cons_zero, List.set_cons_succ]
              refine one_d 15 (some 184) rfl (by kernel_rfl) ?_
              intro o ho1 hd K hK
              cases ho1
              go_simp
              refine (CT.out b len0 n g cap p10 d L _ HS40 HL h7 HF hds hcp x10 H0).mono ?_
              rintro e v702 ⟨L2, last, code, m, g2, cap2, rfl, hT, hM, hm7, hg2, H2, hcp2, bb0⟩
              replace x10 := x10.below bb0 x10.lt
              replace H0 := H0.keep bb0
              refine hK.out _ _ (⟨hHeld.1.keep bb0, hHeld.2.trans (bb0.mono hHeld.2.size)⟩) (fun hHeld => ?_)
              clear bb0
              clear hK K hd
              try simp only [Act.put, List.setIfInBounds_toArray, List.set_cons_zero, List.set_cons_succ]
              refine take_d 16 (some 168) (.tuple #[.agg #[.func (.func 18) #[] #[], .slice (some ⟨g2, 0, none⟩) (m + 1) cap2], .bool last, .int .i64 ((code : Nat) : Int)]) rfl (by kernel_rfl) (by kernel_rfl) (by kernel_rfl) (fun _ _ _ h => h) (fun oi h => by cases h; exact Or.inl ⟨by rfl, fun w' hS' => by go_simp⟩) hHeld ?_
              try simp only [Act.put, List.setIfInBounds_toArray, List.set_cons_zero, List.set_cons_succ]
              refine take_d 17 (some 185) (.agg #[.func (.func 18) #[] #[], .slice (some ⟨g2, 0, none⟩) (m + 1) cap2]) rfl (by kernel_rfl) (by kernel_rfl) (by kernel_rfl) (fun _ _ _ h => h) (fun oi h => by cases h; exact Or.inl ⟨by rfl, fun w' hS' => by go_simp⟩) hHeld ?_
              try simp only [Act.put, List.setIfInBounds_toArray, List.set_cons_zero, List.set_cons_succ]
              refine take_d 18 (some 186) (.bool last) rfl (by kernel_rfl) (by kernel_rfl) (by kernel_rfl) (fun _ _ _ h => h) (fun oi h => by cases h; exact Or.inl ⟨by rfl, fun w' hS' => by go_simp⟩) hHeld ?_
              try simp only [Act.put, List.setIfInBounds_toArray, List.set_cons_zero, List.set_cons_succ]
              refine take_d 19 (some 187) (.int .i64 ((code : Nat) : Int)) rfl (by kernel_rfl) (by kernel_rfl) (by kernel_rfl) (fun _ _ _ h => h) (fun oi h => by cases h; exact Or.inl ⟨by rfl, fun w' hS' => by go_simp⟩) hHeld ?_
              try simp only [Act.put, List.setIfInBounds_toArray, List.set_cons_zero, List.set_cons_succ]
              refine one_d 20 none rfl (by kernel_rfl) ?_
              intro o ho1 hd K hK
              cases ho1
              refine step_store_row rfl 30 (.tmp 10) (.tmp 185) rfl (p10) ([.func (.func 18) #[] #[], .slice (some ⟨g2, 0, none⟩) (m + 1) cap2]) rfl rfl _ _ x10 infoRv rfl (by simp [Value.oneCell']) ?_
              rw [hd]
              replace x10 := x10.setRow ([.func (.func 18) #[] #[], .slice (some ⟨g2, 0, none⟩) (m + 1) cap2])
              replace H0 := H0.setRow (k := (p10)) (by omega) (List.toArray ([.func (.func 18) #[] #[], .slice (some ⟨g2, 0, none⟩) (m + 1) cap2]))
              replace H2 := H2.setRow (k := (p10)) (by omega) (List.toArray ([.func (.func 18) #[] #[], .slice (some ⟨g2, 0, none⟩) (m + 1) cap2]))
              have hH : R16.TxAt (v702.setRow p10 (List.toArray ([.func (.func 18) #[] #[], .slice (some ⟨g2, 0, none⟩) (m + 1) cap2]))) gt (len0 + 1) z0 ∧ Below w.heap.size w (v702.setRow p10 (List.toArray ([.func (.func 18) #[] #[], .slice (some ⟨g2, 0, none⟩) (m + 1) cap2]))) := ⟨hHeld.1.setRow (k := (p10)) (by omega) (List.toArray ([.func (.func 18) #[] #[], .slice (some ⟨g2, 0, none⟩) (m + 1) cap2])), below_row hHeld.2 (show _ ≤ p10 by omega) (List.toArray ([.func (.func 18) #[] #[], .slice (some ⟨g2, 0, none⟩) (m + 1) cap2]))⟩
              clear hHeld
              generalize v702.setRow p10 (List.toArray ([.func (.func 18) #[] #[], .slice (some ⟨g2, 0, none⟩) (m + 1) cap2])) = v703 at *
              refine hK.out _ _ hH (fun hHeld => ?_)
              clear hH
              clear hK K hd
              try simp only [Act.put]
              refine wpAnyH_done (by kernel_rfl) ?_ _
              try simp only [Act.put]
              replace HT := hHeld.1
              replace bb := hHeld.2
              clear hHeld
              obtain ⟨q, hq⟩ : ∃ q, L2[m]? = some q := ⟨L2[m]'(by rw [hM.out]; omega), List.getElem?_eq_getElem (by rw [hM.out]; omega)⟩
              have hfin := HF.out.final hT.out hbN HD.out hd5 hM.out hq
              have HQ := Lib.hid hq
              obtain ⟨hf1, hf2⟩ := hfin
              have HF1 := Lib.hid hf1
              have HF2 := Lib.hid hf2
              clear hq hf1 hf2 hT HD hd1 hd3 hd4 hd5 hd0
              have tok704 : True := True.intro
              go_wp2_with (first | (refine at_op (.load 30 (.tmp 10)) (by with_reducible rfl) ?_; clear tok704; refine wpList_load_row rfl 30 (.tmp 10) rfl (p10) rfl _ _ _ _ x10 Try.underlying30 rfl infoRv ?_))
              refine (CLt.out m g2 cap2 L2 q _ hM hm7 HQ H2).mono ?_
              rintro e wa705 ⟨rfl, bwa705⟩
              replace x10 := x10.below bwa705 x10.lt
              replace H0 := H0.keep bwa705
              replace HT := HT.keep bwa705
              replace H2 := H2.keep bwa705
              replace bb := bb.trans (bwa705.mono bb.size)
              clear bwa705
              rw [HF1.out, HF2.out]
              have c201 := TxAt.cell HT (Nat.lt_succ_self len0)
              go_wp2
              go_ret
              exact ⟨rfl, bb⟩
          · obtain rfl : len1 = i := by omega
            have k1 : IntKind.u64.wrap (len0 : Int) = (len0 : Int) := by rw [IntKind.wrap_u64]; omega
            have hbs : (b : Int) < ((len0 + 1 : Nat) : Int) := by omega
            have hts : (len0 : Int) < ((len0 + 1 : Nat) : Int) := by omega
            obtain ⟨d, hd1, hd2, hd3, hd4, hd5⟩ := txT_cut z0 HBG.out hbN (Nat.le_refl _)
            have hds : d.size ≤ 900 := by have := txT_size HS40.out len0 (Nat.le_refl _); omega
            have HD := Lib.hid hd2
            have hd0 : ((txT z0 b).size : Int) ≤ ((txT z0 len0).size : Int) := by omega
            clear hd2
            go_wp2
            refine wp_region_held_drew (S := fun w' => R16.TxAt w' gt (len0 + 1) z0 ∧ Below w.heap.size w w') (by kernel_rfl) (⟨HT.drew, bb.drew⟩) (fun hHeld => ?_)
            replace x10 := x10.drew
            replace H0 := H0.drew
            generalize wr.drew = wd701 at *
            refine take_d 1 (some 170) (.int .u64 (b : Int)) rfl (by kernel_rfl) (by kernel_rfl) (by kernel_rfl) (fun _ _ _ h => h) (fun oi h => by cases h; exact Or.inl ⟨by rfl, fun w' hS' => by go_simp⟩) hHeld ?_
            try simp only [Act.put, List.setIfInBounds_toArray, List.set_cons_zero, List.set_cons_succ]
            refine take_d 2 (some 171) (.int .u64 (len0 : Int)) rfl (by kernel_rfl) (by kernel_rfl) (by kernel_rfl) (fun _ _ _ h => h) (fun oi h => by cases h; exact Or.inl ⟨by rfl, fun w' hS' => by go_simp⟩) hHeld ?_
            try simp only [Act.put, List.setIfInBounds_toArray, List.set_cons_zero, List.set_cons_succ]
            refine take_d 3 (some 172) (.int .u64 (b : Int)) rfl (by kernel_rfl) (by kernel_rfl) (by kernel_rfl) (fun _ _ _ h => h) (fun oi h => by cases h; exact Or.inl ⟨by rfl, fun w' hS' => by go_simp⟩) hHeld ?_
            try simp only [Act.put, List.setIfInBounds_toArray, List.set_cons_zero, List.set_cons_succ]
            refine take_d 4 (some 173) (.slice (some ⟨gt, 0, none⟩) (len0 + 1) capt) rfl (by kernel_rfl) (by kernel_rfl) (by kernel_rfl) (fun _ _ _ h => h) (fun oi h => by cases h; exact Or.inl ⟨by rfl, fun w' hS' => by go_simp⟩) hHeld ?_
            try simp only [Act.put, List.setIfInBounds_toArray, List.set_cons_zero, List.set_cons_succ]
            refine take_d 5 (some 174) (.int .u64 (len0 : Int)) rfl (by kernel_rfl) (by kernel_rfl) (by kernel_rfl) (fun _ _ _ h => h) (fun oi h => by cases h; exact Or.inl ⟨by rfl, fun w' hS' => by go_simp⟩) hHeld ?_
            try simp only [Act.put, List.setIfInBounds_toArray, List.set_cons_zero, List.set_cons_succ]
            refine take_d 6 (some 175) (.pointer (some ⟨gt, len0, none⟩)) rfl (by kernel_rfl) (by kernel_rfl) (by kernel_rfl) (fun _ _ _ h => h) (fun oi h => by cases h; exact Or.inl ⟨by rfl, fun w' hS' => by have h9 : ¬ ((len0 : Int) + 1 ≤ (len0 : Int)) := (by omega); go_simp⟩) hHeld ?_
            try simp only [Act.put, List.setIfInBounds_toArray, List.set_cons_zero, List.set_cons_succ]
            refine take_d 7 (some 176) (.string (txT z0 len0)) rfl (by kernel_rfl) (by kernel_rfl) (by kernel_rfl) (fun _ _ _ h => h) (fun oi h => by cases h; exact Or.inl ⟨by rfl, fun w' hS' => by have c := TxAt.cell (hS'.1) (show len0 < len0 + 1 by omega); go_simp⟩) hHeld ?_
            try simp only [Act.put, List.setIfInBounds_toArray, List.set_cons_zero, List.set_cons_succ]
            refine take_d 8 (some 177) (.slice (some ⟨gt, 0, none⟩) (len0 + 1) capt) rfl (by kernel_rfl) (by kernel_rfl) (by kernel_rfl) (fun _ _ _ h => h) (fun oi h => by cases h; exact Or.inl ⟨by rfl, fun w' hS' => by go_simp⟩) hHeld ?_
            try simp only [Act.put, List.setIfInBounds_toArray, List.set_cons_zero, List.set_cons_succ]
            refine take_d 9 (some 178) (.int .u64 (b : Int)) rfl (by kernel_rfl) (by kernel_rfl) (by kernel_rfl) (fun _ _ _ h => h) (fun oi h => by cases h; exact Or.inl ⟨by rfl, fun w' hS' => by go_simp⟩) hHeld ?_
            try simp only [Act.put, List.setIfInBounds_toArray, List.set_cons_zero, List.set_cons_succ]
            refine take_d 10 (some 179) (.pointer (some ⟨gt, b, none⟩)) rfl (by kernel_rfl) (by kernel_rfl) (by kernel_rfl) (fun _ _ _ h => h) (fun oi h => by cases h; exact Or.inl ⟨by rfl, fun w' hS' => by have h9 : ¬ ((len0 : Int) + 1 ≤ (b : Int)) := (by omega); go_simp⟩) hHeld ?_
            try simp only [Act.put, List.setIfInBounds_toArray, List.set_cons_zero, List.set_cons_succ]
            refine take_d 11 (some 180) (.string (txT z0 b)) rfl (by kernel_rfl) (by kernel_rfl) (by kernel_rfl) (fun _ _ _ h => h) (fun oi h => by cases h; exact Or.inl ⟨by rfl, fun w' hS' => by have c := TxAt.cell (hS'.1) (show b < len0 + 1 by omega); go_simp⟩) hHeld ?_
            try simp only [Act.put, List.setIfInBounds_toArray, List.set_cons_zero, List.set_cons_succ]
            refine take_d 12 (some 181) (.int .i64 ((txT z0 b).size : Int)) rfl (by kernel_rfl) (by kernel_rfl) (by kernel_rfl) (fun _ _ _ h => h) (fun oi h => by cases h; exact Or.inl ⟨by rfl, fun w' hS' => by go_simp⟩) hHeld ?_
            try simp only [Act.put, List.setIfInBounds_toArray, List.set_cons_zero, List.set_cons_succ]
            refine take_d 13 (some 182) (.string d) rfl (by kernel_rfl) (by kernel_rfl) (by kernel_rfl) (fun _ _ _ h => h) (fun oi h => by cases h; exact Or.inl ⟨by rfl, fun w' hS' => by go_simp⟩) hHeld ?_
            try simp only [Act.put, List.setIfInBounds_toArray, List.set_cons_zero, List.set_cons_succ]
            refine take_d 14 (some 183) (.agg #[.int .u64 (b : Int), .int .u64 (len0 : Int), .int .u64 0, .int .u64 (b : Int), .string d]) rfl (by kernel_rfl) (by kernel_rfl) (by kernel_rfl) (fun _ _ _ h => h) (fun oi h => by cases h; exact Or.inl ⟨by rfl, fun w' hS' => by go_simp⟩) hHeld ?_
            try simp only [Act.put, List.setIfInBounds_toArray, List.set_cons_zero, List.set_cons_succ]
            refine one_d 0 (some 169) rfl (by kernel_rfl) ?_
            intro o ho1 hd K hK
            cases ho1
            refine step_load_row rfl 30 (.tmp 10) rfl (p10) rfl _ ([.func (.func 18) #[] #[], .slice (some ⟨g, 0, none⟩) (n + 1) cap]) _ x10 Try.underlying30 rfl infoRv ?_
            refine hK.out _ _ hHeld (fun hHeld => ?_)
            clear hK K hd
            try simp only [Act.put, List.setIfInBounds_toArray, List.set_cons_zero, List.set_cons_succ]
            refine one_d 15 (some 184) rfl (by kernel_rfl) ?_
            intro o ho1 hd K hK
            cases ho1
            go_simp
            refine (CT.out b len0 n g cap p10 d L _ HS40 HL h7 HF hds hcp x10 H0).mono ?_
            rintro e v702 ⟨L2, last, code, m, g2, cap2, rfl, hT, hM, hm7, hg2, H2, hcp2, bb0⟩
            replace x10 := x10.below bb0 x10.lt
            replace H0 := H0.keep bb0
            refine hK.out _ _ (⟨hHeld.1.keep bb0, hHeld.2.trans (bb0.mono hHeld.2.size)⟩) (fun hHeld => ?_)
            clear bb0
            clear hK K hd
            try simp only [Act.put, List.setIfInBounds_toArray, List.set_cons_zero, List.set_cons_succ]
            refine take_d 16 (some 168) (.tuple #[.agg #[.func (.func 18) #[] #[], .slice (some ⟨g2, 0, none⟩) (m + 1) cap2], .bool last, .int .i64 ((code : Nat) : Int)]) rfl (by kernel_rfl) (by kernel_rfl) (by kernel_rfl) (fun _ _ _ h => h) (fun oi h => by cases h; exact Or.inl ⟨by rfl, fun w' hS' => by go_simp⟩) hHeld ?_
            try simp only [Act.put, List.setIfInBounds_toArray, List.set_cons_zero, List.set_cons_succ]
            refine take_d 17 (some 185) (.agg #[.func (.func 18) #[] #[], .slice (some ⟨g2, 0, none⟩) (m + 1) cap2]) rfl (by kernel_rfl) (by kernel_rfl) (by kernel_rfl) (fun _ _ _ h => h) (fun oi h => by cases h; exact Or.inl ⟨by rfl, fun w' hS' => by go_simp⟩) hHeld ?_
            try simp only [Act.put, List.setIfInBounds_toArray, List.set_cons_zero, List.set_cons_succ]
            refine take_d 18 (some 186) (.bool last) rfl (by kernel_rfl) (by kernel_rfl) (by kernel_rfl) (fun _ _ _ h => h) (fun oi h => by cases h; exact Or.inl ⟨by rfl, fun w' hS' => by go_simp⟩) hHeld ?_
            try simp only [Act.put, List.setIfInBounds_toArray, List.set_cons_zero, List.set_cons_succ]
            refine take_d 19 (some 187) (.int .i64 ((code : Nat) : Int)) rfl (by kernel_rfl) (by kernel_rfl) (by kernel_rfl) (fun _ _ _ h => h) (fun oi h => by cases h; exact Or.inl ⟨by rfl, fun w' hS' => by go_simp⟩) hHeld ?_
            try simp only [Act.put, List.setIfInBounds_toArray, List.set_cons_zero, List.set_cons_succ]
            refine one_d 20 none rfl (by kernel_rfl) ?_
            intro o ho1 hd K hK
            cases ho1
            refine step_store_row rfl 30 (.tmp 10) (.tmp 185) rfl (p10) ([.func (.func 18) #[] #[], .slice (some ⟨g2, 0, none⟩) (m + 1) cap2]) rfl rfl _ _ x10 infoRv rfl (by simp [Value.oneCell']) ?_
            rw [hd]
            replace x10 := x10.setRow ([.func (.func 18) #[] #[], .slice (some ⟨g2, 0, none⟩) (m + 1) cap2])
            replace H0 := H0.setRow (k := (p10)) (by omega) (List.toArray ([.func (.func 18) #[] #[], .slice (some ⟨g2, 0, none⟩) (m + 1) cap2]))
            replace H2 := H2.setRow (k := (p10)) (by omega) (List.toArray ([.func (.func 18) #[] #[], .slice (some ⟨g2, 0, none⟩) (m + 1) cap2]))
            have hH : R16.TxAt (v702.setRow p10 (List.toArray ([.func (.func 18) #[] #[], .slice (some ⟨g2, 0, none⟩) (m + 1) cap2]))) gt (len0 + 1) z0 ∧ Below w.heap.size w (v702.setRow p10 (List.toArray ([.func (.func 18) #[] #[], .slice (some ⟨g2, 0, none⟩) (m + 1) cap2]))) := ⟨hHeld.1.setRow (k := (p10)) (by omega) (List.toArray ([.func (.func 18) #[] #[], .slice (some ⟨g2, 0, none⟩) (m + 1) cap2])), below_row hHeld.2 (show _ ≤ p10 by omega) (List.toArray ([.func (.func 18) #[] #[], .slice (some ⟨g2, 0, none⟩) (m + 1) cap2]))⟩
            clear hHeld
            generalize v702.setRow p10 (List.toArray ([.func (.func 18) #[] #[], .slice (some ⟨g2, 0, none⟩) (m + 1) cap2])) = v703 at *
            refine hK.out _ _ hH (fun hHeld => ?_)
            clear hH
            clear hK K hd
            try simp only [Act.put]
            refine wpAnyH_done (by kernel_rfl) ?_ _
            try simp only [Act.put]
            replace HT := hHeld.1
            replace bb := hHeld.2
            clear hHeld
            obtain ⟨q, hq⟩ : ∃ q, L2[m]? = some q := ⟨L2[m]'(by rw [hM.out]; omega), List.getElem?_eq_getElem (by rw [hM.out]; omega)⟩
            have hfin := HF.out.final hT.out hbN HD.out hd5 hM.out hq
            have HQ := Lib.hid hq
            obtain ⟨hf1, hf2⟩ := hfin
            have HF1 := Lib.hid hf1
            have HF2 := Lib.hid hf2
            clear hq hf1 hf2 hT HD hd1 hd3 hd4 hd5 hd0
            have tok704 : True := True.intro
            go_wp2_with (first | (refine at_op (.load 30 (.tmp 10)) (by with_reducible rfl) ?_; clear tok704; refine wpList_load_row rfl 30 (.tmp 10) rfl (p10) rfl _ _ _ _ x10 Try.underlying30 rfl infoRv ?_))
            refine (CLt.out m g2 cap2 L2 q _ hM hm7 HQ H2).mono ?_
            rintro e wa705 ⟨rfl, bwa705⟩
            replace x10 := x10.below bwa705 x10.lt
            replace H0 := H0.keep bwa705
            replace HT := HT.keep bwa705
            replace H2 := H2.keep bwa705
            replace bb := bb.trans (bwa705.mono bb.size)
            clear bwa705
            rw [HF1.out, HF2.out]
            have c201 := TxAt.cell HT (Nat.lt_succ_self len0)
            go_wp2
            go_ret
            exact ⟨rfl, bb⟩
  · by_cases hc : 20 < len0
    · have g1 : (20 : Int) < (len0 : Int) := by omega
      clear hb
      have bb : Below w.heap.size w w := Below.refl _ _
      go_enter Try.func4, Try.ntmps4
      go_wp2_with fail
      refine (CL.out _).mono ?_
      rintro e wa2 ⟨rfl, bwa2⟩
      replace bb := bb.trans (bwa2.mono bb.size)
      clear bwa2
      go_wp2
      go_ret
      exact ⟨rfl, bb⟩
    · by_cases hc2 : 60 < len1
      · have g1 : ¬ (20 : Int) < (len0 : Int) := by omega
        have g2 : (60 : Int) < (len1 : Int) := by omega
        clear hb
        have bb : Below w.heap.size w w := Below.refl _ _
        go_enter Try.func4, Try.ntmps4
        go_wp2_with fail
        refine (CL.out _).mono ?_
        rintro e wa2 ⟨rfl, bwa2⟩
        replace bb := bb.trans (bwa2.mono bb.size)
        clear bwa2
        go_wp2
        go_ret
        exact ⟨rfl, bb⟩
      · have g1 : ¬ (20 : Int) < (len0 : Int) := by omega
        have g2 : ¬ (60 : Int) < (len1 : Int) := by omega
        have g3 : ((len0 : Int) == 0) = true := by rw [beq_iff_eq]; omega
        clear hb
        have bb : Below w.heap.size w w := Below.refl _ _
        go_enter Try.func4, Try.ntmps4
        go_wp2_with fail
        refine (CL.out _).mono ?_
        rintro e wa2 ⟨rfl, bwa2⟩
        replace bb := bb.trans (bwa2.mono bb.size)
        clear bwa2
        go_wp2
        go_ret
        exact ⟨rfl, bb⟩

end Go.Proofs.Ytjfhinhakanhaaa.ReceiverFollowsW
