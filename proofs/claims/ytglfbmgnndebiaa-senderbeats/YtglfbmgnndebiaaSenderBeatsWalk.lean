/-
  Layer 15: SenderBeats, the walk: with nothing new, and all known, one goes out at each beat, and none between; it leads from a state to itself.
-/
import Derived.Test.YtglfbmgnndebiaaVLaw
import Derived.OpenShut
namespace Go.Proofs.Ytglfbmgnndebiaa.SenderBeatsW
open Go.RowKit
set_option linter.unusedVariables false
set_option linter.unusedSimpArgs false
set_option maxRecDepth 20000

/-- A sender that has nothing new. -/
def bt (l t : Nat) : S15.Sn := ⟨⟨#[97]⟩, [⟨0, t, ⟨#[97]⟩⟩], l⟩
theorem bt_ok {l t : Nat} (hl : l ≤ 255) (ht : t ≤ 255) : S15.Ok 1 0 255 (bt l t) := by
  refine ⟨by simp [bt], by simp [bt], fun i p hp => ?_, fun p hp => ?_, fun p hp => ?_, fun p hp => ?_, (by show (⟨#[97]⟩ : ByteArray).size ≤ 1; decide), hl⟩
  · cases i with
    | zero => simp [bt] at hp; subst hp; rfl
    | succ i => simp [bt] at hp
  all_goals (simp [bt] at hp; subst hp; first | exact Nat.le_refl _ | exact ht | decide)
theorem bt_new (l t : Nat) : (bt l t).hasNew = false := by unfold S15.Sn.hasNew S15.Sn.unsent bt; simp [S15.Sn.top]
theorem bt_again {l b : Nat} (t : Nat) (hl : l ≤ 255) (hb : b ≤ 1000) : (bt l t).again 5 b = l + b := by
  have e1 : (bt l t).L.length = 1 := rfl
  unfold S15.Sn.again
  rw [if_pos e1]
  show S15.addS l b = _
  unfold S15.addS
  rw [if_pos (by omega)]
theorem bt_goes {l b : Nat} (t i : Nat) (hl : l ≤ 255) (hb : b ≤ 1000) : (bt l t).goes i 5 b = decide (l + b ≤ i) := by unfold S15.Sn.goes; rw [bt_new, bt_again t hl hb, Bool.false_or]
theorem bt_next {l b : Nat} (t i : Nat) (hl : l ≤ 255) (hb : b ≤ 1000) : (bt l t).next i 5 b = if l + b ≤ i then bt i i else bt l t := by
  unfold S15.Sn.next
  rw [bt_new, bt_again t hl hb, if_neg (by decide)]
  rfl
theorem bt_id (l t : Nat) {i b : Nat} (hg : (bt l t).goes i 5 b = true) (hn : (bt l t).next i 5 b = bt i i) : (bt l t).id i 5 b = ⟨#[97, 62, 97]⟩ := by
  unfold S15.Sn.id
  rw [if_pos hg, hn]
  rfl
theorem bt_quiet (l t : Nat) : (bt l t).quiet = true := by unfold S15.Sn.quiet S15.Sn.unsent bt; simp [S15.Sn.top]
theorem bt_due {l b : Nat} (t : Nat) (hl : l ≤ 255) (hb : b ≤ 1000) : (bt l t).due 5 b = l + b := by unfold S15.Sn.due; rw [bt_new, bt_again t hl hb]; rfl

set_option maxHeartbeats 8000000 in
theorem walk (a0 : Int) (a1 : Int) (w : World) (w0 : (Lit.int .u16 a0).wf = true) (w1 : (Lit.int .u8 a1).wf = true) :
    Calls Try.prog 6 #[.int .u16 a0, .int .u8 a1] w fun e w' => e = .returned (.bool true) ∧ Below w.heap.size w w' := by
  obtain ⟨z0, z1⟩ := Go.bounds_u16 w0
  obtain ⟨y0, y1⟩ := Go.bounds_u8 w1
  obtain ⟨b, rfl⟩ := Int.eq_ofNat_of_zero_le z0
  obtain ⟨n, rfl⟩ := Int.eq_ofNat_of_zero_le y0
  have CL := Lib.hid awake15_any
  by_cases hb : 1 ≤ b ∧ b ≤ 1000
  · obtain ⟨hb1, hb2⟩ := hb
    have g1 : ¬ (b : Int) < 1 := by omega
    have g2 : ¬ (1000 : Int) < (b : Int) := by omega
    have hn : n ≤ 255 := by omega
    have CR := Lib.hid rule_any
    have CW : Hid (∀ wx, Calls Try.prog 13 #[.string ⟨#[97]⟩, .agg #[.func (.func 34) #[] #[], .func (.func 35) #[] #[]]] wx fun e w' => ∃ g cap, e = .returned (.agg ((bt 0 0).c g cap).toArray) ∧ S15.Held w' (bt 0 0) g cap ∧ Below wx.heap.size wx w') := fun wx => new_sn ⟨#[97]⟩ wx
    have CQ : Hid (∀ l t g cap wx, l ≤ 255 → t ≤ 255 → S15.Held wx (bt l t) g cap → Calls Try.prog 26 #[.agg ((bt l t).c g cap).toArray] wx fun e w' => e = .returned (.bool true) ∧ Below wx.heap.size wx w') := fun l t g cap wx h1 h2 hx => by
      have := quiet_sn (bt l t) g cap wx (bt_ok h1 h2) hx
      rw [bt_quiet] at this
      exact this
    have CD : Hid (∀ l t g cap wx, l ≤ 255 → t ≤ 255 → S15.Held wx (bt l t) g cap → Calls Try.prog 20 #[.agg ((bt l t).c g cap).toArray, .int .u64 5, .int .u64 (b : Int)] wx fun e w' => e = .returned (.int .u64 ((l : Int) + (b : Int))) ∧ Below wx.heap.size wx w') := fun l t g cap wx h1 h2 hx => by
      have := due_sn (bt l t) g cap 5 b wx (bt_ok h1 h2) (by decide) (by decide) (by omega) hx
      rw [bt_due t h1 hb2] at this
      exact this
    have CY : Hid (∀ l t g cap i wx, l ≤ 255 → t ≤ 255 → i ≤ 255 → l + b ≤ i → S15.Held wx (bt l t) g cap → Calls Try.prog 22 #[.agg ((bt l t).c g cap).toArray, .int .u64 (i : Int), .int .u64 5, .int .u64 (b : Int), .int .u64 0] wx fun e w' => ∃ g' cap', e = .returned (.tuple #[.agg ((bt i i).c g' cap').toArray, .agg #[.int .u64 0, .int .u64 0, .int .u64 0, .int .u64 0, .string ⟨#[97, 62, 97]⟩], .bool true]) ∧ S15.Held w' (bt i i) g' cap' ∧ Below wx.heap.size wx w') := fun l t g cap i wx h1 h2 h3 h4 hx => by
      have hg : (bt l t).goes i 5 b = true := by rw [bt_goes t i h1 hb2, decide_eq_true h4]
      have hx' : (bt l t).next i 5 b = bt i i := by rw [bt_next t i h1 hb2, if_pos h4]
      have := next_sn (bt l t) g cap i 5 b 0 wx (bt_ok h1 h2) (by decide) (by decide) (by decide) (by decide) (by omega) hx
      rw [hg, hx', bt_id l t hg hx', show (bt l t).io i 5 b = 0 by unfold S15.Sn.io; rw [if_pos hg]; rfl, show (bt l t).iN i 5 b = 0 by unfold S15.Sn.iN; rw [if_pos hg, hx']; rfl, show (bt l t).ia i 5 b 0 = 0 by unfold S15.Sn.ia; rw [if_pos hg]] at this
      exact this
    have CN : Hid (∀ l t g cap i wx, l ≤ 255 → t ≤ 255 → i ≤ 255 → ¬ l + b ≤ i → S15.Held wx (bt l t) g cap → Calls Try.prog 22 #[.agg ((bt l t).c g cap).toArray, .int .u64 (i : Int), .int .u64 5, .int .u64 (b : Int), .int .u64 0] wx fun e w' => ∃ g' cap', e = .returned (.tuple #[.agg ((bt l t).c g' cap').toArray, .agg #[.int .u64 0, .int .u64 0, .int .u64 0, .int .u64 0, .string ⟨#[]⟩], .bool false]) ∧ S15.Held w' (bt l t) g' cap' ∧ Below wx.heap.size wx w') := fun l t g cap i wx h1 h2 h3 h4 hx => by
      have hg : (bt l t).goes i 5 b = false := by rw [bt_goes t i h1 hb2, decide_eq_false h4]
      have hx' : (bt l t).next i 5 b = bt l t := by rw [bt_next t i h1 hb2, if_neg h4]
      have hf : ¬ (bt l t).goes i 5 b = true := by rw [hg]; decide
      have := next_sn (bt l t) g cap i 5 b 0 wx (bt_ok h1 h2) (by decide) (by decide) (by decide) (by decide) (by omega) hx
      rw [hg, hx', show (bt l t).id i 5 b = ⟨#[]⟩ by unfold S15.Sn.id; rw [if_neg hf], show (bt l t).io i 5 b = 0 by unfold S15.Sn.io; rw [if_neg hf], show (bt l t).iN i 5 b = 0 by unfold S15.Sn.iN; rw [if_neg hf], show (bt l t).ia i 5 b 0 = 0 by unfold S15.Sn.ia; rw [if_neg hf]] at this
      exact this
    have HB : Hid (∀ l t, 1 ≤ (bt l t).L.length) := fun l t => Nat.le_refl 1
    generalize bt = bt at *
    clear hb1
    have bb : Below w.heap.size w w := Below.refl _ _
    go_enter Try.func6, Try.ntmps6
    go_wp2_with fail
    refine (CL.out _).mono ?_
    rintro e wa2 ⟨rfl, bwa2⟩
    replace bb := bb.trans (bwa2.mono bb.size)
    clear bwa2
    go_wp2_with fail
    refine (CR.out _).mono ?_
    rintro e wa3 ⟨rfl, bwa3⟩
    replace bb := bb.trans (bwa3.mono bb.size)
    clear bwa3
    go_wp2_with fail
    refine (CW.out _).mono ?_
    rintro e wa4 ⟨g0, cap0, rfl, H0, bwa4⟩
    replace bb := bb.trans (bwa4.mono bb.size)
    clear bwa4
    have x1 : Row (wa4.alloc (.cells #[.nilFunc, .nilFunc, .string ⟨#[]⟩, .slice none 0 0, .int .u64 0] 42 (0, 0))) wa4.heap.size 42 ([.nilFunc, .nilFunc, .string ⟨#[]⟩, .slice none 0 0, .int .u64 0]) := Row.new' rfl rfl
    have lH0x1 : g0 < wa4.heap.size := H0.lt
    have lzx1 := bb.size
    replace H0 := (H0).alloc (.cells #[.nilFunc, .nilFunc, .string ⟨#[]⟩, .slice none 0 0, .int .u64 0] 42 (0, 0))
    replace bb := (bb).alloc bb.size (.cells #[.nilFunc, .nilFunc, .string ⟨#[]⟩, .slice none 0 0, .int .u64 0] 42 (0, 0))
    have tok5 : True := True.intro
    go_wp2_with (first | (clear tok5; refine wpList_store_row rfl 42 (.tmp 5) (.tmp 20) rfl (wa4.heap.size) _ rfl rfl _ _ x1 infoSn rfl (by first | (simp [Value.oneCell']; done) | exact S15.Sn.c_all _ _ _) ?_))
    obtain ⟨p1, hp1⟩ : ∃ p1, p1 = wa4.heap.size := ⟨_, rfl⟩
    rw [← hp1] at x1 lH0x1 lzx1 ⊢
    generalize wa4.alloc (.cells #[.nilFunc, .nilFunc, .string ⟨#[]⟩, .slice none 0 0, .int .u64 0] 42 (0, 0)) = wa6 at *
    clear hp1
    replace H0 := H0.setRow (k := (p1)) (by omega) (List.toArray ((bt 0 0).c g0 cap0))
    replace x1 := x1.setRow ((bt 0 0).c g0 cap0)
    replace bb := below_row bb (show _ ≤ p1 by omega) (List.toArray ((bt 0 0).c g0 cap0))
    generalize wa6.setRow p1 (List.toArray ((bt 0 0).c g0 cap0)) = wa7 at *
    have hp1 : p1 < wa7.heap.size := x1.lt
    clear hp1
    clear CR CW CL
    go_wp2
    go_loopw [23, 6] (fun iv lv wr => ∃ i l t g cap : Nat, i ≤ n ∧ iv = .int .u64 (i : Int) ∧ lv = .int .u64 (l : Int) ∧ l ≤ i ∧ t ≤ 255 ∧ Row wr p1 42 ((bt l t).c g cap) ∧ S15.Held wr (bt l t) g cap ∧ Below w.heap.size w wr) (fun iv _ _ => n - (intOf iv).toNat)
    case atStart => exact ⟨0, 0, 0, g0, cap0, Nat.zero_le _, rfl, rfl, Nat.le_refl _, by decide, x1, H0, bb⟩
    case round =>
      clear x1 H0 bb
      obtain ⟨i, l, t, g, cap, hi, rfl, rfl, hli, ht, x1, H0, bb⟩ := hrel
      have hl : l ≤ 255 := by omega
      have w1 : IntKind.u64.wrap ((l : Int) + (b : Int)) = (l : Int) + (b : Int) := by rw [IntKind.wrap_u64]; omega
      by_cases hlt : i < n
      · have hs : (i : Int) < (n : Int) := by omega
        by_cases hc : l + b ≤ i
        · have d1 : decide ((l : Int) + (b : Int) ≤ (i : Int)) = true := decide_eq_true (by omega)
          have tok41 : True := True.intro
          go_wp2_with (first | (clear tok41; refine wpList_load_row rfl 42 (.tmp 5) rfl (p1) rfl _ _ _ _ x1 Try.underlying42 rfl infoSn ?_))
          refine (CY.out l t g cap i _ hl ht (by omega) hc H0).mono ?_
          rintro e wa42 ⟨g2, cap2, rfl, H2, bwa42⟩
          replace x1 := x1.below bwa42 x1.lt
          replace H0 := H0.keep bwa42
          replace bb := bb.trans (bwa42.mono bb.size)
          clear bwa42
          clear H0
          have x2 : Row ((wa42.alloc (.cells #[.nilFunc, .nilFunc, .string ⟨#[]⟩, .slice none 0 0, .int .u64 0] 42 (0, 0))).alloc (.cells #[.int .u64 0, .int .u64 0, .int .u64 0, .int .u64 0, .string ⟨#[]⟩] 24 (0, 0))) wa42.heap.size 42 ([.nilFunc, .nilFunc, .string ⟨#[]⟩, .slice none 0 0, .int .u64 0]) := (Row.new' rfl rfl).alloc _
          have x3 : Row ((wa42.alloc (.cells #[.nilFunc, .nilFunc, .string ⟨#[]⟩, .slice none 0 0, .int .u64 0] 42 (0, 0))).alloc (.cells #[.int .u64 0, .int .u64 0, .int .u64 0, .int .u64 0, .string ⟨#[]⟩] 24 (0, 0))) (wa42.heap.size + 1) 24 ([.int .u64 0, .int .u64 0, .int .u64 0, .int .u64 0, .string ⟨#[]⟩]) := Row.new' rfl (by simp)
          have lx1x2 : p1 < wa42.heap.size := x1.lt
          have lH2x2 : g2 < wa42.heap.size := H2.lt
          have lzx2 := bb.size
          replace x1 := ((x1).alloc (.cells #[.nilFunc, .nilFunc, .string ⟨#[]⟩, .slice none 0 0, .int .u64 0] 42 (0, 0))).alloc (.cells #[.int .u64 0, .int .u64 0, .int .u64 0, .int .u64 0, .string ⟨#[]⟩] 24 (0, 0))
          replace H2 := ((H2).alloc (.cells #[.nilFunc, .nilFunc, .string ⟨#[]⟩, .slice none 0 0, .int .u64 0] 42 (0, 0))).alloc (.cells #[.int .u64 0, .int .u64 0, .int .u64 0, .int .u64 0, .string ⟨#[]⟩] 24 (0, 0))
          replace bb := ((bb).alloc bb.size (.cells #[.nilFunc, .nilFunc, .string ⟨#[]⟩, .slice none 0 0, .int .u64 0] 42 (0, 0))).alloc (by simp; omega) (.cells #[.int .u64 0, .int .u64 0, .int .u64 0, .int .u64 0, .string ⟨#[]⟩] 24 (0, 0))
          have x3c := ((x3).setRow_other (k := wa42.heap.size) (by omega) (List.toArray ((bt i i).c g2 cap2))).setRow ([.int .u64 0, .int .u64 0, .int .u64 0, .int .u64 0, .string ⟨#[97, 62, 97]⟩])
          have c30 := x3c.cell 0
          have c31 := x3c.cell 1
          have c34 := x3c.cell 4
          simp only [List.getElem?_cons_zero, List.getElem?_cons_succ] at c30 c31 c34
          clear x3c
          have x2c := ((x2).setRow ((bt i i).c g2 cap2)).setRow_other (k := (wa42.heap.size + 1)) (by omega) (List.toArray ([.int .u64 0, .int .u64 0, .int .u64 0, .int .u64 0, .string ⟨#[97, 62, 97]⟩]))
          have c20 : ((((wa42.alloc (.cells #[.nilFunc, .nilFunc, .string ⟨#[]⟩, .slice none 0 0, .int .u64 0] 42 (0, 0))).alloc (.cells #[.int .u64 0, .int .u64 0, .int .u64 0, .int .u64 0, .string ⟨#[]⟩] 24 (0, 0))).setRow wa42.heap.size (List.toArray ((bt i i).c g2 cap2))).setRow (wa42.heap.size + 1) (List.toArray ([.int .u64 0, .int .u64 0, .int .u64 0, .int .u64 0, .string ⟨#[97, 62, 97]⟩]))).cell? ⟨wa42.heap.size, 0, none⟩ = some (.func (.func 34) #[] #[]) := x2c.cell 0
          have c21 : ((((wa42.alloc (.cells #[.nilFunc, .nilFunc, .string ⟨#[]⟩, .slice none 0 0, .int .u64 0] 42 (0, 0))).alloc (.cells #[.int .u64 0, .int .u64 0, .int .u64 0, .int .u64 0, .string ⟨#[]⟩] 24 (0, 0))).setRow wa42.heap.size (List.toArray ((bt i i).c g2 cap2))).setRow (wa42.heap.size + 1) (List.toArray ([.int .u64 0, .int .u64 0, .int .u64 0, .int .u64 0, .string ⟨#[97, 62, 97]⟩]))).cell? ⟨wa42.heap.size, 1, none⟩ = some (.func (.func 35) #[] #[]) := x2c.cell 1
          have c22 : ((((wa42.alloc (.cells #[.nilFunc, .nilFunc, .string ⟨#[]⟩, .slice none 0 0, .int .u64 0] 42 (0, 0))).alloc (.cells #[.int .u64 0, .int .u64 0, .int .u64 0, .int .u64 0, .string ⟨#[]⟩] 24 (0, 0))).setRow wa42.heap.size (List.toArray ((bt i i).c g2 cap2))).setRow (wa42.heap.size + 1) (List.toArray ([.int .u64 0, .int .u64 0, .int .u64 0, .int .u64 0, .string ⟨#[97, 62, 97]⟩]))).cell? ⟨wa42.heap.size, 2, none⟩ = some (.string (bt i i).now) := x2c.cell 2
          have c23 : ((((wa42.alloc (.cells #[.nilFunc, .nilFunc, .string ⟨#[]⟩, .slice none 0 0, .int .u64 0] 42 (0, 0))).alloc (.cells #[.int .u64 0, .int .u64 0, .int .u64 0, .int .u64 0, .string ⟨#[]⟩] 24 (0, 0))).setRow wa42.heap.size (List.toArray ((bt i i).c g2 cap2))).setRow (wa42.heap.size + 1) (List.toArray ([.int .u64 0, .int .u64 0, .int .u64 0, .int .u64 0, .string ⟨#[97, 62, 97]⟩]))).cell? ⟨wa42.heap.size, 3, none⟩ = some (.slice (some ⟨g2, 0, none⟩) (bt i i).L.length cap2) := x2c.cell 3
          have c24 : ((((wa42.alloc (.cells #[.nilFunc, .nilFunc, .string ⟨#[]⟩, .slice none 0 0, .int .u64 0] 42 (0, 0))).alloc (.cells #[.int .u64 0, .int .u64 0, .int .u64 0, .int .u64 0, .string ⟨#[]⟩] 24 (0, 0))).setRow wa42.heap.size (List.toArray ((bt i i).c g2 cap2))).setRow (wa42.heap.size + 1) (List.toArray ([.int .u64 0, .int .u64 0, .int .u64 0, .int .u64 0, .string ⟨#[97, 62, 97]⟩]))).cell? ⟨wa42.heap.size, 4, none⟩ = some (.int .u64 ((bt i i).last : Int)) := x2c.cell 4
          clear x2c
          have tok43 : True := True.intro
          have tok44 : True := True.intro
          go_wp2_with (first | (clear tok43; refine wpList_store_row rfl 42 (.tmp 8) (.tmp 32) rfl (wa42.heap.size) _ rfl rfl _ _ x2 infoSn rfl (by first | (simp [Value.oneCell']; done) | exact S15.Sn.c_all _ _ _) ?_) | (clear tok44; refine wpList_store_row rfl 24 (.tmp 9) (.tmp 33) rfl ((wa42.heap.size + 1)) _ rfl rfl _ _ ((x3).setRow_other (k := wa42.heap.size) (by omega) (List.toArray ((bt i i).c g2 cap2))) infoIn rfl (by first | (simp [Value.oneCell']; done) | exact S15.Sn.c_all _ _ _) ?_))
          clear c20 c21 c22 c23 c24
          clear c30 c31 c34
          obtain ⟨p2, hp2⟩ : ∃ p2, p2 = wa42.heap.size := ⟨_, rfl⟩
          rw [← hp2] at x2 x3 lx1x2 lH2x2 lzx2 ⊢
          generalize (wa42.alloc (.cells #[.nilFunc, .nilFunc, .string ⟨#[]⟩, .slice none 0 0, .int .u64 0] 42 (0, 0))).alloc (.cells #[.int .u64 0, .int .u64 0, .int .u64 0, .int .u64 0, .string ⟨#[]⟩] 24 (0, 0)) = wa45 at *
          clear hp2
          replace x1 := x1.setRow_other (k := p2) (by omega) (List.toArray ((bt i i).c g2 cap2))
          replace H2 := H2.setRow (k := (p2)) (by omega) (List.toArray ((bt i i).c g2 cap2))
          replace x2 := x2.setRow ((bt i i).c g2 cap2)
          replace x3 := x3.setRow_other (k := p2) (by omega) (List.toArray ((bt i i).c g2 cap2))
          replace bb := below_row bb (show _ ≤ p2 by omega) (List.toArray ((bt i i).c g2 cap2))
          generalize wa45.setRow p2 (List.toArray ((bt i i).c g2 cap2)) = wa46 at *
          replace x1 := x1.setRow_other (k := (p2 + 1)) (by omega) (List.toArray ([.int .u64 0, .int .u64 0, .int .u64 0, .int .u64 0, .string ⟨#[97, 62, 97]⟩]))
          replace H2 := H2.setRow (k := ((p2 + 1))) (by omega) (List.toArray ([.int .u64 0, .int .u64 0, .int .u64 0, .int .u64 0, .string ⟨#[97, 62, 97]⟩]))
          replace x2 := x2.setRow_other (k := (p2 + 1)) (by omega) (List.toArray ([.int .u64 0, .int .u64 0, .int .u64 0, .int .u64 0, .string ⟨#[97, 62, 97]⟩]))
          replace x3 := x3.setRow ([.int .u64 0, .int .u64 0, .int .u64 0, .int .u64 0, .string ⟨#[97, 62, 97]⟩])
          replace bb := below_row bb (show _ ≤ (p2 + 1) by omega) (List.toArray ([.int .u64 0, .int .u64 0, .int .u64 0, .int .u64 0, .string ⟨#[97, 62, 97]⟩]))
          generalize wa46.setRow ((p2 + 1)) (List.toArray ([.int .u64 0, .int .u64 0, .int .u64 0, .int .u64 0, .string ⟨#[97, 62, 97]⟩])) = wa47 at *
          refine (CQ.out i i g2 cap2 _ (by omega) (by omega) H2).mono ?_
          rintro e wa48 ⟨rfl, bwa48⟩
          replace x1 := x1.below bwa48 x1.lt
          replace H2 := H2.keep bwa48
          replace x2 := x2.below bwa48 x2.lt
          replace x3 := x3.below bwa48 x3.lt
          replace bb := bb.trans (bwa48.mono bb.size)
          clear bwa48
          have hne := held_ne H2 (HB.out _ _) x1
          have tok49 : True := True.intro
          have tok50 : True := True.intro
          go_wp2_with (first | (clear tok49; refine wpList_load_row rfl 42 (.tmp 8) rfl (p2) rfl _ _ _ _ x2 Try.underlying42 rfl infoSn ?_) | (clear tok50; refine wpList_store_row rfl 42 (.tmp 5) (.tmp 63) rfl (p1) _ rfl rfl _ _ x1 infoSn rfl (by first | (simp [Value.oneCell']; done) | exact S15.Sn.c_all _ _ _) ?_))
          replace x1 := x1.setRow ((bt i i).c g2 cap2)
          replace H2 := H2.setRow (k := (p1)) (by omega) (List.toArray ((bt i i).c g2 cap2))
          replace x2 := x2.setRow_other (k := p1) (by omega) (List.toArray ((bt i i).c g2 cap2))
          replace x3 := x3.setRow_other (k := p1) (by omega) (List.toArray ((bt i i).c g2 cap2))
          replace bb := below_row bb (show _ ≤ p1 by omega) (List.toArray ((bt i i).c g2 cap2))
          generalize wa48.setRow p1 (List.toArray ((bt i i).c g2 cap2)) = wa51 at *
          go_wp2
          go_roundw
          case rel => exact ⟨i + 1, i, i, g2, cap2, by omega, by go_num, rfl, by omega, by omega, x1, H2, bb⟩
          case measure => simp [intOf]; omega
        · have d1 : decide ((l : Int) + (b : Int) ≤ (i : Int)) = false := decide_eq_false (by omega)
          have tok41 : True := True.intro
          go_wp2_with (first | (clear tok41; refine wpList_load_row rfl 42 (.tmp 5) rfl (p1) rfl _ _ _ _ x1 Try.underlying42 rfl infoSn ?_))
          refine (CN.out l t g cap i _ hl ht (by omega) hc H0).mono ?_
          rintro e wa42 ⟨g2, cap2, rfl, H2, bwa42⟩
          replace x1 := x1.below bwa42 x1.lt
          replace H0 := H0.keep bwa42
          replace bb := bb.trans (bwa42.mono bb.size)
          clear bwa42
          clear H0
          have x2 : Row ((wa42.alloc (.cells #[.nilFunc, .nilFunc, .string ⟨#[]⟩, .slice none 0 0, .int .u64 0] 42 (0, 0))).alloc (.cells #[.int .u64 0, .int .u64 0, .int .u64 0, .int .u64 0, .string ⟨#[]⟩] 24 (0, 0))) wa42.heap.size 42 ([.nilFunc, .nilFunc, .string ⟨#[]⟩, .slice none 0 0, .int .u64 0]) := (Row.new' rfl rfl).alloc _
          have x3 : Row ((wa42.alloc (.cells #[.nilFunc, .nilFunc, .string ⟨#[]⟩, .slice none 0 0, .int .u64 0] 42 (0, 0))).alloc (.cells #[.int .u64 0, .int .u64 0, .int .u64 0, .int .u64 0, .string ⟨#[]⟩] 24 (0, 0))) (wa42.heap.size + 1) 24 ([.int .u64 0, .int .u64 0, .int .u64 0, .int .u64 0, .string ⟨#[]⟩]) := Row.new' rfl (by simp)
          have lx1x2 : p1 < wa42.heap.size := x1.lt
          have lH2x2 : g2 < wa42.heap.size := H2.lt
          have lzx2 := bb.size
          replace x1 := ((x1).alloc (.cells #[.nilFunc, .nilFunc, .string ⟨#[]⟩, .slice none 0 0, .int .u64 0] 42 (0, 0))).alloc (.cells #[.int .u64 0, .int .u64 0, .int .u64 0, .int .u64 0, .string ⟨#[]⟩] 24 (0, 0))
          replace H2 := ((H2).alloc (.cells #[.nilFunc, .nilFunc, .string ⟨#[]⟩, .slice none 0 0, .int .u64 0] 42 (0, 0))).alloc (.cells #[.int .u64 0, .int .u64 0, .int .u64 0, .int .u64 0, .string ⟨#[]⟩] 24 (0, 0))
          replace bb := ((bb).alloc bb.size (.cells #[.nilFunc, .nilFunc, .string ⟨#[]⟩, .slice none 0 0, .int .u64 0] 42 (0, 0))).alloc (by simp; omega) (.cells #[.int .u64 0, .int .u64 0, .int .u64 0, .int .u64 0, .string ⟨#[]⟩] 24 (0, 0))
          have x2c := ((x2).setRow ((bt l t).c g2 cap2)).setRow_other (k := (wa42.heap.size + 1)) (by omega) (List.toArray ([.int .u64 0, .int .u64 0, .int .u64 0, .int .u64 0, .string ⟨#[]⟩]))
          have c20 : ((((wa42.alloc (.cells #[.nilFunc, .nilFunc, .string ⟨#[]⟩, .slice none 0 0, .int .u64 0] 42 (0, 0))).alloc (.cells #[.int .u64 0, .int .u64 0, .int .u64 0, .int .u64 0, .string ⟨#[]⟩] 24 (0, 0))).setRow wa42.heap.size (List.toArray ((bt l t).c g2 cap2))).setRow (wa42.heap.size + 1) (List.toArray ([.int .u64 0, .int .u64 0, .int .u64 0, .int .u64 0, .string ⟨#[]⟩]))).cell? ⟨wa42.heap.size, 0, none⟩ = some (.func (.func 34) #[] #[]) := x2c.cell 0
          have c21 : ((((wa42.alloc (.cells #[.nilFunc, .nilFunc, .string ⟨#[]⟩, .slice none 0 0, .int .u64 0] 42 (0, 0))).alloc (.cells #[.int .u64 0, .int .u64 0, .int .u64 0, .int .u64 0, .string ⟨#[]⟩] 24 (0, 0))).setRow wa42.heap.size (List.toArray ((bt l t).c g2 cap2))).setRow (wa42.heap.size + 1) (List.toArray ([.int .u64 0, .int .u64 0, .int .u64 0, .int .u64 0, .string ⟨#[]⟩]))).cell? ⟨wa42.heap.size, 1, none⟩ = some (.func (.func 35) #[] #[]) := x2c.cell 1
          have c22 : ((((wa42.alloc (.cells #[.nilFunc, .nilFunc, .string ⟨#[]⟩, .slice none 0 0, .int .u64 0] 42 (0, 0))).alloc (.cells #[.int .u64 0, .int .u64 0, .int .u64 0, .int .u64 0, .string ⟨#[]⟩] 24 (0, 0))).setRow wa42.heap.size (List.toArray ((bt l t).c g2 cap2))).setRow (wa42.heap.size + 1) (List.toArray ([.int .u64 0, .int .u64 0, .int .u64 0, .int .u64 0, .string ⟨#[]⟩]))).cell? ⟨wa42.heap.size, 2, none⟩ = some (.string (bt l t).now) := x2c.cell 2
          have c23 : ((((wa42.alloc (.cells #[.nilFunc, .nilFunc, .string ⟨#[]⟩, .slice none 0 0, .int .u64 0] 42 (0, 0))).alloc (.cells #[.int .u64 0, .int .u64 0, .int .u64 0, .int .u64 0, .string ⟨#[]⟩] 24 (0, 0))).setRow wa42.heap.size (List.toArray ((bt l t).c g2 cap2))).setRow (wa42.heap.size + 1) (List.toArray ([.int .u64 0, .int .u64 0, .int .u64 0, .int .u64 0, .string ⟨#[]⟩]))).cell? ⟨wa42.heap.size, 3, none⟩ = some (.slice (some ⟨g2, 0, none⟩) (bt l t).L.length cap2) := x2c.cell 3
          have c24 : ((((wa42.alloc (.cells #[.nilFunc, .nilFunc, .string ⟨#[]⟩, .slice none 0 0, .int .u64 0] 42 (0, 0))).alloc (.cells #[.int .u64 0, .int .u64 0, .int .u64 0, .int .u64 0, .string ⟨#[]⟩] 24 (0, 0))).setRow wa42.heap.size (List.toArray ((bt l t).c g2 cap2))).setRow (wa42.heap.size + 1) (List.toArray ([.int .u64 0, .int .u64 0, .int .u64 0, .int .u64 0, .string ⟨#[]⟩]))).cell? ⟨wa42.heap.size, 4, none⟩ = some (.int .u64 ((bt l t).last : Int)) := x2c.cell 4
          clear x2c
          have tok43 : True := True.intro
          have tok44 : True := True.intro
          go_wp2_with (first | (clear tok43; refine wpList_store_row rfl 42 (.tmp 8) (.tmp 32) rfl (wa42.heap.size) _ rfl rfl _ _ x2 infoSn rfl (by first | (simp [Value.oneCell']; done) | exact S15.Sn.c_all _ _ _) ?_) | (clear tok44; refine wpList_store_row rfl 24 (.tmp 9) (.tmp 33) rfl ((wa42.heap.size + 1)) _ rfl rfl _ _ ((x3).setRow_other (k := wa42.heap.size) (by omega) (List.toArray ((bt l t).c g2 cap2))) infoIn rfl (by first | (simp [Value.oneCell']; done) | exact S15.Sn.c_all _ _ _) ?_))
          clear c20 c21 c22 c23 c24
          obtain ⟨p2, hp2⟩ : ∃ p2, p2 = wa42.heap.size := ⟨_, rfl⟩
          rw [← hp2] at x2 x3 lx1x2 lH2x2 lzx2 ⊢
          generalize (wa42.alloc (.cells #[.nilFunc, .nilFunc, .string ⟨#[]⟩, .slice none 0 0, .int .u64 0] 42 (0, 0))).alloc (.cells #[.int .u64 0, .int .u64 0, .int .u64 0, .int .u64 0, .string ⟨#[]⟩] 24 (0, 0)) = wa45 at *
          clear hp2
          replace x1 := x1.setRow_other (k := p2) (by omega) (List.toArray ((bt l t).c g2 cap2))
          replace H2 := H2.setRow (k := (p2)) (by omega) (List.toArray ((bt l t).c g2 cap2))
          replace x2 := x2.setRow ((bt l t).c g2 cap2)
          replace x3 := x3.setRow_other (k := p2) (by omega) (List.toArray ((bt l t).c g2 cap2))
          replace bb := below_row bb (show _ ≤ p2 by omega) (List.toArray ((bt l t).c g2 cap2))
          generalize wa45.setRow p2 (List.toArray ((bt l t).c g2 cap2)) = wa46 at *
          replace x1 := x1.setRow_other (k := (p2 + 1)) (by omega) (List.toArray ([.int .u64 0, .int .u64 0, .int .u64 0, .int .u64 0, .string ⟨#[]⟩]))
          replace H2 := H2.setRow (k := ((p2 + 1))) (by omega) (List.toArray ([.int .u64 0, .int .u64 0, .int .u64 0, .int .u64 0, .string ⟨#[]⟩]))
          replace x2 := x2.setRow_other (k := (p2 + 1)) (by omega) (List.toArray ([.int .u64 0, .int .u64 0, .int .u64 0, .int .u64 0, .string ⟨#[]⟩]))
          replace x3 := x3.setRow ([.int .u64 0, .int .u64 0, .int .u64 0, .int .u64 0, .string ⟨#[]⟩])
          replace bb := below_row bb (show _ ≤ (p2 + 1) by omega) (List.toArray ([.int .u64 0, .int .u64 0, .int .u64 0, .int .u64 0, .string ⟨#[]⟩]))
          generalize wa46.setRow ((p2 + 1)) (List.toArray ([.int .u64 0, .int .u64 0, .int .u64 0, .int .u64 0, .string ⟨#[]⟩])) = wa47 at *
          refine (CQ.out l t g2 cap2 _ hl ht H2).mono ?_
          rintro e wa48 ⟨rfl, bwa48⟩
          replace x1 := x1.below bwa48 x1.lt
          replace H2 := H2.keep bwa48
          replace x2 := x2.below bwa48 x2.lt
          replace x3 := x3.below bwa48 x3.lt
          replace bb := bb.trans (bwa48.mono bb.size)
          clear bwa48
          have hne := held_ne H2 (HB.out _ _) x1
          have tok49 : True := True.intro
          have tok50 : True := True.intro
          go_wp2_with (first | (clear tok49; refine wpList_load_row rfl 42 (.tmp 8) rfl (p2) rfl _ _ _ _ x2 Try.underlying42 rfl infoSn ?_) | (clear tok50; refine wpList_store_row rfl 42 (.tmp 5) (.tmp 63) rfl (p1) _ rfl rfl _ _ x1 infoSn rfl (by first | (simp [Value.oneCell']; done) | exact S15.Sn.c_all _ _ _) ?_))
          replace x1 := x1.setRow ((bt l t).c g2 cap2)
          replace H2 := H2.setRow (k := (p1)) (by omega) (List.toArray ((bt l t).c g2 cap2))
          replace x2 := x2.setRow_other (k := p1) (by omega) (List.toArray ((bt l t).c g2 cap2))
          replace x3 := x3.setRow_other (k := p1) (by omega) (List.toArray ((bt l t).c g2 cap2))
          replace bb := below_row bb (show _ ≤ p1 by omega) (List.toArray ((bt l t).c g2 cap2))
          generalize wa48.setRow p1 (List.toArray ((bt l t).c g2 cap2)) = wa51 at *
          go_wp2
          go_roundw
          case rel => exact ⟨i + 1, l, t, g2, cap2, by omega, by go_num, rfl, by omega, by omega, x1, H2, bb⟩
          case measure => simp [intOf]; omega
      · obtain rfl : i = n := by omega
        have tok61 : True := True.intro
        go_wp2_with (first | (clear tok61; refine wpList_load_row rfl 42 (.tmp 5) rfl (p1) rfl _ _ _ _ x1 Try.underlying42 rfl infoSn ?_))
        refine (CD.out l t g cap _ hl ht H0).mono ?_
        rintro e wa62 ⟨rfl, bwa62⟩
        replace x1 := x1.below bwa62 x1.lt
        replace H0 := H0.keep bwa62
        replace bb := bb.trans (bwa62.mono bb.size)
        clear bwa62
        go_wp2
        go_ret
        exact ⟨rfl, bb⟩
  · by_cases hc : b < 1
    · have g1 : (b : Int) < 1 := by omega
      clear hb
      have bb : Below w.heap.size w w := Below.refl _ _
      go_enter Try.func6, Try.ntmps6
      go_wp2_with fail
      refine (CL.out _).mono ?_
      rintro e wa2 ⟨rfl, bwa2⟩
      replace bb := bb.trans (bwa2.mono bb.size)
      clear bwa2
      go_wp2
      go_ret
      exact ⟨rfl, bb⟩
    · have g1 : ¬ (b : Int) < 1 := by omega
      have g2 : (1000 : Int) < (b : Int) := by omega
      clear hb
      have bb : Below w.heap.size w w := Below.refl _ _
      go_enter Try.func6, Try.ntmps6
      go_wp2_with fail
      refine (CL.out _).mono ?_
      rintro e wa2 ⟨rfl, bwa2⟩
      replace bb := bb.trans (bwa2.mono bb.size)
      clear bwa2
      go_wp2
      go_ret
      exact ⟨rfl, bb⟩

end Go.Proofs.Ytglfbmgnndebiaa.SenderBeatsW
