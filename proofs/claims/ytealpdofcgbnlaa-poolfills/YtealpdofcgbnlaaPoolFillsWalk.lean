/-
  Layer 8: PoolFills, the walk.
-/
import Derived.Test.YtealpdofcgbnlaaPFills
namespace Go.Proofs.Ytealpdofcgbnlaa.PoolFillsW
open Go.RowKit
set_option linter.unusedVariables false

set_option maxRecDepth 20000 in
set_option maxHeartbeats 4000000 in
theorem core (n : Nat) (a1 : Option Addr) (len1 cap1 : Nat) (z1 : List Int) (w : World) (h1 : 1 ≤ n) (h2 : n ≤ 256) (hlen : len1 ≤ 40) (w1 : IsRow .u8 w a1 len1 cap1 z1) :
    Calls Try.prog 6 #[.int .i64 (n : Int), .slice a1 len1 cap1] w fun e w' => e = .returned (.bool true) ∧ Below w.heap.size w w' := by
  have g1 : ¬ (n : Int) < 1 := by omega
  have g2 : ¬ (256 : Int) < n := by omega
  have g3 : ¬ (40 : Int) < len1 := by omega
  have C0 := Lib.hid (awake8_any w)
  go_enter Try.func6, Try.ntmps6
  go_wp2_with fail
  refine C0.out.mono ?_
  rintro e wa ⟨rfl, ba⟩
  clear C0
  have CN := Lib.hid (poolNew_yes n wa h1 h2)
  have hsa := ba.size
  go_wp2_with fail
  refine CN.out.mono ?_
  rintro e wb ⟨rfl, pb, bb⟩
  have bw : Below w.heap.size w wb := ba.trans (bb.mono hsa)
  rw [← P8.filled_zero] at pb
  obtain ⟨B, hB⟩ : ∃ B, B = wa.heap.size := ⟨_, rfl⟩
  have HB : Hid (w.heap.size ≤ B) := by rw [hB]; exact hsa
  rw [← hB] at pb ⊢
  clear CN bb ba hsa hB g1 g2 g3
  go_wp2
  go_loopw [7, 8, 9, 40] (fun _ _ _ iv wr => ∃ i : Nat, i ≤ n ∧ iv = .int .i64 i ∧ P8.PoolAt wr B n (P8.filled i n) i ∧ Below w.heap.size w wr) (fun _ _ _ iv _ => n - (intOf iv).toNat)
  case atStart => exact ⟨0, Nat.zero_le _, rfl, pb, bw⟩
  case round =>
    clear pb bw
    obtain ⟨i, hi, rfl, pr, br⟩ := hrel
    by_cases hlt : i < n
    · have hs : (i : Int) < n := by omega
      have CG := Lib.hid (get_yes B n i (P8.filled i n) i ⟨#[120]⟩ wr pr (by decide) hlt (P8.filled_first hlt) (by omega))
      have hsr := Nat.le_trans HB.out (Nat.le_trans (Nat.le_trans (Nat.le_add_right B 2) (Nat.le_add_right _ n)) pr.fits)
      go_wp2_with fail
      refine CG.out.mono ?_
      rintro e wc ⟨rfl, pc, oc, zc⟩
      have ec : (P8.filled i n).set i (some (⟨#[120]⟩ : ByteArray).data.toList) = P8.filled (i + 1) n := P8.filled_set hlt
      rw [ec] at pc
      have bc := br.trans (oc.belowB hsr HB.out)
      have CF := Lib.hid (free_any B n _ _ wc pc)
      rw [P8.held_filled (by omega)] at CF
      have hsc := bc.size
      have hx : ((n - (i + 1) : Nat) : Int) = (n : Int) - 1 - i := by omega
      rw [hx] at CF
      clear CG oc zc ec pr br hsr hx
      go_wp2_with fail
      refine CF.out.mono ?_
      rintro e wd ⟨rfl, bd⟩
      have pd := pc.below bd pc.fits
      have bd' := bc.trans (bd.mono hsc)
      clear CF bd pc bc hsc
      go_wp2
      go_roundw
      case rel => exact ⟨i + 1, by omega, by go_num, pd, bd'⟩
      case measure => simp [intOf]; omega
    · obtain rfl : i = n := by omega
      have CG := Lib.hid (get_full B i (P8.filled i i) i ⟨#[120]⟩ wr pr (by decide) (P8.filled_full i))
      have hfit := pr.fits
      go_wp2_with fail
      refine CG.out.mono ?_
      rintro e wr ⟨rfl, rfl⟩
      clear CG
      have hm := makeBools i h2 wr
      have pm : P8.PoolAt (wr.alloc (.cells (P8.bools (List.replicate i false)).toArray 4 (0, 0))) B i (P8.fs (List.replicate i false)) i := by
        rw [← P8.fs_start]
        exact pr.below ((Below.refl wr.heap.size wr).alloc (Nat.le_refl _) _) hfit
      have rm : Row (wr.alloc (.cells (P8.bools (List.replicate i false)).toArray 4 (0, 0))) wr.heap.size 4 (P8.bools (List.replicate i false)) := Row.new' rfl rfl
      have bm : Below w.heap.size w (wr.alloc (.cells (P8.bools (List.replicate i false)).toArray 4 (0, 0))) := br.alloc br.size _
      obtain ⟨f, hf⟩ : ∃ f, f = wr.heap.size := ⟨_, rfl⟩
      have HF : Hid (B + 2 + i ≤ f) := by rw [hf]; exact hfit
      rw [← hf] at rm hm
      generalize wr.alloc (.cells (P8.bools (List.replicate i false)).toArray 4 (0, 0)) = wm at *
      clear pr br hfit hf
      go_wp2
      go_loopw [13, 15, 16, 77] (fun lv _ _ kv wr => ∃ (k : Nat) (F : List Bool) (L : Nat), k ≤ len1 ∧ kv = .int .i64 k ∧ lv = .int .i64 L ∧ Hid (F.length = i) ∧ P8.Least F L ∧ P8.PoolAt wr B i (P8.fs F) i ∧ Row wr f 4 (P8.bools F) ∧ Below w.heap.size w wr) (fun _ _ _ kv _ => len1 - (intOf kv).toNat)
      case atStart => exact ⟨0, List.replicate i false, i, Nat.zero_le _, rfl, rfl, List.length_replicate, P8.Least.start i, pm, rm, bm⟩
      case round =>
        clear pm rm bm hm
        obtain ⟨k, F, L, hk, rfl, rfl, hF, HL, pr, rr, br⟩ := hrel
        have hLe : L ≤ i := by have := HL.le; rw [hF.out] at this; exact this
        have hfit := pr.fits
        by_cases hkl : k < len1
        · obtain ⟨bk, off, rfl, hbk, hcell⟩ := w1.bytes (by omega)
          obtain ⟨c, hc, hcc⟩ := hcell k hkl
          have cb := (br.cell (p := ⟨bk, off + k, none⟩) hbk).trans hcc
          have hkl' : (k : Int) < len1 := by omega
          clear hcc hcell
          obtain ⟨j, hj⟩ : ∃ j, j = c % i := ⟨_, rfl⟩
          have hji : j < i := by rw [hj]; exact Nat.mod_lt _ (by omega)
          have hmod : ((c : Int).tmod (i : Int)) = (j : Int) := by rw [hj]; rfl
          have hmod2 : ((c : Int) % (i : Int)) = (j : Int) := by rw [hj]; rfl
          have hi0 : ¬ (i : Int) = 0 := by omega
          have hi1 : ¬ i = 0 := by omega
          clear hj
          have c1 := (rr.cell j).trans (P8.bools_at (by rw [hF.out]; exact hji))
          have CP : Hid (∀ wx, P8.PoolAt wx B i (P8.fs F) i → Calls Try.prog 12 #[.pointer (some ⟨B + 1, 0, none⟩), .int .i64 (j : Int)] wx fun e w' => e = .returned (.int .i64 (if F.getD j false then 14 else 0)) ∧ P8.PoolAt w' B i (P8.fs (F.set j true)) i ∧ Out B (B + 2 + i) wx w' ∧ w'.heap.size = wx.heap.size) := fun wx hp => by
            cases hx : F.getD j false with
            | true =>
              refine (put_no B i (j : Int) _ _ wx hp (fun h => ?_)).mono ?_
              · have := h.2.2
                rw [Int.toNat_natCast, P8.fs_at (by rw [hF.out]; exact hji), hx] at this
                cases this
              · rintro e w' ⟨rfl, rfl⟩
                exact ⟨rfl, by rw [P8.fs_same hx]; exact hp, Out.refl _ _ _, rfl⟩
            | false =>
              refine (put_yes B i j _ _ wx hp hji (by rw [P8.fs_at (by rw [hF.out]; exact hji), hx]; rfl)).mono ?_
              rintro e w' ⟨rfl, h1, h2, h3⟩
              exact ⟨rfl, by rw [← P8.fs_set]; exact h1, h2, h3⟩
          have HL' := HL.more (by rw [hF.out]; exact hji)
          have hmin : ((min L j : Nat) : Int) = min (L : Int) (j : Int) := by omega
          have HFs : Hid ((F.set j true).length = i) := by show _ = _; rw [List.length_set]; exact hF.out
          generalize F.getD j false = x at *
          cases x with
          | false =>
            simp only [Bool.false_eq_true, if_false] at CP
            go_wp2_with fail
            go_region_held3 (fun w' => w'.cell? ⟨f, j, none⟩ = some (.bool false)) (first | exact c1 | exact q1) (first | (go_at_call 12; refine (CP.out _ pr.drew).mono ?_; rintro e we ⟨rfl, pe, oe, ze⟩; have re := oe.row rr.drew (Or.inr HF.out); have q1 : we.cell? ⟨f, j, none⟩ = some (.bool false) := (re.cell j).trans ((rr.cell j).symm.trans c1)))
            have Ze := Lib.hid ze
            have be : Below w.heap.size w we := br.trans (show Below w.heap.size wr we from (show Below w.heap.size wr wr.drew from (Below.refl _ _).drew).trans (oe.belowB (Nat.le_trans HB.out (by show B ≤ wr.heap.size; omega)) HB.out))
            have fe := re.frozen j
            have rs := re.set j (.bool true)
            rw [P8.bools_set] at rs
            clear ze oe CP c1 rr pr br
            go_wp2
            go_roundw
            case rel => exact ⟨k + 1, F.set j true, min L j, by omega, by go_num, by first | rfl | (congr 1; split <;> omega), HFs, HL', pe.out ((Out.refl f (f + 1) we).setCell (Nat.le_refl _) (by omega) _) (Or.inr HF.out), rs, be.setCell (by show w.heap.size ≤ f; have := HF.out; have := HB.out; omega) _⟩
            case measure => simp [intOf]; omega
          | true =>
            simp only [if_true] at CP
            go_wp2_with fail
            go_region_held3 (fun w' => w'.cell? ⟨f, j, none⟩ = some (.bool true)) (first | exact c1 | exact q1) (first | (go_at_call 12; refine (CP.out _ pr.drew).mono ?_; rintro e we ⟨rfl, pe, oe, ze⟩; have re := oe.row rr.drew (Or.inr HF.out); have q1 : we.cell? ⟨f, j, none⟩ = some (.bool true) := (re.cell j).trans ((rr.cell j).symm.trans c1)))
            have Ze := Lib.hid ze
            have be : Below w.heap.size w we := br.trans (show Below w.heap.size wr we from (show Below w.heap.size wr wr.drew from (Below.refl _ _).drew).trans (oe.belowB (Nat.le_trans HB.out (by show B ≤ wr.heap.size; omega)) HB.out))
            have fe := re.frozen j
            have rs := re.set j (.bool true)
            rw [P8.bools_set] at rs
            clear ze oe CP c1 rr pr br
            go_wp2
            go_roundw
            case rel => exact ⟨k + 1, F.set j true, min L j, by omega, by go_num, by first | rfl | (congr 1; split <;> omega), HFs, HL', pe.out ((Out.refl f (f + 1) we).setCell (Nat.le_refl _) (by omega) _) (Or.inr HF.out), rs, be.setCell (by show w.heap.size ≤ f; have := HF.out; have := HB.out; omega) _⟩
            case measure => simp [intOf]; omega
        · obtain rfl : k = len1 := by omega
          have hgo : ¬ (k : Int) < k := by omega
          by_cases hL : L < i
          · have CG := Lib.hid (get_yes B i L (P8.fs F) i ⟨#[121]⟩ wr pr (by decide) hL (HL.first_yes (by rw [hF.out]; exact hL)) (by omega))
            have hsr : w.heap.size ≤ wr.heap.size := br.size
            have hL' : (L : Int) < i := by omega
            have hne : ¬ (L : Int) = i := by omega
            go_wp2_with fail
            refine CG.out.mono ?_
            rintro e we ⟨rfl, pe, oe, ze⟩
            have be := br.trans (oe.belowB hsr HB.out)
            clear CG oe ze pe pr rr
            go_wp2
            go_ret
            exact ⟨rfl, be⟩
          · obtain rfl : L = i := by omega
            have CG := Lib.hid (get_full B L (P8.fs F) L ⟨#[121]⟩ wr pr (by decide) (by have := HL; rw [← hF.out] at this; exact this.first_no))
            go_wp2_with fail
            refine CG.out.mono ?_
            rintro e wr ⟨rfl, rfl⟩
            clear CG pr rr
            go_wp2
            go_ret
            exact ⟨rfl, br⟩

set_option maxRecDepth 20000 in
set_option maxHeartbeats 4000000 in
theorem walk (a0 : Int) (a1 : Option Addr) (len1 cap1 : Nat) (z1 : List Int) (w : World) (w0 : (Lit.int .i64 a0).wf = true) (w1 : IsRow .u8 w a1 len1 cap1 z1) :
    Calls Try.prog 6 #[.int .i64 a0, .slice a1 len1 cap1] w fun e w' => e = .returned (.bool true) ∧ Below w.heap.size w w' := by
  by_cases h : 1 ≤ a0 ∧ a0 ≤ 256 ∧ len1 ≤ 40
  · obtain ⟨n, rfl⟩ : ∃ n : Nat, a0 = (n : Int) := ⟨a0.toNat, by omega⟩
    exact core n a1 len1 cap1 z1 w (by omega) (by omega) h.2.2 w1
  · have C0 := Lib.hid (awake8_any w)
    clear w1 w0
    go_enter Try.func6, Try.ntmps6
    go_wp2_with fail
    refine C0.out.mono ?_
    rintro e wa ⟨rfl, ba⟩
    clear C0
    by_cases h1 : a0 < 1
    · clear h
      go_wp2
      go_ret
      exact ⟨rfl, ba⟩
    · by_cases h2 : 256 < a0
      · clear h
        go_wp2
        go_ret
        exact ⟨rfl, ba⟩
      · have h3 : (40 : Int) < len1 := by omega
        clear h
        go_wp2
        go_ret
        exact ⟨rfl, ba⟩

end Go.Proofs.Ytealpdofcgbnlaa.PoolFillsW
