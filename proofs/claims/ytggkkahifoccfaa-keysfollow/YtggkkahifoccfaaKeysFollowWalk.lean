/-
  Layer 13: KeysFollow, the walk: of what is typed on, and forgotten as far as both have it, the one follows the other.
-/
import Derived.Test.YtggkkahifoccfaaKOf
import Derived.Test.YtggkkahifoccfaaPStrs
import Derived.Deep.Cut
namespace Go.Proofs.Ytggkkahifoccfaa.KeysFollowW
open Go.RowKit
set_option linter.unusedVariables false
set_option linter.unusedSimpArgs false
set_option maxRecDepth 20000

set_option maxHeartbeats 4000000 in
theorem type_fullB (f : Nat) (t s : ByteArray) (ht : t.size ≤ 256) (hs : 256 < t.size + s.size) (h4 : s.size ≤ 9223372036854775807) (w : World) :
    Calls Try.prog 19 #[.agg #[.int .u64 (f : Int), .string t], .string s] w fun e w' => e = .returned (.tuple #[.agg #[.int .u64 (f : Int), .string t], .int .i64 12]) ∧ Below w.heap.size w w' := by
  have r1 : Row ((w.alloc (.cells #[.int .u64 (f : Int), .string t] 27 (0, 0))).alloc (.cells #[.int .u64 0, .string ⟨#[]⟩] 27 (0, 0))) w.heap.size 27 [.int .u64 (f : Int), .string t] := (Row.new' rfl rfl).alloc _
  have q1 : Row ((w.alloc (.cells #[.int .u64 (f : Int), .string t] 27 (0, 0))).alloc (.cells #[.int .u64 0, .string ⟨#[]⟩] 27 (0, 0))) (w.heap.size + 1) 27 [.int .u64 0, .string ⟨#[]⟩] := Row.new' rfl (by simp)
  have b1 : Below w.heap.size w ((w.alloc (.cells #[.int .u64 (f : Int), .string t] 27 (0, 0))).alloc (.cells #[.int .u64 0, .string ⟨#[]⟩] 27 (0, 0))) := ((Below.refl _ _).alloc (Nat.le_refl _) _).alloc (by simp) _
  have g1 : (256 : Int) - (t.size : Int) < (s.size : Int) := by omega
  have g2 : (t.size : Int) ≤ 256 := by omega
  go_enter Try.func19, Try.ntmps19
  go_wp2_with (refine wpList_store_row rfl 27 (.tmp 4) (.tmp 13) rfl (w.heap.size + 1) _ rfl rfl _ _ q1 infoKeys rfl (by simp [Value.oneCell']) ?_)
  exact bodyPost_ret (results_row_tmp rfl _ _ (w.heap.size + 1) 27 [.int .u64 (f : Int), .string t] _ rfl (q1.setRow [.int .u64 (f : Int), .string t]) Try.underlying27 rfl infoKeys) rfl ⟨rfl, below_row b1 (by omega) _⟩

set_option maxHeartbeats 8000000 in
theorem walk (a0 : Option Addr) (len0 cap0 : Nat) (z0 : Nat → ByteArray) (a1 : Int) (w : World) (w0 : InStrs w a0 len0 cap0 z0) (w1 : (Lit.int .u32 a1).wf = true) :
    Calls Try.prog 5 #[.slice a0 len0 cap0, .int .u32 a1] w fun e w' => e = .returned (.bool true) ∧ Below w.heap.size w w' := by
  obtain ⟨z1, z2⟩ := Go.bounds_u32 w1
  obtain ⟨n, rfl⟩ := Int.eq_ofNat_of_zero_le z1
  obtain ⟨hlc, hcm, hin⟩ := w0
  unfold maxLen at hcm
  have HIN := Lib.hid hin
  clear hin w1 z1
  have CA : Hid (∀ wx, Calls Try.prog 7 #[] wx fun e w' => e = .returned (.bool true) ∧ Below wx.heap.size wx w') := fun wx => awake13_any wx
  by_cases h20 : len0 ≤ 20
  · have g1 : ¬ (20 : Int) < len0 := by omega
    go_enter Try.func5, Try.ntmps5
    go_wp2_with fail
    refine (CA.out _).mono ?_
    rintro e wa ⟨rfl, bb⟩
    clear CA
    have r5 : Row ((wa.alloc (.cells #[.int .u64 0, .string ⟨#[]⟩] 27 (0, 0))).alloc (.cells #[.int .u64 0, .string ⟨#[]⟩] 27 (0, 0))) wa.heap.size 27 [.int .u64 0, .string ⟨#[]⟩] := (Row.new' rfl rfl).alloc _
    have r6 : Row ((wa.alloc (.cells #[.int .u64 0, .string ⟨#[]⟩] 27 (0, 0))).alloc (.cells #[.int .u64 0, .string ⟨#[]⟩] 27 (0, 0))) (wa.heap.size + 1) 27 [.int .u64 0, .string ⟨#[]⟩] := Row.new' rfl (by simp)
    have lz := bb.size
    have hHI : Hid (∀ wx, Below w.heap.size w wx → ∀ bk off i, a0 = some ⟨bk, off, none⟩ → i < len0 → wx.cell? ⟨bk, off + i, none⟩ = some (.string (z0 i)) ∧ (z0 i).size ≤ maxLen) := fun wx bx bk off i ha hi => by
      obtain ⟨b', o', h1, h2, h3⟩ := HIN.out (by omega)
      rw [h1] at ha
      cases ha
      exact ⟨(bx.cell (p := ⟨bk, _, none⟩) h2).trans (h3 i hi).1, (h3 i hi).2⟩
    have hSO : Hid (0 < len0 → ∃ bk off, a0 = some ⟨bk, off, none⟩) := fun h0 => by
      obtain ⟨b', o', h1, _⟩ := HIN.out h0
      exact ⟨b', o', h1⟩
    replace bb : Below w.heap.size w ((wa.alloc (.cells #[.int .u64 0, .string ⟨#[]⟩] 27 (0, 0))).alloc (.cells #[.int .u64 0, .string ⟨#[]⟩] 27 (0, 0))) := (bb.alloc bb.size _).alloc (by simp; omega) _
    clear HIN
    go_wp2
    obtain ⟨g, hg⟩ : ∃ g, g = wa.heap.size := ⟨_, rfl⟩
    rw [← hg] at r5 r6 lz ⊢
    generalize (wa.alloc (.cells #[.int .u64 0, .string ⟨#[]⟩] 27 (0, 0))).alloc (.cells #[.int .u64 0, .string ⟨#[]⟩] 27 (0, 0)) = wz at *
    clear hg
    go_loopw [26] (fun iv wr => ∃ (k fa fb : Nat) (ta tb : ByteArray), k ≤ len0 ∧ iv = .int .i64 (k : Int) ∧ fb + tb.size ≤ 256 * k ∧ tb.size ≤ 256 ∧ ta.size ≤ 256 ∧ Hid (K13.Same fa ta fb tb) ∧ Row wr g 27 [.int .u64 (fa : Int), .string ta] ∧ Row wr (g + 1) 27 [.int .u64 (fb : Int), .string tb] ∧ Below w.heap.size w wr) (fun iv _ => len0 - (intOf iv).toNat)
    case atStart => exact ⟨0, 0, 0, ⟨#[]⟩, ⟨#[]⟩, Nat.zero_le _, rfl, by decide, by decide, by decide, K13.Same.refl _ _, r5, r6, bb⟩
    case round =>
      clear r5 r6 bb
      obtain ⟨k, fa, fb, ta, tb, hk, rfl, hfb, htb, hta, HS, r5, r6, bb⟩ := hrel
      by_cases hlt : k < len0
      · have hs : (k : Int) < len0 := by omega
        obtain ⟨bk, off, rfl⟩ := hSO.out (by omega)
        obtain ⟨c0, hsz⟩ := hHI.out wr bb bk off k rfl hlt
        generalize z0 k = s at *
        unfold maxLen at hsz
        by_cases hfit : tb.size + s.size ≤ 256
        · obtain ⟨X, hX⟩ : ∃ X : ByteArray, X = tb ++ s := ⟨_, rfl⟩
          have hXs : X.size = tb.size + s.size := by rw [hX, ByteArray.size_append]
          obtain ⟨E, hE⟩ : ∃ E, E = fb + X.size := ⟨_, rfl⟩
          have hse := HS.out.1
          have CT : Hid (∀ wx, Calls Try.prog 19 #[.agg #[.int .u64 (fb : Int), .string tb], .string s] wx fun e w' => e = .returned (.tuple #[.agg #[.int .u64 (fb : Int), .string X], .int .i64 0]) ∧ Below wx.heap.size wx w') := fun wx => by rw [hX]; exact type_ok fb tb s (by omega) hfit wx
          have CDf : Hid (∀ wx, Calls Try.prog 12 #[.agg #[.int .u64 (fa : Int), .string ta], .agg #[.int .u64 (fb : Int), .string X]] wx fun e w' => e = .returned (.tuple #[.string s, .int .i64 0]) ∧ Below wx.heap.size wx w') := fun wx => by
            have := diff_any fa ta fb X (by omega) (by omega) (by omega) wx
            rw [(K13.since_yes (f := fb) (t := X) (n := fa + ta.size) (by omega) (by omega)).1, (K13.since_yes (f := fb) (t := X) (n := fa + ta.size) (by omega) (by omega)).2, show fa + ta.size - fb = tb.size by omega, hX, K13.cut_app, ← hX] at this
            exact this
          have CD1 : Hid (∀ wx, Calls Try.prog 16 #[.agg #[.int .u64 (fa : Int), .string ta], .string s] wx fun e w' => e = .returned (.tuple #[.agg #[.int .u64 ((K13.doN fa ta s : Nat) : Int), .string (K13.doT fa ta s)], .int .i64 0]) ∧ Below wx.heap.size wx w') := fun wx => do_any fa ta s (by omega) (by omega) wx
          have HSX : Hid (K13.Same (K13.doN fa ta s) (K13.doT fa ta s) fb X) := by
            show K13.Same _ _ _ _
            rw [hX]
            exact (HS.out.app s).forget _
          have hx1 := K13.do_end fa ta s
          have hx2 := K13.do_size fa ta s
          generalize K13.doN fa ta s = xN at *
          generalize K13.doT fa ta s = xT at *
          have CSm : Hid (∀ wx, Calls Try.prog 14 #[.agg #[.int .u64 (xN : Int), .string xT], .agg #[.int .u64 (fb : Int), .string X]] wx fun e w' => e = .returned (.bool true) ∧ Below wx.heap.size wx w') := fun wx => by
            have := same_any13 xN xT fb X (by omega) (by omega) (by omega) (by omega) wx
            rw [(K13.sameB_iff xN xT fb X).2 HSX.out] at this
            exact this
          have CE1 : Hid (∀ wx, Calls Try.prog 20 #[.agg #[.int .u64 (xN : Int), .string xT]] wx fun e w' => e = .returned (.tuple #[.int .u64 (xN : Int), .int .u64 (E : Int)]) ∧ Below wx.heap.size wx w') := fun wx => by
            have := ends_any xN xT (by omega) wx
            rw [show xN + xT.size = E by omega] at this
            exact this
          have CF1 : Hid (∀ wx, Calls Try.prog 21 #[.agg #[.int .u64 (fb : Int), .string X], .int .u64 (E : Int)] wx fun e w' => e = .returned (.agg #[.int .u64 (E : Int), .string ⟨#[]⟩]) ∧ Below wx.heap.size wx w') := fun wx => by
            have := forget_any fb E X (by omega) (by omega) wx
            rw [show K13.fgtN fb X E = E by unfold K13.fgtN; omega, show K13.fgtT fb X E = ⟨#[]⟩ from K13.cut_all X (by omega)] at this
            exact this
          have CE2 : Hid (∀ wx, Calls Try.prog 20 #[.agg #[.int .u64 (E : Int), .string ⟨#[]⟩]] wx fun e w' => e = .returned (.tuple #[.int .u64 (E : Int), .int .u64 (E : Int)]) ∧ Below wx.heap.size wx w') := fun wx => by
            have := ends_any E ⟨#[]⟩ (by show E + 0 ≤ _; omega) wx
            rw [show E + (⟨#[]⟩ : ByteArray).size = E from rfl] at this
            exact this
          have HB1 : Hid (fb + X.size ≤ 256 * (k + 1) ∧ X.size ≤ 256 ∧ xT.size ≤ 256) := ⟨by omega, by omega, hx2⟩
          have HB2 : Hid (E ≤ 256 * (k + 1) ∧ xN + xT.size = E ∧ fb + X.size = E) := ⟨by omega, by omega, by omega⟩
          have HS1 : Hid (K13.Same xN xT E ⟨#[]⟩) := ⟨by have := HB2.out.2.1; rw [this]; rfl, .inr (List.nil_suffix)⟩
          clear hX hXs hE hse hx1 hx2 HS hfit hfb htb hta
          go_wp2_with (first | refine wpList_load_row rfl 27 (.tmp 6) rfl ((g + 1)) rfl _ _ _ _ r6 Try.underlying27 rfl infoKeys ?_)
          refine (CT.out _).mono ?_
          rintro e wa41 ⟨rfl, bwa41⟩
          replace r5 := r5.below bwa41 r5.lt
          replace r6 := r6.below bwa41 r6.lt
          replace bb := bb.trans (bwa41.mono bb.size)
          clear bwa41
          have c : Row (wa41.alloc (.cells #[.int .u64 (fb : Int), .string X] 27 (0, 0))) wa41.heap.size 27 [.int .u64 (fb : Int), .string X] := Row.new' rfl rfl
          have lr5c : g < wa41.heap.size := r5.lt
          have lr6c : (g + 1) < wa41.heap.size := r6.lt
          have lzc := bb.size
          replace r5 := r5.alloc (.cells #[.int .u64 (fb : Int), .string X] 27 (0, 0))
          replace r6 := r6.alloc (.cells #[.int .u64 (fb : Int), .string X] 27 (0, 0))
          replace bb := bb.alloc bb.size (.cells #[.int .u64 (fb : Int), .string X] 27 (0, 0))
          go_wp2_with (first | refine wpList_load_row rfl 27 (.tmp 9) rfl (wa41.heap.size) rfl _ _ _ _ c Try.underlying27 rfl infoKeys ?_ | refine wpList_store_row rfl 27 (.tmp 6) (.tmp 41) rfl ((g + 1)) _ rfl rfl _ _ r6 infoKeys rfl (by simp [Value.oneCell']) ?_ | refine wpList_load_row rfl 27 (.tmp 5) rfl (g) rfl _ _ _ _ (r5.setRow_other (k := (g + 1)) (by omega) (List.toArray [.int .u64 (fb : Int), .string X])) Try.underlying27 rfl infoKeys ?_ | refine wpList_load_row rfl 27 (.tmp 6) rfl ((g + 1)) rfl _ _ _ _ (r6.setRow [.int .u64 (fb : Int), .string X]) Try.underlying27 rfl infoKeys ?_)
          obtain ⟨gc, hgc⟩ : ∃ gc, gc = wa41.heap.size := ⟨_, rfl⟩
          rw [← hgc] at c lr5c lr6c lzc ⊢
          generalize wa41.alloc (.cells #[.int .u64 (fb : Int), .string X] 27 (0, 0)) = wa42 at *
          clear hgc
          replace r5 := r5.setRow_other (k := (g + 1)) (by omega) (List.toArray [.int .u64 (fb : Int), .string X])
          replace r6 := r6.setRow [.int .u64 (fb : Int), .string X]
          replace c := c.setRow_other (k := (g + 1)) (by omega) (List.toArray [.int .u64 (fb : Int), .string X])
          replace bb := below_row bb (show _ ≤ (g + 1) by omega) (List.toArray [.int .u64 (fb : Int), .string X])
          generalize wa42.setRow ((g + 1)) (List.toArray [.int .u64 (fb : Int), .string X]) = wa43 at *
          clear c
          refine (CDf.out _).mono ?_
          rintro e wa44 ⟨rfl, bwa44⟩
          replace r5 := r5.below bwa44 r5.lt
          replace r6 := r6.below bwa44 r6.lt
          replace bb := bb.trans (bwa44.mono bb.size)
          clear bwa44
          go_wp2_with (first | refine wpList_load_row rfl 27 (.tmp 5) rfl (g) rfl _ _ _ _ r5 Try.underlying27 rfl infoKeys ?_)
          refine (CD1.out _).mono ?_
          rintro e wa45 ⟨rfl, bwa45⟩
          replace r5 := r5.below bwa45 r5.lt
          replace r6 := r6.below bwa45 r6.lt
          replace bb := bb.trans (bwa45.mono bb.size)
          clear bwa45
          have x : Row (wa45.alloc (.cells #[.int .u64 (xN : Int), .string xT] 27 (0, 0))) wa45.heap.size 27 [.int .u64 (xN : Int), .string xT] := Row.new' rfl rfl
          have lr5x : g < wa45.heap.size := r5.lt
          have lr6x : (g + 1) < wa45.heap.size := r6.lt
          have lzx := bb.size
          replace r5 := r5.alloc (.cells #[.int .u64 (xN : Int), .string xT] 27 (0, 0))
          replace r6 := r6.alloc (.cells #[.int .u64 (xN : Int), .string xT] 27 (0, 0))
          replace bb := bb.alloc bb.size (.cells #[.int .u64 (xN : Int), .string xT] 27 (0, 0))
          go_wp2_with (first | refine wpList_rowT (by rfl) 27 (.tmp 13) rfl (wa45.heap.size) rfl _ _ _ (x) Try.underlying27 rfl infoKeys ?_ | refine wpList_rowT (by rfl) 27 (.tmp 6) rfl ((g + 1)) rfl _ _ _ (r6) Try.underlying27 rfl infoKeys ?_)
          obtain ⟨gx, hgx⟩ : ∃ gx, gx = wa45.heap.size := ⟨_, rfl⟩
          rw [← hgx] at x lr5x lr6x lzx ⊢
          generalize wa45.alloc (.cells #[.int .u64 (xN : Int), .string xT] 27 (0, 0)) = wa46 at *
          clear hgx
          refine (CSm.out _).mono ?_
          rintro e wa47 ⟨rfl, bwa47⟩
          replace r5 := r5.below bwa47 r5.lt
          replace r6 := r6.below bwa47 r6.lt
          replace x := x.below bwa47 x.lt
          replace bb := bb.trans (bwa47.mono bb.size)
          clear bwa47
          go_wp2_with (first | refine wpList_load_row rfl 27 (.tmp 13) rfl (gx) rfl _ _ _ _ x Try.underlying27 rfl infoKeys ?_ | refine wpList_store_row rfl 27 (.tmp 5) (.tmp 71) rfl (g) _ rfl rfl _ _ r5 infoKeys rfl (by simp [Value.oneCell']) ?_ | refine wpList_load_row rfl 27 (.tmp 5) rfl (g) rfl _ _ _ _ (r5.setRow [.int .u64 (xN : Int), .string xT]) Try.underlying27 rfl infoKeys ?_)
          · replace r5 := r5.setRow [.int .u64 (xN : Int), .string xT]
            replace r6 := r6.setRow_other (k := g) (by omega) (List.toArray [.int .u64 (xN : Int), .string xT])
            replace x := x.setRow_other (k := g) (by omega) (List.toArray [.int .u64 (xN : Int), .string xT])
            replace bb := below_row bb (show _ ≤ g by omega) (List.toArray [.int .u64 (xN : Int), .string xT])
            generalize wa47.setRow g (List.toArray [.int .u64 (xN : Int), .string xT]) = wa48 at *
            refine (CE1.out _).mono ?_
            rintro e wa49 ⟨rfl, bwa49⟩
            replace r5 := r5.below bwa49 r5.lt
            replace r6 := r6.below bwa49 r6.lt
            replace x := x.below bwa49 x.lt
            replace bb := bb.trans (bwa49.mono bb.size)
            clear bwa49
            go_wp2_with (first | refine wpList_load_row rfl 27 (.tmp 6) rfl ((g + 1)) rfl _ _ _ _ r6 Try.underlying27 rfl infoKeys ?_)
            refine (CF1.out _).mono ?_
            rintro e wa50 ⟨rfl, bwa50⟩
            replace r5 := r5.below bwa50 r5.lt
            replace r6 := r6.below bwa50 r6.lt
            replace x := x.below bwa50 x.lt
            replace bb := bb.trans (bwa50.mono bb.size)
            clear bwa50
            go_wp2_with (first | refine wpList_store_row rfl 27 (.tmp 6) (.tmp 84) rfl ((g + 1)) _ rfl rfl _ _ r6 infoKeys rfl (by simp [Value.oneCell']) ?_ | refine wpList_load_row rfl 27 (.tmp 6) rfl ((g + 1)) rfl _ _ _ _ (r6.setRow [.int .u64 (E : Int), .string ⟨#[]⟩]) Try.underlying27 rfl infoKeys ?_)
            replace r5 := r5.setRow_other (k := (g + 1)) (by omega) (List.toArray [.int .u64 (E : Int), .string ⟨#[]⟩])
            replace r6 := r6.setRow [.int .u64 (E : Int), .string ⟨#[]⟩]
            replace x := x.setRow_other (k := (g + 1)) (by omega) (List.toArray [.int .u64 (E : Int), .string ⟨#[]⟩])
            replace bb := below_row bb (show _ ≤ (g + 1) by omega) (List.toArray [.int .u64 (E : Int), .string ⟨#[]⟩])
            generalize wa50.setRow ((g + 1)) (List.toArray [.int .u64 (E : Int), .string ⟨#[]⟩]) = wa51 at *
            refine (CE2.out _).mono ?_
            rintro e wa52 ⟨rfl, bwa52⟩
            replace r5 := r5.below bwa52 r5.lt
            replace r6 := r6.below bwa52 r6.lt
            replace x := x.below bwa52 x.lt
            replace bb := bb.trans (bwa52.mono bb.size)
            clear bwa52
            go_wp2
            go_roundw
            case rel => exact ⟨k + 1, xN, E, xT, ⟨#[]⟩, by omega, by go_num, HB2.out.1, by decide, HB1.out.2.2, HS1, r5, r6, bb⟩
            case measure => simp [intOf]; omega
          · replace r5 := r5.setRow [.int .u64 (xN : Int), .string xT]
            replace r6 := r6.setRow_other (k := g) (by omega) (List.toArray [.int .u64 (xN : Int), .string xT])
            replace x := x.setRow_other (k := g) (by omega) (List.toArray [.int .u64 (xN : Int), .string xT])
            replace bb := below_row bb (show _ ≤ g by omega) (List.toArray [.int .u64 (xN : Int), .string xT])
            generalize wa47.setRow g (List.toArray [.int .u64 (xN : Int), .string xT]) = wa48 at *
            go_wp2
            go_roundw
            case rel => exact ⟨k + 1, xN, fb, xT, X, by omega, by go_num, HB1.out.1, HB1.out.2.1, HB1.out.2.2, HSX, r5, r6, bb⟩
            case measure => simp [intOf]; omega
        · have CT : Hid (∀ wx, Calls Try.prog 19 #[.agg #[.int .u64 (fb : Int), .string tb], .string s] wx fun e w' => e = .returned (.tuple #[.agg #[.int .u64 (fb : Int), .string tb], .int .i64 12]) ∧ Below wx.heap.size wx w') := fun wx => type_fullB fb tb s htb (by omega) (by omega) wx
          go_wp2_with (first | refine wpList_load_row rfl 27 (.tmp 6) rfl ((g + 1)) rfl _ _ _ _ r6 Try.underlying27 rfl infoKeys ?_)
          refine (CT.out _).mono ?_
          rintro e wa41 ⟨rfl, bwa41⟩
          replace r5 := r5.below bwa41 r5.lt
          replace r6 := r6.below bwa41 r6.lt
          replace bb := bb.trans (bwa41.mono bb.size)
          clear bwa41
          have c : Row (wa41.alloc (.cells #[.int .u64 (fb : Int), .string tb] 27 (0, 0))) wa41.heap.size 27 [.int .u64 (fb : Int), .string tb] := Row.new' rfl rfl
          have lr5c : g < wa41.heap.size := r5.lt
          have lr6c : (g + 1) < wa41.heap.size := r6.lt
          have lzc := bb.size
          replace r5 := r5.alloc (.cells #[.int .u64 (fb : Int), .string tb] 27 (0, 0))
          replace r6 := r6.alloc (.cells #[.int .u64 (fb : Int), .string tb] 27 (0, 0))
          replace bb := bb.alloc bb.size (.cells #[.int .u64 (fb : Int), .string tb] 27 (0, 0))
          go_wp2
          go_ret
          exact ⟨rfl, bb⟩
      · obtain rfl : k = len0 := by omega
        go_wp2
        go_ret
        exact ⟨rfl, bb⟩
  · have g1 : (20 : Int) < len0 := by omega
    go_enter Try.func5, Try.ntmps5
    go_wp2_with fail
    refine (CA.out _).mono ?_
    rintro e wa ⟨rfl, bb⟩
    clear CA
    go_wp2
    go_ret
    exact ⟨rfl, bb⟩

end Go.Proofs.Ytggkkahifoccfaa.KeysFollowW
