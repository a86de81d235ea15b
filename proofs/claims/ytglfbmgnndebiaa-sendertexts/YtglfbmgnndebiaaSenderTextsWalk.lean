/-
  Layer 15: SenderTexts, the walk: any instruction as a text, and back; what any text is.
-/
import Derived.Test.YtglfbmgnndebiaaVLaw
import Derived.Test.YtglfbmgnndebiaaVText
import Derived.Deep.RegionHeld3
namespace Go.Proofs.Ytglfbmgnndebiaa.SenderTextsW
open Go.RowKit
set_option linter.unusedVariables false
set_option linter.unusedSimpArgs false
set_option maxRecDepth 20000

set_option maxHeartbeats 8000000 in
theorem walk (io0 in0 ia0 it0 : Nat) (is0 : ByteArray) (a1 : ByteArray) (w : World) (w0 : io0 ≤ 18446744073709551615 ∧ in0 ≤ 18446744073709551615 ∧ ia0 ≤ 18446744073709551615 ∧ it0 ≤ 18446744073709551615 ∧ is0.size ≤ maxLen) (w1 : a1.size ≤ maxLen) :
    Calls Try.prog 3 #[.agg #[.int .u64 (io0 : Int), .int .u64 (in0 : Int), .int .u64 (ia0 : Int), .int .u64 (it0 : Int), .string is0], .string a1] w fun e w' => e = .returned (.bool true) ∧ Below w.heap.size w w' := by
  obtain ⟨ho, hn, ha, ht, hs⟩ := w0
  unfold maxLen at w1 hs
  have CL := Lib.hid awake15_any
  have r1 : Row (w.alloc (.cells #[.int .u64 (io0 : Int), .int .u64 (in0 : Int), .int .u64 (ia0 : Int), .int .u64 (it0 : Int), .string is0] 24 (0, 0))) w.heap.size 24 [.int .u64 (io0 : Int), .int .u64 (in0 : Int), .int .u64 (ia0 : Int), .int .u64 (it0 : Int), .string is0] := Row.new' rfl rfl
  have bb : Below w.heap.size w (w.alloc (.cells #[.int .u64 (io0 : Int), .int .u64 (in0 : Int), .int .u64 (ia0 : Int), .int .u64 (it0 : Int), .string is0] 24 (0, 0))) := (Below.refl _ _).alloc (Nat.le_refl _) _
  by_cases hb : is0.size ≤ 1000 ∧ a1.size ≤ 1000
  · obtain ⟨hb1, hb2⟩ := hb
    have hmx : ¬ (1000 : Int) < max (is0.size : Int) (a1.size : Int) := by omega
    obtain ⟨X, hX⟩ : ∃ x, x = S15.TX io0 in0 ia0 it0 is0 := ⟨_, rfl⟩
    have hXs : X.size = 32 + is0.size := by rw [hX]; exact S15.TX_size _ _ _ _ _
    have CT : Hid (∀ wx, Calls Try.prog 10 #[.agg #[.int .u64 (io0 : Int), .int .u64 (in0 : Int), .int .u64 (ia0 : Int), .int .u64 (it0 : Int), .string is0]] wx fun e w' => e = .returned (.string X) ∧ Below wx.heap.size wx w') := fun wx => by rw [hX]; exact text15_any io0 in0 ia0 it0 is0 ho hn ha ht (by omega) wx
    have CU : Hid (∀ wx, Calls Try.prog 12 #[.agg #[.int .u64 (io0 : Int), .int .u64 (in0 : Int), .int .u64 (ia0 : Int), .int .u64 (it0 : Int), .string is0]] wx fun e w' => e = .returned (.string X) ∧ Below wx.heap.size wx w') := fun wx => by rw [hX]; exact refText15_any io0 in0 ia0 it0 is0 ho hn ha ht (by omega) wx
    have CP : Hid (∀ wx, Calls Try.prog 9 #[.string X] wx fun e w' => e = .returned (.tuple #[.agg #[.int .u64 (io0 : Int), .int .u64 (in0 : Int), .int .u64 (ia0 : Int), .int .u64 (it0 : Int), .string is0], .int .i64 0]) ∧ Below wx.heap.size wx w') := fun wx => by
      have := parse15_yes X (by omega) (by omega) wx
      rw [hX, (S15.of_TX (d := is0) ho hn ha ht).1, (S15.of_TX (d := is0) ho hn ha ht).2.1, (S15.of_TX (d := is0) ho hn ha ht).2.2.1, (S15.of_TX (d := is0) ho hn ha ht).2.2.2.1, (S15.of_TX (d := is0) ho hn ha ht).2.2.2.2] at this
      rw [hX]
      exact this
    clear hX hXs
    by_cases h32 : 32 ≤ a1.size
    · have CY : Hid (∃ (n0 n1 n2 n3 : Nat) (f4 : ByteArray), (∀ wx, Calls Try.prog 9 #[.string a1] wx fun e w' => e = .returned (.tuple #[.agg #[.int .u64 (n0 : Int), .int .u64 (n1 : Int), .int .u64 (n2 : Int), .int .u64 (n3 : Int), .string f4], .int .i64 0]) ∧ Below wx.heap.size wx w') ∧ (∀ wx, Calls Try.prog 11 #[.string a1] wx fun e w' => e = .returned (.tuple #[.agg #[.int .u64 (n0 : Int), .int .u64 (n1 : Int), .int .u64 (n2 : Int), .int .u64 (n3 : Int), .string f4], .bool true]) ∧ Below wx.heap.size wx w') ∧
          (∀ wx, Calls Try.prog 10 #[.agg #[.int .u64 (n0 : Int), .int .u64 (n1 : Int), .int .u64 (n2 : Int), .int .u64 (n3 : Int), .string f4]] wx fun e w' => e = .returned (.string a1) ∧ Below wx.heap.size wx w')) := by
        obtain ⟨l0, l1, l2, l3⟩ := S15.p_len h32
        refine ⟨_, _, _, _, _, fun wx => parse15_yes a1 h32 (by omega) wx, fun wx => refParse15_yes a1 h32 (by omega) wx, fun wx => ?_⟩
        have := text15_any (W.getN (S15.p0 a1)) (W.getN (S15.p1 a1)) (W.getN (S15.p2 a1)) (W.getN (S15.p3 a1)) ⟨(S15.p4 a1).toArray⟩ (S15.getN8 l0) (S15.getN8 l1) (S15.getN8 l2) (S15.getN8 l3) (by show (S15.p4 a1).toArray.size ≤ _; have := S15.list_size a1; unfold S15.p4; simp; omega) wx
        rw [S15.TX_of h32] at this
        exact this
      obtain ⟨n0, n1, n2, n3, f4, c1, c2, c3⟩ := CY.out
      have CY1 := Lib.hid c1
      have CY2 := Lib.hid c2
      have CY3 := Lib.hid c3
      clear CY c1 c2 c3
      go_enter Try.func3, Try.ntmps3
      go_wp2_with fail
      generalize w.alloc (.cells #[.int .u64 (io0 : Int), .int .u64 (in0 : Int), .int .u64 (ia0 : Int), .int .u64 (it0 : Int), .string is0] 24 (0, 0)) = w1 at *
      refine (CL.out _).mono ?_
      rintro e wa2 ⟨rfl, bwa2⟩
      replace r1 := r1.below bwa2 r1.lt
      replace bb := bb.trans (bwa2.mono bb.size)
      clear bwa2
      have cr14 : wa2.cell? ⟨w.heap.size, 4, none⟩ = some (.string is0) := r1.cell 4
      have tok3 : True := True.intro
      go_wp2_with (first | (refine at_op (.load 24 (.tmp 2)) (by with_reducible rfl) ?_; clear tok3; refine wpList_load_row rfl 24 (.tmp 2) rfl (w.heap.size) rfl _ _ _ _ r1 Try.underlying24 rfl infoIn ?_))
      clear cr14
      refine (CT.out _).mono ?_
      rintro e wa4 ⟨rfl, bwa4⟩
      replace r1 := r1.below bwa4 r1.lt
      replace bb := bb.trans (bwa4.mono bb.size)
      clear bwa4
      go_wp2_with fail
      refine (CP.out _).mono ?_
      rintro e wa5 ⟨rfl, bwa5⟩
      replace r1 := r1.below bwa5 r1.lt
      replace bb := bb.trans (bwa5.mono bb.size)
      clear bwa5
      have x5 : Row (wa5.alloc (.cells #[.int .u64 0, .int .u64 0, .int .u64 0, .int .u64 0, .string ⟨#[]⟩] 24 (0, 0))) wa5.heap.size 24 ([.int .u64 0, .int .u64 0, .int .u64 0, .int .u64 0, .string ⟨#[]⟩]) := Row.new' rfl rfl
      have lr1x5 : w.heap.size < wa5.heap.size := r1.lt
      have lzx5 := bb.size
      replace r1 := (r1).alloc (.cells #[.int .u64 0, .int .u64 0, .int .u64 0, .int .u64 0, .string ⟨#[]⟩] 24 (0, 0))
      replace bb := (bb).alloc bb.size (.cells #[.int .u64 0, .int .u64 0, .int .u64 0, .int .u64 0, .string ⟨#[]⟩] 24 (0, 0))
      have tok6 : True := True.intro
      go_wp2_with (first | (refine at_op (.store 24 (.tmp 5) (.tmp 24)) (by with_reducible rfl) ?_; clear tok6; refine wpList_store_row rfl 24 (.tmp 5) (.tmp 24) rfl (wa5.heap.size) _ rfl rfl _ _ x5 infoIn rfl (by first | (simp [Value.oneCell']; done) | exact S15.Sn.c_all _ _ _) ?_))
      obtain ⟨p5, hp5⟩ : ∃ p5, p5 = wa5.heap.size := ⟨_, rfl⟩
      rw [← hp5] at x5 lr1x5 lzx5 ⊢
      generalize wa5.alloc (.cells #[.int .u64 0, .int .u64 0, .int .u64 0, .int .u64 0, .string ⟨#[]⟩] 24 (0, 0)) = wa7 at *
      clear hp5
      replace r1 := r1.setRow_other (k := p5) (by omega) (List.toArray ([.int .u64 (io0 : Int), .int .u64 (in0 : Int), .int .u64 (ia0 : Int), .int .u64 (it0 : Int), .string is0]))
      replace x5 := x5.setRow ([.int .u64 (io0 : Int), .int .u64 (in0 : Int), .int .u64 (ia0 : Int), .int .u64 (it0 : Int), .string is0])
      replace bb := below_row bb (show _ ≤ p5 by omega) (List.toArray ([.int .u64 (io0 : Int), .int .u64 (in0 : Int), .int .u64 (ia0 : Int), .int .u64 (it0 : Int), .string is0]))
      generalize wa7.setRow p5 (List.toArray ([.int .u64 (io0 : Int), .int .u64 (in0 : Int), .int .u64 (ia0 : Int), .int .u64 (it0 : Int), .string is0])) = wa8 at *
      refine (CY1.out _).mono ?_
      rintro e wa9 ⟨rfl, bwa9⟩
      replace r1 := r1.below bwa9 r1.lt
      replace x5 := x5.below bwa9 x5.lt
      replace bb := bb.trans (bwa9.mono bb.size)
      clear bwa9
      have x7 : Row (wa9.alloc (.cells #[.int .u64 0, .int .u64 0, .int .u64 0, .int .u64 0, .string ⟨#[]⟩] 24 (0, 0))) wa9.heap.size 24 ([.int .u64 0, .int .u64 0, .int .u64 0, .int .u64 0, .string ⟨#[]⟩]) := Row.new' rfl rfl
      have lr1x7 : w.heap.size < wa9.heap.size := r1.lt
      have lx5x7 : p5 < wa9.heap.size := x5.lt
      have lzx7 := bb.size
      replace r1 := (r1).alloc (.cells #[.int .u64 0, .int .u64 0, .int .u64 0, .int .u64 0, .string ⟨#[]⟩] 24 (0, 0))
      replace x5 := (x5).alloc (.cells #[.int .u64 0, .int .u64 0, .int .u64 0, .int .u64 0, .string ⟨#[]⟩] 24 (0, 0))
      replace bb := (bb).alloc bb.size (.cells #[.int .u64 0, .int .u64 0, .int .u64 0, .int .u64 0, .string ⟨#[]⟩] 24 (0, 0))
      have tok10 : True := True.intro
      go_wp2_with (first | (refine at_op (.store 24 (.tmp 7) (.tmp 29)) (by with_reducible rfl) ?_; clear tok10; refine wpList_store_row rfl 24 (.tmp 7) (.tmp 29) rfl (wa9.heap.size) _ rfl rfl _ _ x7 infoIn rfl (by first | (simp [Value.oneCell']; done) | exact S15.Sn.c_all _ _ _) ?_))
      obtain ⟨p7, hp7⟩ : ∃ p7, p7 = wa9.heap.size := ⟨_, rfl⟩
      rw [← hp7] at x7 lr1x7 lx5x7 lzx7 ⊢
      generalize wa9.alloc (.cells #[.int .u64 0, .int .u64 0, .int .u64 0, .int .u64 0, .string ⟨#[]⟩] 24 (0, 0)) = wa11 at *
      clear hp7
      replace r1 := r1.setRow_other (k := p7) (by omega) (List.toArray ([.int .u64 (n0 : Int), .int .u64 (n1 : Int), .int .u64 (n2 : Int), .int .u64 (n3 : Int), .string f4]))
      replace x5 := x5.setRow_other (k := p7) (by omega) (List.toArray ([.int .u64 (n0 : Int), .int .u64 (n1 : Int), .int .u64 (n2 : Int), .int .u64 (n3 : Int), .string f4]))
      replace x7 := x7.setRow ([.int .u64 (n0 : Int), .int .u64 (n1 : Int), .int .u64 (n2 : Int), .int .u64 (n3 : Int), .string f4])
      replace bb := below_row bb (show _ ≤ p7 by omega) (List.toArray ([.int .u64 (n0 : Int), .int .u64 (n1 : Int), .int .u64 (n2 : Int), .int .u64 (n3 : Int), .string f4]))
      generalize wa11.setRow p7 (List.toArray ([.int .u64 (n0 : Int), .int .u64 (n1 : Int), .int .u64 (n2 : Int), .int .u64 (n3 : Int), .string f4])) = wa12 at *
      refine (CY2.out _).mono ?_
      rintro e wa13 ⟨rfl, bwa13⟩
      replace r1 := r1.below bwa13 r1.lt
      replace x5 := x5.below bwa13 x5.lt
      replace x7 := x7.below bwa13 x7.lt
      replace bb := bb.trans (bwa13.mono bb.size)
      clear bwa13
      have x9 : Row (wa13.alloc (.cells #[.int .u64 0, .int .u64 0, .int .u64 0, .int .u64 0, .string ⟨#[]⟩] 30 (0, 0))) wa13.heap.size 30 ([.int .u64 0, .int .u64 0, .int .u64 0, .int .u64 0, .string ⟨#[]⟩]) := Row.new' rfl rfl
      have lr1x9 : w.heap.size < wa13.heap.size := r1.lt
      have lx5x9 : p5 < wa13.heap.size := x5.lt
      have lx7x9 : p7 < wa13.heap.size := x7.lt
      have lzx9 := bb.size
      replace r1 := (r1).alloc (.cells #[.int .u64 0, .int .u64 0, .int .u64 0, .int .u64 0, .string ⟨#[]⟩] 30 (0, 0))
      replace x5 := (x5).alloc (.cells #[.int .u64 0, .int .u64 0, .int .u64 0, .int .u64 0, .string ⟨#[]⟩] 30 (0, 0))
      replace x7 := (x7).alloc (.cells #[.int .u64 0, .int .u64 0, .int .u64 0, .int .u64 0, .string ⟨#[]⟩] 30 (0, 0))
      replace bb := (bb).alloc bb.size (.cells #[.int .u64 0, .int .u64 0, .int .u64 0, .int .u64 0, .string ⟨#[]⟩] 30 (0, 0))
      have tok14 : True := True.intro
      go_wp2_with (first | (refine at_op (.store 30 (.tmp 9) (.tmp 34)) (by with_reducible rfl) ?_; clear tok14; refine wpList_store_row rfl 30 (.tmp 9) (.tmp 34) rfl (wa13.heap.size) _ rfl rfl _ _ x9 infoRI rfl (by first | (simp [Value.oneCell']; done) | exact S15.Sn.c_all _ _ _) ?_))
      obtain ⟨p9, hp9⟩ : ∃ p9, p9 = wa13.heap.size := ⟨_, rfl⟩
      rw [← hp9] at x9 lr1x9 lx5x9 lx7x9 lzx9 ⊢
      generalize wa13.alloc (.cells #[.int .u64 0, .int .u64 0, .int .u64 0, .int .u64 0, .string ⟨#[]⟩] 30 (0, 0)) = wa15 at *
      clear hp9
      replace r1 := r1.setRow_other (k := p9) (by omega) (List.toArray ([.int .u64 (n0 : Int), .int .u64 (n1 : Int), .int .u64 (n2 : Int), .int .u64 (n3 : Int), .string f4]))
      replace x5 := x5.setRow_other (k := p9) (by omega) (List.toArray ([.int .u64 (n0 : Int), .int .u64 (n1 : Int), .int .u64 (n2 : Int), .int .u64 (n3 : Int), .string f4]))
      replace x7 := x7.setRow_other (k := p9) (by omega) (List.toArray ([.int .u64 (n0 : Int), .int .u64 (n1 : Int), .int .u64 (n2 : Int), .int .u64 (n3 : Int), .string f4]))
      replace x9 := x9.setRow ([.int .u64 (n0 : Int), .int .u64 (n1 : Int), .int .u64 (n2 : Int), .int .u64 (n3 : Int), .string f4])
      replace bb := below_row bb (show _ ≤ p9 by omega) (List.toArray ([.int .u64 (n0 : Int), .int .u64 (n1 : Int), .int .u64 (n2 : Int), .int .u64 (n3 : Int), .string f4]))
      generalize wa15.setRow p9 (List.toArray ([.int .u64 (n0 : Int), .int .u64 (n1 : Int), .int .u64 (n2 : Int), .int .u64 (n3 : Int), .string f4])) = wa16 at *
      go_wp2
      refine wp_region_held_drew (S := fun w' => Row w' w.heap.size 24 [.int .u64 (io0 : Int), .int .u64 (in0 : Int), .int .u64 (ia0 : Int), .int .u64 (it0 : Int), .string is0] ∧ Row w' p5 24 [.int .u64 (io0 : Int), .int .u64 (in0 : Int), .int .u64 (ia0 : Int), .int .u64 (it0 : Int), .string is0] ∧ Row w' p7 24 [.int .u64 (n0 : Int), .int .u64 (n1 : Int), .int .u64 (n2 : Int), .int .u64 (n3 : Int), .string f4] ∧ Row w' p9 30 [.int .u64 (n0 : Int), .int .u64 (n1 : Int), .int .u64 (n2 : Int), .int .u64 (n3 : Int), .string f4] ∧ Below w.heap.size w w') (by kernel_rfl) (⟨r1.drew, x5.drew, x7.drew, x9.drew, bb.drew⟩) (fun hHeld => ?_)
      refine take_d 0 (some 36) (.agg #[.int .u64 (io0 : Int), .int .u64 (in0 : Int), .int .u64 (ia0 : Int), .int .u64 (it0 : Int), .string is0]) rfl (by kernel_rfl) (by kernel_rfl) (by kernel_rfl) (fun _ _ _ h => h) (fun oi h => by cases h; exact yieldsIf_load_mid (by rfl) 24 (.tmp 2) rfl w.heap.size 0 rfl [.int .u64 (io0 : Int), .int .u64 (in0 : Int), .int .u64 (ia0 : Int), .int .u64 (it0 : Int), .string is0] _ (fun w' hS' => hS'.1.range) Try.underlying24 rfl infoIn) hHeld ?_
      try simp only [Act.put, List.setIfInBounds_toArray, List.set_cons_zero, List.set_cons_succ]
      refine take_d 2 (some 38) (.agg #[.int .u64 (io0 : Int), .int .u64 (in0 : Int), .int .u64 (ia0 : Int), .int .u64 (it0 : Int), .string is0]) rfl (by kernel_rfl) (by kernel_rfl) (by kernel_rfl) (fun _ _ _ h => h) (fun oi h => by cases h; exact yieldsIf_load_mid (by rfl) 24 (.tmp 2) rfl w.heap.size 0 rfl [.int .u64 (io0 : Int), .int .u64 (in0 : Int), .int .u64 (ia0 : Int), .int .u64 (it0 : Int), .string is0] _ (fun w' hS' => hS'.1.range) Try.underlying24 rfl infoIn) hHeld ?_
      try simp only [Act.put, List.setIfInBounds_toArray, List.set_cons_zero, List.set_cons_succ]
      refine one_d 1 (some 37) rfl (by kernel_rfl) ?_
      intro o ho hd K hK
      cases ho
      go_simp
      refine (CT.out _).mono ?_
      rintro e v1 ⟨rfl, bb⟩
      have hHeld' := hHeld
      clear hHeld
      have hHeld := hHeld'
      clear hHeld'
      refine hK.out _ _ (⟨hHeld.1.below bb hHeld.1.lt, hHeld.2.1.below bb hHeld.2.1.lt, hHeld.2.2.1.below bb hHeld.2.2.1.lt, hHeld.2.2.2.1.below bb hHeld.2.2.2.1.lt, hHeld.2.2.2.2.trans (bb.mono hHeld.2.2.2.2.size)⟩) (fun hHeld => ?_)
      clear hK K hd bb
      try simp only [Act.put, List.setIfInBounds_toArray, List.set_cons_zero, List.set_cons_succ]
      refine one_d 3 (some 39) rfl (by kernel_rfl) ?_
      intro o ho hd K hK
      cases ho
      go_simp
      refine (CU.out _).mono ?_
      rintro e v2 ⟨rfl, bb⟩
      have hHeld' := hHeld
      clear hHeld
      have hHeld := hHeld'
      clear hHeld'
      refine hK.out _ _ (⟨hHeld.1.below bb hHeld.1.lt, hHeld.2.1.below bb hHeld.2.1.lt, hHeld.2.2.1.below bb hHeld.2.2.1.lt, hHeld.2.2.2.1.below bb hHeld.2.2.2.1.lt, hHeld.2.2.2.2.trans (bb.mono hHeld.2.2.2.2.size)⟩) (fun hHeld => ?_)
      clear hK K hd bb
      try simp only [Act.put, List.setIfInBounds_toArray, List.set_cons_zero, List.set_cons_succ]
      refine take_d 4 (some 40) (.bool true) rfl (by kernel_rfl) (by kernel_rfl) (by kernel_rfl) (fun _ _ _ h => h) (fun oi h => by cases h; exact Or.inl ⟨by rfl, fun w' hS' => by go_simp⟩) hHeld ?_
      try simp only [Act.put, List.setIfInBounds_toArray, List.set_cons_zero, List.set_cons_succ]
      refine take_d 5 (some 41) (.bool true) rfl (by kernel_rfl) (by kernel_rfl) (by kernel_rfl) (fun _ _ _ h => h) (fun oi h => by cases h; exact Or.inl ⟨by rfl, fun w' hS' => by go_simp⟩) hHeld ?_
      try simp only [Act.put, List.setIfInBounds_toArray, List.set_cons_zero, List.set_cons_succ]
      refine take_d 6 (some 42) (.agg #[.int .u64 (io0 : Int), .int .u64 (in0 : Int), .int .u64 (ia0 : Int), .int .u64 (it0 : Int), .string is0]) rfl (by kernel_rfl) (by kernel_rfl) (by kernel_rfl) (fun _ _ _ h => h) (fun oi h => by cases h; exact yieldsIf_load_mid (by rfl) 24 (.tmp 5) rfl p5 0 rfl [.int .u64 (io0 : Int), .int .u64 (in0 : Int), .int .u64 (ia0 : Int), .int .u64 (it0 : Int), .string is0] _ (fun w' hS' => hS'.2.1.range) Try.underlying24 rfl infoIn) hHeld ?_
      try simp only [Act.put, List.setIfInBounds_toArray, List.set_cons_zero, List.set_cons_succ]
      refine take_d 7 (some 43) (.agg #[.int .u64 (io0 : Int), .int .u64 (in0 : Int), .int .u64 (ia0 : Int), .int .u64 (it0 : Int), .string is0]) rfl (by kernel_rfl) (by kernel_rfl) (by kernel_rfl) (fun _ _ _ h => h) (fun oi h => by cases h; exact yieldsIf_load_mid (by rfl) 24 (.tmp 2) rfl w.heap.size 0 rfl [.int .u64 (io0 : Int), .int .u64 (in0 : Int), .int .u64 (ia0 : Int), .int .u64 (it0 : Int), .string is0] _ (fun w' hS' => hS'.1.range) Try.underlying24 rfl infoIn) hHeld ?_
      try simp only [Act.put, List.setIfInBounds_toArray, List.set_cons_zero, List.set_cons_succ]
      refine take_d 8 (some 44) (.bool true) rfl (by kernel_rfl) (by kernel_rfl) (by kernel_rfl) (fun _ _ _ h => h) (fun oi h => by cases h; exact Or.inl ⟨by rfl, fun w' hS' => by go_simp⟩) hHeld ?_
      try simp only [Act.put, List.setIfInBounds_toArray, List.set_cons_zero, List.set_cons_succ]
      refine take_d 9 (some 45) (.bool true) rfl (by kernel_rfl) (by kernel_rfl) (by kernel_rfl) (fun _ _ _ h => h) (fun oi h => by cases h; exact Or.inl ⟨by rfl, fun w' hS' => by go_simp⟩) hHeld ?_
      try simp only [Act.put, List.setIfInBounds_toArray, List.set_cons_zero, List.set_cons_succ]
      refine take_d 10 (some 46) (.bool true) rfl (by kernel_rfl) (by kernel_rfl) (by kernel_rfl) (fun _ _ _ h => h) (fun oi h => by cases h; exact Or.inl ⟨by rfl, fun w' hS' => by go_simp⟩) hHeld ?_
      try simp only [Act.put, List.setIfInBounds_toArray, List.set_cons_zero, List.set_cons_succ]
      refine take_d 11 (some 47) (.int .i64 0) rfl (by kernel_rfl) (by kernel_rfl) (by kernel_rfl) (fun _ _ _ h => h) (fun oi h => by cases h; exact Or.inl ⟨by rfl, fun w' hS' => by go_simp⟩) hHeld ?_
      try simp only [Act.put, List.setIfInBounds_toArray, List.set_cons_zero, List.set_cons_succ]
      refine take_d 12 (some 48) (.bool true) rfl (by kernel_rfl) (by kernel_rfl) (by kernel_rfl) (fun _ _ _ h => h) (fun oi h => by cases h; exact Or.inl ⟨by rfl, fun w' hS' => by go_simp⟩) hHeld ?_
      try simp only [Act.put, List.setIfInBounds_toArray, List.set_cons_zero, List.set_cons_succ]
      refine take_d 13 (some 49) (.bool true) rfl (by kernel_rfl) (by kernel_rfl) (by kernel_rfl) (fun _ _ _ h => h) (fun oi h => by cases h; exact Or.inl ⟨by rfl, fun w' hS' => by go_simp⟩) hHeld ?_
      try simp only [Act.put, List.setIfInBounds_toArray, List.set_cons_zero, List.set_cons_succ]
      refine take_d 14 (some 50) (.bool true) rfl (by kernel_rfl) (by kernel_rfl) (by kernel_rfl) (fun _ _ _ h => h) (fun oi h => by cases h; exact Or.inl ⟨by rfl, fun w' hS' => by go_simp⟩) hHeld ?_
      try simp only [Act.put, List.setIfInBounds_toArray, List.set_cons_zero, List.set_cons_succ]
      refine take_d 15 (some 51) (.agg #[.int .u64 (n0 : Int), .int .u64 (n1 : Int), .int .u64 (n2 : Int), .int .u64 (n3 : Int), .string f4]) rfl (by kernel_rfl) (by kernel_rfl) (by kernel_rfl) (fun _ _ _ h => h) (fun oi h => by cases h; exact yieldsIf_load_mid (by rfl) 24 (.tmp 7) rfl p7 0 rfl [.int .u64 (n0 : Int), .int .u64 (n1 : Int), .int .u64 (n2 : Int), .int .u64 (n3 : Int), .string f4] _ (fun w' hS' => hS'.2.2.1.range) Try.underlying24 rfl infoIn) hHeld ?_
      try simp only [Act.put, List.setIfInBounds_toArray, List.set_cons_zero, List.set_cons_succ]
      refine take_d 16 (some 52) (.agg #[.int .u64 (n0 : Int), .int .u64 (n1 : Int), .int .u64 (n2 : Int), .int .u64 (n3 : Int), .string f4]) rfl (by kernel_rfl) (by kernel_rfl) (by kernel_rfl) (fun _ _ _ h => h) (fun oi h => by cases h; exact yieldsIf_load_mid (by rfl) 30 (.tmp 9) rfl p9 0 rfl [.int .u64 (n0 : Int), .int .u64 (n1 : Int), .int .u64 (n2 : Int), .int .u64 (n3 : Int), .string f4] _ (fun w' hS' => hS'.2.2.2.1.range) Try.underlying30 rfl infoRI) hHeld ?_
      try simp only [Act.put, List.setIfInBounds_toArray, List.set_cons_zero, List.set_cons_succ]
      refine take_d 17 (some 53) (.bool true) rfl (by kernel_rfl) (by kernel_rfl) (by kernel_rfl) (fun _ _ _ h => h) (fun oi h => by cases h; exact Or.inl ⟨by rfl, fun w' hS' => by go_simp⟩) hHeld ?_
      try simp only [Act.put, List.setIfInBounds_toArray, List.set_cons_zero, List.set_cons_succ]
      refine take_d 18 (some 54) (.bool true) rfl (by kernel_rfl) (by kernel_rfl) (by kernel_rfl) (fun _ _ _ h => h) (fun oi h => by cases h; exact Or.inl ⟨by rfl, fun w' hS' => by go_simp⟩) hHeld ?_
      try simp only [Act.put, List.setIfInBounds_toArray, List.set_cons_zero, List.set_cons_succ]
      refine take_d 19 (some 55) (.bool true) rfl (by kernel_rfl) (by kernel_rfl) (by kernel_rfl) (fun _ _ _ h => h) (fun oi h => by cases h; exact Or.inl ⟨by rfl, fun w' hS' => by go_simp⟩) hHeld ?_
      try simp only [Act.put, List.setIfInBounds_toArray, List.set_cons_zero, List.set_cons_succ]
      refine take_d 20 (some 56) (.int .i64 0) rfl (by kernel_rfl) (by kernel_rfl) (by kernel_rfl) (fun _ _ _ h => h) (fun oi h => by cases h; exact Or.inl ⟨by rfl, fun w' hS' => by go_simp⟩) hHeld ?_
      try simp only [Act.put, List.setIfInBounds_toArray, List.set_cons_zero, List.set_cons_succ]
      refine take_d 21 (some 57) (.bool true) rfl (by kernel_rfl) (by kernel_rfl) (by kernel_rfl) (fun _ _ _ h => h) (fun oi h => by cases h; exact Or.inl ⟨by rfl, fun w' hS' => by go_simp⟩) hHeld ?_
      try simp only [Act.put, List.setIfInBounds_toArray, List.set_cons_zero, List.set_cons_succ]
      refine take_d 22 (some 58) (.bool true) rfl (by kernel_rfl) (by kernel_rfl) (by kernel_rfl) (fun _ _ _ h => h) (fun oi h => by cases h; exact Or.inl ⟨by rfl, fun w' hS' => by go_simp⟩) hHeld ?_
      try simp only [Act.put, List.setIfInBounds_toArray, List.set_cons_zero, List.set_cons_succ]
      refine take_d 23 (some 59) (.bool true) rfl (by kernel_rfl) (by kernel_rfl) (by kernel_rfl) (fun _ _ _ h => h) (fun oi h => by cases h; exact Or.inl ⟨by rfl, fun w' hS' => by go_simp⟩) hHeld ?_
      try simp only [Act.put, List.setIfInBounds_toArray, List.set_cons_zero, List.set_cons_succ]
      refine take_d 24 (some 60) (.bool true) rfl (by kernel_rfl) (by kernel_rfl) (by kernel_rfl) (fun _ _ _ h => h) (fun oi h => by cases h; exact Or.inl ⟨by rfl, fun w' hS' => by go_simp⟩) hHeld ?_
      try simp only [Act.put, List.setIfInBounds_toArray, List.set_cons_zero, List.set_cons_succ]
      refine take_d 25 (some 61) (.bool true) rfl (by kernel_rfl) (by kernel_rfl) (by kernel_rfl) (fun _ _ _ h => h) (fun oi h => by cases h; exact Or.inl ⟨by rfl, fun w' hS' => by go_simp⟩) hHeld ?_
      try simp only [Act.put, List.setIfInBounds_toArray, List.set_cons_zero, List.set_cons_succ]
      refine take_d 26 (some 62) (.bool true) rfl (by kernel_rfl) (by kernel_rfl) (by kernel_rfl) (fun _ _ _ h => h) (fun oi h => by cases h; exact Or.inl ⟨by rfl, fun w' hS' => by go_simp⟩) hHeld ?_
      try simp only [Act.put, List.setIfInBounds_toArray, List.set_cons_zero, List.set_cons_succ]
      refine take_d 27 (some 63) (.bool true) rfl (by kernel_rfl) (by kernel_rfl) (by kernel_rfl) (fun _ _ _ h => h) (fun oi h => by cases h; exact Or.inl ⟨by rfl, fun w' hS' => by go_simp⟩) hHeld ?_
      try simp only [Act.put, List.setIfInBounds_toArray, List.set_cons_zero, List.set_cons_succ]
      refine take_d 28 (some 64) (.agg #[.int .u64 (n0 : Int), .int .u64 (n1 : Int), .int .u64 (n2 : Int), .int .u64 (n3 : Int), .string f4]) rfl (by kernel_rfl) (by kernel_rfl) (by kernel_rfl) (fun _ _ _ h => h) (fun oi h => by cases h; exact yieldsIf_load_mid (by rfl) 24 (.tmp 7) rfl p7 0 rfl [.int .u64 (n0 : Int), .int .u64 (n1 : Int), .int .u64 (n2 : Int), .int .u64 (n3 : Int), .string f4] _ (fun w' hS' => hS'.2.2.1.range) Try.underlying24 rfl infoIn) hHeld ?_
      try simp only [Act.put, List.setIfInBounds_toArray, List.set_cons_zero, List.set_cons_succ]
      refine take_d 30 (some 66) (.string a1) rfl (by kernel_rfl) (by kernel_rfl) (by kernel_rfl) (fun _ _ _ h => h) (fun oi h => by cases h; exact Or.inl ⟨by rfl, fun w' hS' => by go_simp⟩) hHeld ?_
      try simp only [Act.put, List.setIfInBounds_toArray, List.set_cons_zero, List.set_cons_succ]
      refine one_d 29 (some 65) rfl (by kernel_rfl) ?_
      intro o ho hd K hK
      cases ho
      go_simp
      refine (CY3.out _).mono ?_
      rintro e v3 ⟨rfl, bb⟩
      have hHeld' := hHeld
      clear hHeld
      have hHeld := hHeld'
      clear hHeld'
      refine hK.out _ _ (⟨hHeld.1.below bb hHeld.1.lt, hHeld.2.1.below bb hHeld.2.1.lt, hHeld.2.2.1.below bb hHeld.2.2.1.lt, hHeld.2.2.2.1.below bb hHeld.2.2.2.1.lt, hHeld.2.2.2.2.trans (bb.mono hHeld.2.2.2.2.size)⟩) (fun hHeld => ?_)
      clear hK K hd bb
      try simp only [Act.put, List.setIfInBounds_toArray, List.set_cons_zero, List.set_cons_succ]
      refine take_d 31 (some 67) (.bool true) rfl (by kernel_rfl) (by kernel_rfl) (by kernel_rfl) (fun _ _ _ h => h) (fun oi h => by cases h; exact Or.inl ⟨by rfl, fun w' hS' => by go_simp⟩) hHeld ?_
      try simp only [Act.put, List.setIfInBounds_toArray, List.set_cons_zero, List.set_cons_succ]
      refine take_d 32 (some 68) (.bool true) rfl (by kernel_rfl) (by kernel_rfl) (by kernel_rfl) (fun _ _ _ h => h) (fun oi h => by cases h; exact Or.inl ⟨by rfl, fun w' hS' => by go_simp⟩) hHeld ?_
      try simp only [Act.put, List.setIfInBounds_toArray, List.set_cons_zero, List.set_cons_succ]
      refine take_d 33 (some 69) (.bool true) rfl (by kernel_rfl) (by kernel_rfl) (by kernel_rfl) (fun _ _ _ h => h) (fun oi h => by cases h; exact Or.inl ⟨by rfl, fun w' hS' => by go_simp⟩) hHeld ?_
      try simp only [Act.put, List.setIfInBounds_toArray, List.set_cons_zero, List.set_cons_succ]
      refine take_d 34 (some 70) (undef) rfl (by kernel_rfl) (by kernel_rfl) (by kernel_rfl) (fun _ _ _ h => h) (fun oi h => by cases h; exact Or.inr ⟨by rfl, rfl⟩) hHeld ?_
      try simp only [Act.put, List.setIfInBounds_toArray, List.set_cons_zero, List.set_cons_succ]
      refine take_d 35 (some 71) (undef) rfl (by kernel_rfl) (by kernel_rfl) (by kernel_rfl) (fun _ _ _ h => h) (fun oi h => by cases h; exact Or.inr ⟨by rfl, rfl⟩) hHeld ?_
      try simp only [Act.put, List.setIfInBounds_toArray, List.set_cons_zero, List.set_cons_succ]
      refine take_d 36 (some 72) (undef) rfl (by kernel_rfl) (by kernel_rfl) (by kernel_rfl) (fun _ _ _ h => h) (fun oi h => by cases h; exact Or.inr ⟨by rfl, rfl⟩) hHeld ?_
      try simp only [Act.put, List.setIfInBounds_toArray, List.set_cons_zero, List.set_cons_succ]
      refine take_d 37 (some 73) (undef) rfl (by kernel_rfl) (by kernel_rfl) (by kernel_rfl) (fun _ _ _ h => h) (fun oi h => by cases h; exact Or.inr ⟨by rfl, rfl⟩) hHeld ?_
      try simp only [Act.put, List.setIfInBounds_toArray, List.set_cons_zero, List.set_cons_succ]
      refine take_d 38 (some 74) (undef) rfl (by kernel_rfl) (by kernel_rfl) (by kernel_rfl) (fun _ _ _ h => h) (fun oi h => by cases h; exact Or.inr ⟨by rfl, rfl⟩) hHeld ?_
      try simp only [Act.put, List.setIfInBounds_toArray, List.set_cons_zero, List.set_cons_succ]
      refine take_d 39 (some 75) (undef) rfl (by kernel_rfl) (by kernel_rfl) (by kernel_rfl) (fun _ _ _ h => h) (fun oi h => by cases h; exact Or.inr ⟨by rfl, rfl⟩) hHeld ?_
      try simp only [Act.put, List.setIfInBounds_toArray, List.set_cons_zero, List.set_cons_succ]
      refine take_d 40 (some 76) (.bool true) rfl (by kernel_rfl) (by kernel_rfl) (by kernel_rfl) (fun _ _ _ h => h) (fun oi h => by cases h; exact Or.inl ⟨by rfl, fun w' hS' => by go_simp⟩) hHeld ?_
      try simp only [Act.put, List.setIfInBounds_toArray, List.set_cons_zero, List.set_cons_succ]
      refine take_d 41 (some 77) (.bool true) rfl (by kernel_rfl) (by kernel_rfl) (by kernel_rfl) (fun _ _ _ h => h) (fun oi h => by cases h; exact Or.inl ⟨by rfl, fun w' hS' => by go_simp⟩) hHeld ?_
      try simp only [Act.put, List.setIfInBounds_toArray, List.set_cons_zero, List.set_cons_succ]
      refine take_d 42 (some 4) (.bool true) rfl (by kernel_rfl) (by kernel_rfl) (by kernel_rfl) (fun _ _ _ h => h) (fun oi h => by cases h; exact Or.inl ⟨by rfl, fun w' hS' => by go_simp⟩) hHeld ?_
      try simp only [Act.put, List.setIfInBounds_toArray, List.set_cons_zero, List.set_cons_succ]
      refine wpAnyH_done (by kernel_rfl) ?_ _
      try simp only [Act.put]
      have hb := hHeld.2.2.2.2
      go_wp2
      go_ret
      exact ⟨rfl, hb⟩
    · have CY1 : Hid (∀ wx, Calls Try.prog 9 #[.string a1] wx fun e w' => e = .returned (.tuple #[.agg #[.int .u64 0, .int .u64 0, .int .u64 0, .int .u64 0, .string ⟨#[]⟩], .int .i64 3]) ∧ Below wx.heap.size wx w') := fun wx => parse15_no a1 (by omega) wx
      have CY2 : Hid (∀ wx, Calls Try.prog 11 #[.string a1] wx fun e w' => e = .returned (.tuple #[.agg #[.int .u64 0, .int .u64 0, .int .u64 0, .int .u64 0, .string ⟨#[]⟩], .bool false]) ∧ Below wx.heap.size wx w') := fun wx => refParse15_no a1 (by omega) wx
      go_enter Try.func3, Try.ntmps3
      go_wp2_with fail
      generalize w.alloc (.cells #[.int .u64 (io0 : Int), .int .u64 (in0 : Int), .int .u64 (ia0 : Int), .int .u64 (it0 : Int), .string is0] 24 (0, 0)) = w1 at *
      refine (CL.out _).mono ?_
      rintro e wa2 ⟨rfl, bwa2⟩
      replace r1 := r1.below bwa2 r1.lt
      replace bb := bb.trans (bwa2.mono bb.size)
      clear bwa2
      have cr14 : wa2.cell? ⟨w.heap.size, 4, none⟩ = some (.string is0) := r1.cell 4
      have tok3 : True := True.intro
      go_wp2_with (first | (refine at_op (.load 24 (.tmp 2)) (by with_reducible rfl) ?_; clear tok3; refine wpList_load_row rfl 24 (.tmp 2) rfl (w.heap.size) rfl _ _ _ _ r1 Try.underlying24 rfl infoIn ?_))
      clear cr14
      refine (CT.out _).mono ?_
      rintro e wa4 ⟨rfl, bwa4⟩
      replace r1 := r1.below bwa4 r1.lt
      replace bb := bb.trans (bwa4.mono bb.size)
      clear bwa4
      go_wp2_with fail
      refine (CP.out _).mono ?_
      rintro e wa5 ⟨rfl, bwa5⟩
      replace r1 := r1.below bwa5 r1.lt
      replace bb := bb.trans (bwa5.mono bb.size)
      clear bwa5
      have x5 : Row (wa5.alloc (.cells #[.int .u64 0, .int .u64 0, .int .u64 0, .int .u64 0, .string ⟨#[]⟩] 24 (0, 0))) wa5.heap.size 24 ([.int .u64 0, .int .u64 0, .int .u64 0, .int .u64 0, .string ⟨#[]⟩]) := Row.new' rfl rfl
      have lr1x5 : w.heap.size < wa5.heap.size := r1.lt
      have lzx5 := bb.size
      replace r1 := (r1).alloc (.cells #[.int .u64 0, .int .u64 0, .int .u64 0, .int .u64 0, .string ⟨#[]⟩] 24 (0, 0))
      replace bb := (bb).alloc bb.size (.cells #[.int .u64 0, .int .u64 0, .int .u64 0, .int .u64 0, .string ⟨#[]⟩] 24 (0, 0))
      have tok6 : True := True.intro
      go_wp2_with (first | (refine at_op (.store 24 (.tmp 5) (.tmp 24)) (by with_reducible rfl) ?_; clear tok6; refine wpList_store_row rfl 24 (.tmp 5) (.tmp 24) rfl (wa5.heap.size) _ rfl rfl _ _ x5 infoIn rfl (by first | (simp [Value.oneCell']; done) | exact S15.Sn.c_all _ _ _) ?_))
      obtain ⟨p5, hp5⟩ : ∃ p5, p5 = wa5.heap.size := ⟨_, rfl⟩
      rw [← hp5] at x5 lr1x5 lzx5 ⊢
      generalize wa5.alloc (.cells #[.int .u64 0, .int .u64 0, .int .u64 0, .int .u64 0, .string ⟨#[]⟩] 24 (0, 0)) = wa7 at *
      clear hp5
      replace r1 := r1.setRow_other (k := p5) (by omega) (List.toArray ([.int .u64 (io0 : Int), .int .u64 (in0 : Int), .int .u64 (ia0 : Int), .int .u64 (it0 : Int), .string is0]))
      replace x5 := x5.setRow ([.int .u64 (io0 : Int), .int .u64 (in0 : Int), .int .u64 (ia0 : Int), .int .u64 (it0 : Int), .string is0])
      replace bb := below_row bb (show _ ≤ p5 by omega) (List.toArray ([.int .u64 (io0 : Int), .int .u64 (in0 : Int), .int .u64 (ia0 : Int), .int .u64 (it0 : Int), .string is0]))
      generalize wa7.setRow p5 (List.toArray ([.int .u64 (io0 : Int), .int .u64 (in0 : Int), .int .u64 (ia0 : Int), .int .u64 (it0 : Int), .string is0])) = wa8 at *
      refine (CY1.out _).mono ?_
      rintro e wa9 ⟨rfl, bwa9⟩
      replace r1 := r1.below bwa9 r1.lt
      replace x5 := x5.below bwa9 x5.lt
      replace bb := bb.trans (bwa9.mono bb.size)
      clear bwa9
      have x7 : Row (wa9.alloc (.cells #[.int .u64 0, .int .u64 0, .int .u64 0, .int .u64 0, .string ⟨#[]⟩] 24 (0, 0))) wa9.heap.size 24 ([.int .u64 0, .int .u64 0, .int .u64 0, .int .u64 0, .string ⟨#[]⟩]) := Row.new' rfl rfl
      have lr1x7 : w.heap.size < wa9.heap.size := r1.lt
      have lx5x7 : p5 < wa9.heap.size := x5.lt
      have lzx7 := bb.size
      replace r1 := (r1).alloc (.cells #[.int .u64 0, .int .u64 0, .int .u64 0, .int .u64 0, .string ⟨#[]⟩] 24 (0, 0))
      replace x5 := (x5).alloc (.cells #[.int .u64 0, .int .u64 0, .int .u64 0, .int .u64 0, .string ⟨#[]⟩] 24 (0, 0))
      replace bb := (bb).alloc bb.size (.cells #[.int .u64 0, .int .u64 0, .int .u64 0, .int .u64 0, .string ⟨#[]⟩] 24 (0, 0))
      have tok10 : True := True.intro
      go_wp2_with (first | (refine at_op (.store 24 (.tmp 7) (.tmp 29)) (by with_reducible rfl) ?_; clear tok10; refine wpList_store_row rfl 24 (.tmp 7) (.tmp 29) rfl (wa9.heap.size) _ rfl rfl _ _ x7 infoIn rfl (by first | (simp [Value.oneCell']; done) | exact S15.Sn.c_all _ _ _) ?_))
      obtain ⟨p7, hp7⟩ : ∃ p7, p7 = wa9.heap.size := ⟨_, rfl⟩
      rw [← hp7] at x7 lr1x7 lx5x7 lzx7 ⊢
      generalize wa9.alloc (.cells #[.int .u64 0, .int .u64 0, .int .u64 0, .int .u64 0, .string ⟨#[]⟩] 24 (0, 0)) = wa11 at *
      clear hp7
      replace r1 := r1.setRow_other (k := p7) (by omega) (List.toArray ([.int .u64 0, .int .u64 0, .int .u64 0, .int .u64 0, .string ⟨#[]⟩]))
      replace x5 := x5.setRow_other (k := p7) (by omega) (List.toArray ([.int .u64 0, .int .u64 0, .int .u64 0, .int .u64 0, .string ⟨#[]⟩]))
      replace x7 := x7.setRow ([.int .u64 0, .int .u64 0, .int .u64 0, .int .u64 0, .string ⟨#[]⟩])
      replace bb := below_row bb (show _ ≤ p7 by omega) (List.toArray ([.int .u64 0, .int .u64 0, .int .u64 0, .int .u64 0, .string ⟨#[]⟩]))
      generalize wa11.setRow p7 (List.toArray ([.int .u64 0, .int .u64 0, .int .u64 0, .int .u64 0, .string ⟨#[]⟩])) = wa12 at *
      refine (CY2.out _).mono ?_
      rintro e wa13 ⟨rfl, bwa13⟩
      replace r1 := r1.below bwa13 r1.lt
      replace x5 := x5.below bwa13 x5.lt
      replace x7 := x7.below bwa13 x7.lt
      replace bb := bb.trans (bwa13.mono bb.size)
      clear bwa13
      have x9 : Row (wa13.alloc (.cells #[.int .u64 0, .int .u64 0, .int .u64 0, .int .u64 0, .string ⟨#[]⟩] 30 (0, 0))) wa13.heap.size 30 ([.int .u64 0, .int .u64 0, .int .u64 0, .int .u64 0, .string ⟨#[]⟩]) := Row.new' rfl rfl
      have lr1x9 : w.heap.size < wa13.heap.size := r1.lt
      have lx5x9 : p5 < wa13.heap.size := x5.lt
      have lx7x9 : p7 < wa13.heap.size := x7.lt
      have lzx9 := bb.size
      replace r1 := (r1).alloc (.cells #[.int .u64 0, .int .u64 0, .int .u64 0, .int .u64 0, .string ⟨#[]⟩] 30 (0, 0))
      replace x5 := (x5).alloc (.cells #[.int .u64 0, .int .u64 0, .int .u64 0, .int .u64 0, .string ⟨#[]⟩] 30 (0, 0))
      replace x7 := (x7).alloc (.cells #[.int .u64 0, .int .u64 0, .int .u64 0, .int .u64 0, .string ⟨#[]⟩] 30 (0, 0))
      replace bb := (bb).alloc bb.size (.cells #[.int .u64 0, .int .u64 0, .int .u64 0, .int .u64 0, .string ⟨#[]⟩] 30 (0, 0))
      have tok14 : True := True.intro
      go_wp2_with (first | (refine at_op (.store 30 (.tmp 9) (.tmp 34)) (by with_reducible rfl) ?_; clear tok14; refine wpList_store_row rfl 30 (.tmp 9) (.tmp 34) rfl (wa13.heap.size) _ rfl rfl _ _ x9 infoRI rfl (by first | (simp [Value.oneCell']; done) | exact S15.Sn.c_all _ _ _) ?_))
      obtain ⟨p9, hp9⟩ : ∃ p9, p9 = wa13.heap.size := ⟨_, rfl⟩
      rw [← hp9] at x9 lr1x9 lx5x9 lx7x9 lzx9 ⊢
      generalize wa13.alloc (.cells #[.int .u64 0, .int .u64 0, .int .u64 0, .int .u64 0, .string ⟨#[]⟩] 30 (0, 0)) = wa15 at *
      clear hp9
      replace r1 := r1.setRow_other (k := p9) (by omega) (List.toArray ([.int .u64 0, .int .u64 0, .int .u64 0, .int .u64 0, .string ⟨#[]⟩]))
      replace x5 := x5.setRow_other (k := p9) (by omega) (List.toArray ([.int .u64 0, .int .u64 0, .int .u64 0, .int .u64 0, .string ⟨#[]⟩]))
      replace x7 := x7.setRow_other (k := p9) (by omega) (List.toArray ([.int .u64 0, .int .u64 0, .int .u64 0, .int .u64 0, .string ⟨#[]⟩]))
      replace x9 := x9.setRow ([.int .u64 0, .int .u64 0, .int .u64 0, .int .u64 0, .string ⟨#[]⟩])
      replace bb := below_row bb (show _ ≤ p9 by omega) (List.toArray ([.int .u64 0, .int .u64 0, .int .u64 0, .int .u64 0, .string ⟨#[]⟩]))
      generalize wa15.setRow p9 (List.toArray ([.int .u64 0, .int .u64 0, .int .u64 0, .int .u64 0, .string ⟨#[]⟩])) = wa16 at *
      go_wp2
      refine wp_region_held_drew (S := fun w' => Row w' w.heap.size 24 [.int .u64 (io0 : Int), .int .u64 (in0 : Int), .int .u64 (ia0 : Int), .int .u64 (it0 : Int), .string is0] ∧ Row w' p5 24 [.int .u64 (io0 : Int), .int .u64 (in0 : Int), .int .u64 (ia0 : Int), .int .u64 (it0 : Int), .string is0] ∧ Row w' p7 24 [.int .u64 0, .int .u64 0, .int .u64 0, .int .u64 0, .string ⟨#[]⟩] ∧ Row w' p9 30 [.int .u64 0, .int .u64 0, .int .u64 0, .int .u64 0, .string ⟨#[]⟩] ∧ Below w.heap.size w w') (by kernel_rfl) (⟨r1.drew, x5.drew, x7.drew, x9.drew, bb.drew⟩) (fun hHeld => ?_)
      refine take_d 0 (some 36) (.agg #[.int .u64 (io0 : Int), .int .u64 (in0 : Int), .int .u64 (ia0 : Int), .int .u64 (it0 : Int), .string is0]) rfl (by kernel_rfl) (by kernel_rfl) (by kernel_rfl) (fun _ _ _ h => h) (fun oi h => by cases h; exact yieldsIf_load_mid (by rfl) 24 (.tmp 2) rfl w.heap.size 0 rfl [.int .u64 (io0 : Int), .int .u64 (in0 : Int), .int .u64 (ia0 : Int), .int .u64 (it0 : Int), .string is0] _ (fun w' hS' => hS'.1.range) Try.underlying24 rfl infoIn) hHeld ?_
      try simp only [Act.put, List.setIfInBounds_toArray, List.set_cons_zero, List.set_cons_succ]
      refine take_d 2 (some 38) (.agg #[.int .u64 (io0 : Int), .int .u64 (in0 : Int), .int .u64 (ia0 : Int), .int .u64 (it0 : Int), .string is0]) rfl (by kernel_rfl) (by kernel_rfl) (by kernel_rfl) (fun _ _ _ h => h) (fun oi h => by cases h; exact yieldsIf_load_mid (by rfl) 24 (.tmp 2) rfl w.heap.size 0 rfl [.int .u64 (io0 : Int), .int .u64 (in0 : Int), .int .u64 (ia0 : Int), .int .u64 (it0 : Int), .string is0] _ (fun w' hS' => hS'.1.range) Try.underlying24 rfl infoIn) hHeld ?_
      try simp only [Act.put, List.setIfInBounds_toArray, List.set_cons_zero, List.set_cons_succ]
      refine one_d 1 (some 37) rfl (by kernel_rfl) ?_
      intro o ho hd K hK
      cases ho
      go_simp
      refine (CT.out _).mono ?_
      rintro e v1 ⟨rfl, bb⟩
      have hHeld' := hHeld
      clear hHeld
      have hHeld := hHeld'
      clear hHeld'
      refine hK.out _ _ (⟨hHeld.1.below bb hHeld.1.lt, hHeld.2.1.below bb hHeld.2.1.lt, hHeld.2.2.1.below bb hHeld.2.2.1.lt, hHeld.2.2.2.1.below bb hHeld.2.2.2.1.lt, hHeld.2.2.2.2.trans (bb.mono hHeld.2.2.2.2.size)⟩) (fun hHeld => ?_)
      clear hK K hd bb
      try simp only [Act.put, List.setIfInBounds_toArray, List.set_cons_zero, List.set_cons_succ]
      refine one_d 3 (some 39) rfl (by kernel_rfl) ?_
      intro o ho hd K hK
      cases ho
      go_simp
      refine (CU.out _).mono ?_
      rintro e v2 ⟨rfl, bb⟩
      have hHeld' := hHeld
      clear hHeld
      have hHeld := hHeld'
      clear hHeld'
      refine hK.out _ _ (⟨hHeld.1.below bb hHeld.1.lt, hHeld.2.1.below bb hHeld.2.1.lt, hHeld.2.2.1.below bb hHeld.2.2.1.lt, hHeld.2.2.2.1.below bb hHeld.2.2.2.1.lt, hHeld.2.2.2.2.trans (bb.mono hHeld.2.2.2.2.size)⟩) (fun hHeld => ?_)
      clear hK K hd bb
      try simp only [Act.put, List.setIfInBounds_toArray, List.set_cons_zero, List.set_cons_succ]
      refine take_d 4 (some 40) (.bool true) rfl (by kernel_rfl) (by kernel_rfl) (by kernel_rfl) (fun _ _ _ h => h) (fun oi h => by cases h; exact Or.inl ⟨by rfl, fun w' hS' => by go_simp⟩) hHeld ?_
      try simp only [Act.put, List.setIfInBounds_toArray, List.set_cons_zero, List.set_cons_succ]
      refine take_d 5 (some 41) (.bool true) rfl (by kernel_rfl) (by kernel_rfl) (by kernel_rfl) (fun _ _ _ h => h) (fun oi h => by cases h; exact Or.inl ⟨by rfl, fun w' hS' => by go_simp⟩) hHeld ?_
      try simp only [Act.put, List.setIfInBounds_toArray, List.set_cons_zero, List.set_cons_succ]
      refine take_d 6 (some 42) (.agg #[.int .u64 (io0 : Int), .int .u64 (in0 : Int), .int .u64 (ia0 : Int), .int .u64 (it0 : Int), .string is0]) rfl (by kernel_rfl) (by kernel_rfl) (by kernel_rfl) (fun _ _ _ h => h) (fun oi h => by cases h; exact yieldsIf_load_mid (by rfl) 24 (.tmp 5) rfl p5 0 rfl [.int .u64 (io0 : Int), .int .u64 (in0 : Int), .int .u64 (ia0 : Int), .int .u64 (it0 : Int), .string is0] _ (fun w' hS' => hS'.2.1.range) Try.underlying24 rfl infoIn) hHeld ?_
      try simp only [Act.put, List.setIfInBounds_toArray, List.set_cons_zero, List.set_cons_succ]
      refine take_d 7 (some 43) (.agg #[.int .u64 (io0 : Int), .int .u64 (in0 : Int), .int .u64 (ia0 : Int), .int .u64 (it0 : Int), .string is0]) rfl (by kernel_rfl) (by kernel_rfl) (by kernel_rfl) (fun _ _ _ h => h) (fun oi h => by cases h; exact yieldsIf_load_mid (by rfl) 24 (.tmp 2) rfl w.heap.size 0 rfl [.int .u64 (io0 : Int), .int .u64 (in0 : Int), .int .u64 (ia0 : Int), .int .u64 (it0 : Int), .string is0] _ (fun w' hS' => hS'.1.range) Try.underlying24 rfl infoIn) hHeld ?_
      try simp only [Act.put, List.setIfInBounds_toArray, List.set_cons_zero, List.set_cons_succ]
      refine take_d 8 (some 44) (.bool true) rfl (by kernel_rfl) (by kernel_rfl) (by kernel_rfl) (fun _ _ _ h => h) (fun oi h => by cases h; exact Or.inl ⟨by rfl, fun w' hS' => by go_simp⟩) hHeld ?_
      try simp only [Act.put, List.setIfInBounds_toArray, List.set_cons_zero, List.set_cons_succ]
      refine take_d 9 (some 45) (.bool true) rfl (by kernel_rfl) (by kernel_rfl) (by kernel_rfl) (fun _ _ _ h => h) (fun oi h => by cases h; exact Or.inl ⟨by rfl, fun w' hS' => by go_simp⟩) hHeld ?_
      try simp only [Act.put, List.setIfInBounds_toArray, List.set_cons_zero, List.set_cons_succ]
      refine take_d 10 (some 46) (.bool true) rfl (by kernel_rfl) (by kernel_rfl) (by kernel_rfl) (fun _ _ _ h => h) (fun oi h => by cases h; exact Or.inl ⟨by rfl, fun w' hS' => by go_simp⟩) hHeld ?_
      try simp only [Act.put, List.setIfInBounds_toArray, List.set_cons_zero, List.set_cons_succ]
      refine take_d 11 (some 47) (.int .i64 0) rfl (by kernel_rfl) (by kernel_rfl) (by kernel_rfl) (fun _ _ _ h => h) (fun oi h => by cases h; exact Or.inl ⟨by rfl, fun w' hS' => by go_simp⟩) hHeld ?_
      try simp only [Act.put, List.setIfInBounds_toArray, List.set_cons_zero, List.set_cons_succ]
      refine take_d 12 (some 48) (.bool true) rfl (by kernel_rfl) (by kernel_rfl) (by kernel_rfl) (fun _ _ _ h => h) (fun oi h => by cases h; exact Or.inl ⟨by rfl, fun w' hS' => by go_simp⟩) hHeld ?_
      try simp only [Act.put, List.setIfInBounds_toArray, List.set_cons_zero, List.set_cons_succ]
      refine take_d 13 (some 49) (.bool true) rfl (by kernel_rfl) (by kernel_rfl) (by kernel_rfl) (fun _ _ _ h => h) (fun oi h => by cases h; exact Or.inl ⟨by rfl, fun w' hS' => by go_simp⟩) hHeld ?_
      try simp only [Act.put, List.setIfInBounds_toArray, List.set_cons_zero, List.set_cons_succ]
      refine take_d 14 (some 50) (.bool true) rfl (by kernel_rfl) (by kernel_rfl) (by kernel_rfl) (fun _ _ _ h => h) (fun oi h => by cases h; exact Or.inl ⟨by rfl, fun w' hS' => by go_simp⟩) hHeld ?_
      try simp only [Act.put, List.setIfInBounds_toArray, List.set_cons_zero, List.set_cons_succ]
      refine take_d 15 (some 51) (.agg #[.int .u64 0, .int .u64 0, .int .u64 0, .int .u64 0, .string ⟨#[]⟩]) rfl (by kernel_rfl) (by kernel_rfl) (by kernel_rfl) (fun _ _ _ h => h) (fun oi h => by cases h; exact yieldsIf_load_mid (by rfl) 24 (.tmp 7) rfl p7 0 rfl [.int .u64 0, .int .u64 0, .int .u64 0, .int .u64 0, .string ⟨#[]⟩] _ (fun w' hS' => hS'.2.2.1.range) Try.underlying24 rfl infoIn) hHeld ?_
      try simp only [Act.put, List.setIfInBounds_toArray, List.set_cons_zero, List.set_cons_succ]
      refine take_d 16 (some 52) (.agg #[.int .u64 0, .int .u64 0, .int .u64 0, .int .u64 0, .string ⟨#[]⟩]) rfl (by kernel_rfl) (by kernel_rfl) (by kernel_rfl) (fun _ _ _ h => h) (fun oi h => by cases h; exact yieldsIf_load_mid (by rfl) 30 (.tmp 9) rfl p9 0 rfl [.int .u64 0, .int .u64 0, .int .u64 0, .int .u64 0, .string ⟨#[]⟩] _ (fun w' hS' => hS'.2.2.2.1.range) Try.underlying30 rfl infoRI) hHeld ?_
      try simp only [Act.put, List.setIfInBounds_toArray, List.set_cons_zero, List.set_cons_succ]
      refine take_d 17 (some 53) (.bool true) rfl (by kernel_rfl) (by kernel_rfl) (by kernel_rfl) (fun _ _ _ h => h) (fun oi h => by cases h; exact Or.inl ⟨by rfl, fun w' hS' => by go_simp⟩) hHeld ?_
      try simp only [Act.put, List.setIfInBounds_toArray, List.set_cons_zero, List.set_cons_succ]
      refine take_d 18 (some 54) (.bool true) rfl (by kernel_rfl) (by kernel_rfl) (by kernel_rfl) (fun _ _ _ h => h) (fun oi h => by cases h; exact Or.inl ⟨by rfl, fun w' hS' => by go_simp⟩) hHeld ?_
      try simp only [Act.put, List.setIfInBounds_toArray, List.set_cons_zero, List.set_cons_succ]
      refine take_d 19 (some 55) (.bool true) rfl (by kernel_rfl) (by kernel_rfl) (by kernel_rfl) (fun _ _ _ h => h) (fun oi h => by cases h; exact Or.inl ⟨by rfl, fun w' hS' => by go_simp⟩) hHeld ?_
      try simp only [Act.put, List.setIfInBounds_toArray, List.set_cons_zero, List.set_cons_succ]
      refine take_d 20 (some 56) (.int .i64 3) rfl (by kernel_rfl) (by kernel_rfl) (by kernel_rfl) (fun _ _ _ h => h) (fun oi h => by cases h; exact Or.inl ⟨by rfl, fun w' hS' => by go_simp⟩) hHeld ?_
      try simp only [Act.put, List.setIfInBounds_toArray, List.set_cons_zero, List.set_cons_succ]
      refine take_d 21 (some 57) (.bool false) rfl (by kernel_rfl) (by kernel_rfl) (by kernel_rfl) (fun _ _ _ h => h) (fun oi h => by cases h; exact Or.inl ⟨by rfl, fun w' hS' => by go_simp⟩) hHeld ?_
      try simp only [Act.put, List.setIfInBounds_toArray, List.set_cons_zero, List.set_cons_succ]
      refine take_d 22 (some 58) (.bool false) rfl (by kernel_rfl) (by kernel_rfl) (by kernel_rfl) (fun _ _ _ h => h) (fun oi h => by cases h; exact Or.inl ⟨by rfl, fun w' hS' => by go_simp⟩) hHeld ?_
      try simp only [Act.put, List.setIfInBounds_toArray, List.set_cons_zero, List.set_cons_succ]
      refine take_d 23 (some 59) (.bool true) rfl (by kernel_rfl) (by kernel_rfl) (by kernel_rfl) (fun _ _ _ h => h) (fun oi h => by cases h; exact Or.inl ⟨by rfl, fun w' hS' => by go_simp⟩) hHeld ?_
      try simp only [Act.put, List.setIfInBounds_toArray, List.set_cons_zero, List.set_cons_succ]
      refine take_d 24 (some 60) (.bool true) rfl (by kernel_rfl) (by kernel_rfl) (by kernel_rfl) (fun _ _ _ h => h) (fun oi h => by cases h; exact Or.inl ⟨by rfl, fun w' hS' => by go_simp⟩) hHeld ?_
      try simp only [Act.put, List.setIfInBounds_toArray, List.set_cons_zero, List.set_cons_succ]
      refine take_d 25 (some 61) (.bool true) rfl (by kernel_rfl) (by kernel_rfl) (by kernel_rfl) (fun _ _ _ h => h) (fun oi h => by cases h; exact Or.inl ⟨by rfl, fun w' hS' => by go_simp⟩) hHeld ?_
      try simp only [Act.put, List.setIfInBounds_toArray, List.set_cons_zero, List.set_cons_succ]
      refine take_d 26 (some 62) (.bool false) rfl (by kernel_rfl) (by kernel_rfl) (by kernel_rfl) (fun _ _ _ h => h) (fun oi h => by cases h; exact Or.inl ⟨by rfl, fun w' hS' => by go_simp⟩) hHeld ?_
      try simp only [Act.put, List.setIfInBounds_toArray, List.set_cons_zero, List.set_cons_succ]
      refine take_d 27 (some 63) (.bool false) rfl (by kernel_rfl) (by kernel_rfl) (by kernel_rfl) (fun _ _ _ h => h) (fun oi h => by cases h; exact Or.inl ⟨by rfl, fun w' hS' => by go_simp⟩) hHeld ?_
      try simp only [Act.put, List.setIfInBounds_toArray, List.set_cons_zero, List.set_cons_succ]
      refine take_d 28 (some 64) (undef) rfl (by kernel_rfl) (by kernel_rfl) (by kernel_rfl) (fun _ _ _ h => h) (fun oi h => by cases h; exact Or.inr ⟨by rfl, rfl⟩) hHeld ?_
      try simp only [Act.put, List.setIfInBounds_toArray, List.set_cons_zero, List.set_cons_succ]
      refine take_d 29 (some 65) (undef) rfl (by kernel_rfl) (by kernel_rfl) (by kernel_rfl) (fun _ _ _ h => h) (fun oi h => by cases h; exact Or.inr ⟨by rfl, rfl⟩) hHeld ?_
      try simp only [Act.put, List.setIfInBounds_toArray, List.set_cons_zero, List.set_cons_succ]
      refine take_d 30 (some 66) (undef) rfl (by kernel_rfl) (by kernel_rfl) (by kernel_rfl) (fun _ _ _ h => h) (fun oi h => by cases h; exact Or.inr ⟨by rfl, rfl⟩) hHeld ?_
      try simp only [Act.put, List.setIfInBounds_toArray, List.set_cons_zero, List.set_cons_succ]
      refine take_d 31 (some 67) (undef) rfl (by kernel_rfl) (by kernel_rfl) (by kernel_rfl) (fun _ _ _ h => h) (fun oi h => by cases h; exact Or.inr ⟨by rfl, rfl⟩) hHeld ?_
      try simp only [Act.put, List.setIfInBounds_toArray, List.set_cons_zero, List.set_cons_succ]
      refine take_d 32 (some 68) (.bool false) rfl (by kernel_rfl) (by kernel_rfl) (by kernel_rfl) (fun _ _ _ h => h) (fun oi h => by cases h; exact Or.inl ⟨by rfl, fun w' hS' => by go_simp⟩) hHeld ?_
      try simp only [Act.put, List.setIfInBounds_toArray, List.set_cons_zero, List.set_cons_succ]
      refine take_d 33 (some 69) (.bool false) rfl (by kernel_rfl) (by kernel_rfl) (by kernel_rfl) (fun _ _ _ h => h) (fun oi h => by cases h; exact Or.inl ⟨by rfl, fun w' hS' => by go_simp⟩) hHeld ?_
      try simp only [Act.put, List.setIfInBounds_toArray, List.set_cons_zero, List.set_cons_succ]
      refine take_d 34 (some 70) (.bool false) rfl (by kernel_rfl) (by kernel_rfl) (by kernel_rfl) (fun _ _ _ h => h) (fun oi h => by cases h; exact Or.inl ⟨by rfl, fun w' hS' => by go_simp⟩) hHeld ?_
      try simp only [Act.put, List.setIfInBounds_toArray, List.set_cons_zero, List.set_cons_succ]
      refine take_d 35 (some 71) (.bool true) rfl (by kernel_rfl) (by kernel_rfl) (by kernel_rfl) (fun _ _ _ h => h) (fun oi h => by cases h; exact Or.inl ⟨by rfl, fun w' hS' => by go_simp⟩) hHeld ?_
      try simp only [Act.put, List.setIfInBounds_toArray, List.set_cons_zero, List.set_cons_succ]
      refine take_d 36 (some 72) (.bool true) rfl (by kernel_rfl) (by kernel_rfl) (by kernel_rfl) (fun _ _ _ h => h) (fun oi h => by cases h; exact Or.inl ⟨by rfl, fun w' hS' => by go_simp⟩) hHeld ?_
      try simp only [Act.put, List.setIfInBounds_toArray, List.set_cons_zero, List.set_cons_succ]
      refine take_d 37 (some 73) (.int .i64 3) rfl (by kernel_rfl) (by kernel_rfl) (by kernel_rfl) (fun _ _ _ h => h) (fun oi h => by cases h; exact Or.inl ⟨by rfl, fun w' hS' => by go_simp⟩) hHeld ?_
      try simp only [Act.put, List.setIfInBounds_toArray, List.set_cons_zero, List.set_cons_succ]
      refine take_d 38 (some 74) (.bool true) rfl (by kernel_rfl) (by kernel_rfl) (by kernel_rfl) (fun _ _ _ h => h) (fun oi h => by cases h; exact Or.inl ⟨by rfl, fun w' hS' => by go_simp⟩) hHeld ?_
      try simp only [Act.put, List.setIfInBounds_toArray, List.set_cons_zero, List.set_cons_succ]
      refine take_d 39 (some 75) (.bool true) rfl (by kernel_rfl) (by kernel_rfl) (by kernel_rfl) (fun _ _ _ h => h) (fun oi h => by cases h; exact Or.inl ⟨by rfl, fun w' hS' => by go_simp⟩) hHeld ?_
      try simp only [Act.put, List.setIfInBounds_toArray, List.set_cons_zero, List.set_cons_succ]
      refine take_d 40 (some 76) (.bool true) rfl (by kernel_rfl) (by kernel_rfl) (by kernel_rfl) (fun _ _ _ h => h) (fun oi h => by cases h; exact Or.inl ⟨by rfl, fun w' hS' => by go_simp⟩) hHeld ?_
      try simp only [Act.put, List.setIfInBounds_toArray, List.set_cons_zero, List.set_cons_succ]
      refine take_d 41 (some 77) (.bool true) rfl (by kernel_rfl) (by kernel_rfl) (by kernel_rfl) (fun _ _ _ h => h) (fun oi h => by cases h; exact Or.inl ⟨by rfl, fun w' hS' => by go_simp⟩) hHeld ?_
      try simp only [Act.put, List.setIfInBounds_toArray, List.set_cons_zero, List.set_cons_succ]
      refine take_d 42 (some 4) (.bool true) rfl (by kernel_rfl) (by kernel_rfl) (by kernel_rfl) (fun _ _ _ h => h) (fun oi h => by cases h; exact Or.inl ⟨by rfl, fun w' hS' => by go_simp⟩) hHeld ?_
      try simp only [Act.put, List.setIfInBounds_toArray, List.set_cons_zero, List.set_cons_succ]
      refine wpAnyH_done (by kernel_rfl) ?_ _
      try simp only [Act.put]
      have hb := hHeld.2.2.2.2
      go_wp2
      go_ret
      exact ⟨rfl, hb⟩
  · have hmx : (1000 : Int) < max (is0.size : Int) (a1.size : Int) := by omega
    clear hb
    go_enter Try.func3, Try.ntmps3
    go_wp2_with fail
    generalize w.alloc (.cells #[.int .u64 (io0 : Int), .int .u64 (in0 : Int), .int .u64 (ia0 : Int), .int .u64 (it0 : Int), .string is0] 24 (0, 0)) = w1 at *
    refine (CL.out _).mono ?_
    rintro e wa2 ⟨rfl, bwa2⟩
    replace r1 := r1.below bwa2 r1.lt
    replace bb := bb.trans (bwa2.mono bb.size)
    clear bwa2
    have cr14 : wa2.cell? ⟨w.heap.size, 4, none⟩ = some (.string is0) := r1.cell 4
    go_wp2
    go_ret
    exact ⟨rfl, bb⟩

end Go.Proofs.Ytglfbmgnndebiaa.SenderTextsW
