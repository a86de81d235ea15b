/-
  Layer 13: KeysParts, the walk: what is typed in two parts is typed as at once, where both fit; where they don't, the whole doesn't.
-/
import Derived.Test.YtggkkahifoccfaaKOf
import Derived.Deep.Cut
namespace Go.Proofs.Ytggkkahifoccfaa.KeysPartsW
open Go.RowKit
set_option linter.unusedVariables false
set_option linter.unusedSimpArgs false
set_option maxRecDepth 20000

set_option maxHeartbeats 8000000 in
theorem walk (a0 : Option Addr) (len0 cap0 : Nat) (a1 : ByteArray) (a2 : ByteArray) (w : World) (w0 : InActsU w a0 len0 cap0) (w1 : a1.size ≤ maxLen) (w2 : a2.size ≤ maxLen) :
    Calls Try.prog 6 #[.slice a0 len0 cap0, .string a1, .string a2] w fun e w' => e = .returned (.bool true) ∧ Below w.heap.size w w' := by
  unfold maxLen at w1 w2
  have CA : Hid (∀ wx, Calls Try.prog 7 #[] wx fun e w' => e = .returned (.bool true) ∧ Below wx.heap.size wx w') := fun wx => awake13_any wx
  by_cases hl : LightU w a0 len0 40 600
  · have HL := Lib.hid hl
    clear hl w0
    by_cases hm : a1.size ≤ 600 ∧ a2.size ≤ 600
    · obtain ⟨hm1, hm2⟩ := hm
      have hmx : ¬ (600 : Int) < max (a1.size : Int) (a2.size : Int) := by omega
      obtain ⟨ST, hST⟩ : ∃ ST : ByteArray, ST = a1 ++ a2 := ⟨_, rfl⟩
      have hSTs : ST.size = a1.size + a2.size := by rw [hST, ByteArray.size_append]
      have hcc := hST.symm
      have hcs : a1.size + a2.size ≤ 9223372036854775807 := by omega
      have HST := Lib.hid hST
      have HSTS := Lib.hid hSTs
      clear hST hSTs w1 w2
      go_enter Try.func6, Try.ntmps6
      go_wp2_with fail
      refine (CA.out _).mono ?_
      rintro e wa ⟨rfl, ba⟩
      go_wp2_with fail
      refine (light13_yes a0 len0 cap0 wa (HL.out.below ba)).mono ?_
      rintro e wb ⟨rfl, bb0⟩
      have bb := ba.trans (bb0.mono ba.size)
      have HL2 := Lib.hid ((HL.out.below ba).below bb0)
      clear ba bb0 HL CA
      go_wp2_with fail
      refine (of13_any a0 len0 cap0 wb HL2.out).mono ?_
      rintro e wc ⟨f, T, rfl, ⟨hf, hT⟩, bc⟩
      replace bb := bb.trans (bc.mono bb.size)
      clear bc HL2 hmx
      go_wp2_with fail
      have r : Row ((wc.alloc (.cells #[.int .u64 (f : Int), .string T] 27 (0, 0))).alloc (.cells #[.int .u64 (f : Int), .string T] 29 (0, 0))) wc.heap.size 27 [.int .u64 (f : Int), .string T] := (Row.new' rfl rfl).alloc _
      have q : Row ((wc.alloc (.cells #[.int .u64 (f : Int), .string T] 27 (0, 0))).alloc (.cells #[.int .u64 (f : Int), .string T] 29 (0, 0))) (wc.heap.size + 1) 29 [.int .u64 (f : Int), .string T] := Row.new' rfl (by simp)
      have lbr := bb.size
      replace bb : Below w.heap.size w ((wc.alloc (.cells #[.int .u64 (f : Int), .string T] 27 (0, 0))).alloc (.cells #[.int .u64 (f : Int), .string T] 29 (0, 0))) := (bb.alloc bb.size _).alloc (by simp; omega) _
      obtain ⟨gk, hgk⟩ : ∃ g, g = wc.heap.size := ⟨_, rfl⟩
      rw [← hgk] at r q lbr ⊢
      generalize (wc.alloc (.cells #[.int .u64 (f : Int), .string T] 27 (0, 0))).alloc (.cells #[.int .u64 (f : Int), .string T] 29 (0, 0)) = wd at *
      clear hgk
      clear q
      have hST := HST.out
      have hSTs := HSTS.out
      clear HST HSTS
      have hts : T.size ≤ 256 := hT
      by_cases hB : T.size + a1.size ≤ 256
      · obtain ⟨X, hX⟩ : ∃ X : ByteArray, X = T ++ a1 := ⟨_, rfl⟩
        have hXs : X.size = T.size + a1.size := by rw [hX, ByteArray.size_append]
        have C1 : Hid (∀ wx, Calls Try.prog 19 #[.agg #[.int .u64 (f : Int), .string T], .string a1] wx fun e w' => e = .returned (.tuple #[.agg #[.int .u64 (f : Int), .string X], .int .i64 0]) ∧ Below wx.heap.size wx w') := fun wx => by rw [hX]; exact type_ok f T a1 (by omega) hB wx
        by_cases hB2 : X.size + a2.size ≤ 256
        · obtain ⟨Y, hY⟩ : ∃ Y : ByteArray, Y = X ++ a2 := ⟨_, rfl⟩
          have hYs : Y.size = X.size + a2.size := by rw [hY, ByteArray.size_append]
          have hY2 : Y = T ++ ST := by rw [hY, hX, hST, K13.app_assoc]
          have C2 : Hid (∀ wx, Calls Try.prog 19 #[.agg #[.int .u64 (f : Int), .string X], .string a2] wx fun e w' => e = .returned (.tuple #[.agg #[.int .u64 (f : Int), .string Y], .int .i64 0]) ∧ Below wx.heap.size wx w') := fun wx => by rw [hY]; exact type_ok f X a2 (by omega) hB2 wx
          have C3 : Hid (∀ wx, Calls Try.prog 19 #[.agg #[.int .u64 (f : Int), .string T], .string ST] wx fun e w' => e = .returned (.tuple #[.agg #[.int .u64 (f : Int), .string Y], .int .i64 0]) ∧ Below wx.heap.size wx w') := fun wx => by rw [hY2]; exact type_ok f T ST (by omega) (by omega) wx
          obtain ⟨E, hE⟩ : ∃ E, E = f + Y.size := ⟨_, rfl⟩
          have CEn : Hid (∀ wx, Calls Try.prog 20 #[.agg #[.int .u64 (f : Int), .string Y]] wx fun e w' => e = .returned (.tuple #[.int .u64 (f : Int), .int .u64 (E : Int)]) ∧ Below wx.heap.size wx w') := fun wx => by rw [hE]; exact ends_any f Y (by omega) wx
          have CSi : Hid (∀ wx, Calls Try.prog 10 #[.agg #[.int .u64 (f : Int), .string Y], .int .u64 (f : Int)] wx fun e w' => e = .returned (.tuple #[.string Y, .int .i64 0]) ∧ Below wx.heap.size wx w') := fun wx => by
            have := since_any f f Y (by omega) (by omega) wx
            rw [(K13.since_all f Y).1, (K13.since_all f Y).2] at this
            exact this
          have CSm : Hid (∀ wx, Calls Try.prog 14 #[.agg #[.int .u64 (f : Int), .string Y], .agg #[.int .u64 (f : Int), .string Y]] wx fun e w' => e = .returned (.bool true) ∧ Below wx.heap.size wx w') := fun wx => by
            have := same_any13 f Y f Y (by omega) (by omega) (by omega) (by omega) wx
            rw [(K13.sameB_iff f Y f Y).2 (K13.Same.refl f Y)] at this
            exact this
          clear hX hY hY2 hE hXs hYs hSTs hST
          refine (C1.out _).mono ?_
          rintro e wa21 ⟨rfl, bwa21⟩
          replace r := r.below bwa21 r.lt
          replace bb := bb.trans (bwa21.mono bb.size)
          clear bwa21
          go_wp2_with fail
          have a : Row (wa21.alloc (.cells #[.int .u64 (f : Int), .string X] 27 (0, 0))) wa21.heap.size 27 [.int .u64 (f : Int), .string X] := Row.new' rfl rfl
          have lra : gk < wa21.heap.size := r.lt
          have lza := bb.size
          replace r := r.alloc (.cells #[.int .u64 (f : Int), .string X] 27 (0, 0))
          replace bb := bb.alloc bb.size (.cells #[.int .u64 (f : Int), .string X] 27 (0, 0))
          obtain ⟨ga, hga⟩ : ∃ ga, ga = wa21.heap.size := ⟨_, rfl⟩
          rw [← hga] at a lra lza ⊢
          generalize wa21.alloc (.cells #[.int .u64 (f : Int), .string X] 27 (0, 0)) = wa22 at *
          clear hga
          refine (C2.out _).mono ?_
          rintro e wa23 ⟨rfl, bwa23⟩
          replace r := r.below bwa23 r.lt
          replace a := a.below bwa23 a.lt
          replace bb := bb.trans (bwa23.mono bb.size)
          clear bwa23
          have b : Row (wa23.alloc (.cells #[.int .u64 (f : Int), .string Y] 27 (0, 0))) wa23.heap.size 27 [.int .u64 (f : Int), .string Y] := Row.new' rfl rfl
          have lrb : gk < wa23.heap.size := r.lt
          have lab : ga < wa23.heap.size := a.lt
          have lzb := bb.size
          replace r := r.alloc (.cells #[.int .u64 (f : Int), .string Y] 27 (0, 0))
          replace a := a.alloc (.cells #[.int .u64 (f : Int), .string Y] 27 (0, 0))
          replace bb := bb.alloc bb.size (.cells #[.int .u64 (f : Int), .string Y] 27 (0, 0))
          go_wp2_with (first | refine wpList_load_row rfl 27 (.tmp 7) rfl (gk) rfl _ _ _ _ r Try.underlying27 rfl infoKeys ?_)
          obtain ⟨gb, hgb⟩ : ∃ gb, gb = wa23.heap.size := ⟨_, rfl⟩
          rw [← hgb] at b lrb lab lzb ⊢
          generalize wa23.alloc (.cells #[.int .u64 (f : Int), .string Y] 27 (0, 0)) = wa24 at *
          clear hgb
          refine (C3.out _).mono ?_
          rintro e wa25 ⟨rfl, bwa25⟩
          replace r := r.below bwa25 r.lt
          replace a := a.below bwa25 a.lt
          replace b := b.below bwa25 b.lt
          replace bb := bb.trans (bwa25.mono bb.size)
          clear bwa25
          have c : Row (wa25.alloc (.cells #[.int .u64 (f : Int), .string Y] 27 (0, 0))) wa25.heap.size 27 [.int .u64 (f : Int), .string Y] := Row.new' rfl rfl
          have lrc : gk < wa25.heap.size := r.lt
          have lac : ga < wa25.heap.size := a.lt
          have lbc : gb < wa25.heap.size := b.lt
          have lzc := bb.size
          replace r := r.alloc (.cells #[.int .u64 (f : Int), .string Y] 27 (0, 0))
          replace a := a.alloc (.cells #[.int .u64 (f : Int), .string Y] 27 (0, 0))
          replace b := b.alloc (.cells #[.int .u64 (f : Int), .string Y] 27 (0, 0))
          replace bb := bb.alloc bb.size (.cells #[.int .u64 (f : Int), .string Y] 27 (0, 0))
          go_wp2_with (first | refine wpList_load_row rfl 27 (.tmp 12) rfl (gb) rfl _ _ _ _ b Try.underlying27 rfl infoKeys ?_)
          obtain ⟨gc, hgc⟩ : ∃ gc, gc = wa25.heap.size := ⟨_, rfl⟩
          rw [← hgc] at c lrc lac lbc lzc ⊢
          generalize wa25.alloc (.cells #[.int .u64 (f : Int), .string Y] 27 (0, 0)) = wa26 at *
          clear hgc
          refine (CEn.out _).mono ?_
          rintro e wa27 ⟨rfl, bwa27⟩
          replace r := r.below bwa27 r.lt
          replace a := a.below bwa27 a.lt
          replace b := b.below bwa27 b.lt
          replace c := c.below bwa27 c.lt
          replace bb := bb.trans (bwa27.mono bb.size)
          clear bwa27
          go_wp2_with (first | refine wpList_load_row rfl 27 (.tmp 14) rfl (gc) rfl _ _ _ _ c Try.underlying27 rfl infoKeys ?_)
          refine (CEn.out _).mono ?_
          rintro e wa28 ⟨rfl, bwa28⟩
          replace r := r.below bwa28 r.lt
          replace a := a.below bwa28 a.lt
          replace b := b.below bwa28 b.lt
          replace c := c.below bwa28 c.lt
          replace bb := bb.trans (bwa28.mono bb.size)
          clear bwa28
          go_wp2_with (first | refine wpList_load_row rfl 27 (.tmp 12) rfl (gb) rfl _ _ _ _ b Try.underlying27 rfl infoKeys ?_)
          refine (CSi.out _).mono ?_
          rintro e wa29 ⟨rfl, bwa29⟩
          replace r := r.below bwa29 r.lt
          replace a := a.below bwa29 a.lt
          replace b := b.below bwa29 b.lt
          replace c := c.below bwa29 c.lt
          replace bb := bb.trans (bwa29.mono bb.size)
          clear bwa29
          go_wp2_with (first | refine wpList_load_row rfl 27 (.tmp 14) rfl (gc) rfl _ _ _ _ c Try.underlying27 rfl infoKeys ?_)
          refine (CSi.out _).mono ?_
          rintro e wa30 ⟨rfl, bwa30⟩
          replace r := r.below bwa30 r.lt
          replace a := a.below bwa30 a.lt
          replace b := b.below bwa30 b.lt
          replace c := c.below bwa30 c.lt
          replace bb := bb.trans (bwa30.mono bb.size)
          clear bwa30
          go_wp2_with (first | refine wpList_rowT (by rfl) 27 (.tmp 12) rfl (gb) rfl _ _ _ (b) Try.underlying27 rfl infoKeys ?_ | refine wpList_rowT (by rfl) 27 (.tmp 14) rfl (gc) rfl _ _ _ (c) Try.underlying27 rfl infoKeys ?_)
          refine (CSm.out _).mono ?_
          rintro e wa31 ⟨rfl, bwa31⟩
          replace r := r.below bwa31 r.lt
          replace a := a.below bwa31 a.lt
          replace b := b.below bwa31 b.lt
          replace c := c.below bwa31 c.lt
          replace bb := bb.trans (bwa31.mono bb.size)
          clear bwa31
          go_wp2
          go_ret
          exact ⟨rfl, bb⟩
        · have C2 : Hid (∀ wx, Calls Try.prog 19 #[.agg #[.int .u64 (f : Int), .string X], .string a2] wx fun e w' => e = .returned (.tuple #[.agg #[.int .u64 (f : Int), .string X], .int .i64 12]) ∧ Below wx.heap.size wx w') := fun wx => type_full f X a2 (by omega) (by omega) (by omega) wx
          have C3 : Hid (∀ wx, Calls Try.prog 19 #[.agg #[.int .u64 (f : Int), .string T], .string ST] wx fun e w' => e = .returned (.tuple #[.agg #[.int .u64 (f : Int), .string T], .int .i64 12]) ∧ Below wx.heap.size wx w') := fun wx => type_full f T ST (by omega) (by omega) (by omega) wx
          clear hX hXs hSTs hST
          refine (C1.out _).mono ?_
          rintro e wa21 ⟨rfl, bwa21⟩
          replace r := r.below bwa21 r.lt
          replace bb := bb.trans (bwa21.mono bb.size)
          clear bwa21
          go_wp2_with fail
          have a : Row (wa21.alloc (.cells #[.int .u64 (f : Int), .string X] 27 (0, 0))) wa21.heap.size 27 [.int .u64 (f : Int), .string X] := Row.new' rfl rfl
          have lra : gk < wa21.heap.size := r.lt
          have lza := bb.size
          replace r := r.alloc (.cells #[.int .u64 (f : Int), .string X] 27 (0, 0))
          replace bb := bb.alloc bb.size (.cells #[.int .u64 (f : Int), .string X] 27 (0, 0))
          obtain ⟨ga, hga⟩ : ∃ ga, ga = wa21.heap.size := ⟨_, rfl⟩
          rw [← hga] at a lra lza ⊢
          generalize wa21.alloc (.cells #[.int .u64 (f : Int), .string X] 27 (0, 0)) = wa22 at *
          clear hga
          refine (C2.out _).mono ?_
          rintro e wa23 ⟨rfl, bwa23⟩
          replace r := r.below bwa23 r.lt
          replace a := a.below bwa23 a.lt
          replace bb := bb.trans (bwa23.mono bb.size)
          clear bwa23
          have b : Row (wa23.alloc (.cells #[.int .u64 (f : Int), .string X] 27 (0, 0))) wa23.heap.size 27 [.int .u64 (f : Int), .string X] := Row.new' rfl rfl
          have lrb : gk < wa23.heap.size := r.lt
          have lab : ga < wa23.heap.size := a.lt
          have lzb := bb.size
          replace r := r.alloc (.cells #[.int .u64 (f : Int), .string X] 27 (0, 0))
          replace a := a.alloc (.cells #[.int .u64 (f : Int), .string X] 27 (0, 0))
          replace bb := bb.alloc bb.size (.cells #[.int .u64 (f : Int), .string X] 27 (0, 0))
          go_wp2_with (first | refine wpList_load_row rfl 27 (.tmp 7) rfl (gk) rfl _ _ _ _ r Try.underlying27 rfl infoKeys ?_)
          obtain ⟨gb, hgb⟩ : ∃ gb, gb = wa23.heap.size := ⟨_, rfl⟩
          rw [← hgb] at b lrb lab lzb ⊢
          generalize wa23.alloc (.cells #[.int .u64 (f : Int), .string X] 27 (0, 0)) = wa24 at *
          clear hgb
          refine (C3.out _).mono ?_
          rintro e wa25 ⟨rfl, bwa25⟩
          replace r := r.below bwa25 r.lt
          replace a := a.below bwa25 a.lt
          replace b := b.below bwa25 b.lt
          replace bb := bb.trans (bwa25.mono bb.size)
          clear bwa25
          have c : Row (wa25.alloc (.cells #[.int .u64 (f : Int), .string T] 27 (0, 0))) wa25.heap.size 27 [.int .u64 (f : Int), .string T] := Row.new' rfl rfl
          have lrc : gk < wa25.heap.size := r.lt
          have lac : ga < wa25.heap.size := a.lt
          have lbc : gb < wa25.heap.size := b.lt
          have lzc := bb.size
          replace r := r.alloc (.cells #[.int .u64 (f : Int), .string T] 27 (0, 0))
          replace a := a.alloc (.cells #[.int .u64 (f : Int), .string T] 27 (0, 0))
          replace b := b.alloc (.cells #[.int .u64 (f : Int), .string T] 27 (0, 0))
          replace bb := bb.alloc bb.size (.cells #[.int .u64 (f : Int), .string T] 27 (0, 0))
          go_wp2
          go_ret
          exact ⟨rfl, bb⟩
      · have C1 : Hid (∀ wx, Calls Try.prog 19 #[.agg #[.int .u64 (f : Int), .string T], .string a1] wx fun e w' => e = .returned (.tuple #[.agg #[.int .u64 (f : Int), .string T], .int .i64 12]) ∧ Below wx.heap.size wx w') := fun wx => type_full f T a1 (by omega) (by omega) (by omega) wx
        have C3 : Hid (∀ wx, Calls Try.prog 19 #[.agg #[.int .u64 (f : Int), .string T], .string ST] wx fun e w' => e = .returned (.tuple #[.agg #[.int .u64 (f : Int), .string T], .int .i64 12]) ∧ Below wx.heap.size wx w') := fun wx => type_full f T ST (by omega) (by omega) (by omega) wx
        by_cases hB2 : T.size + a2.size ≤ 256
        · obtain ⟨X, hX⟩ : ∃ X : ByteArray, X = T ++ a2 := ⟨_, rfl⟩
          have C2 : Hid (∀ wx, Calls Try.prog 19 #[.agg #[.int .u64 (f : Int), .string T], .string a2] wx fun e w' => e = .returned (.tuple #[.agg #[.int .u64 (f : Int), .string X], .int .i64 0]) ∧ Below wx.heap.size wx w') := fun wx => by rw [hX]; exact type_ok f T a2 (by omega) hB2 wx
          clear hX hSTs hST
          refine (C1.out _).mono ?_
          rintro e wa21 ⟨rfl, bwa21⟩
          replace r := r.below bwa21 r.lt
          replace bb := bb.trans (bwa21.mono bb.size)
          clear bwa21
          go_wp2_with fail
          have a : Row (wa21.alloc (.cells #[.int .u64 (f : Int), .string T] 27 (0, 0))) wa21.heap.size 27 [.int .u64 (f : Int), .string T] := Row.new' rfl rfl
          have lra : gk < wa21.heap.size := r.lt
          have lza := bb.size
          replace r := r.alloc (.cells #[.int .u64 (f : Int), .string T] 27 (0, 0))
          replace bb := bb.alloc bb.size (.cells #[.int .u64 (f : Int), .string T] 27 (0, 0))
          obtain ⟨ga, hga⟩ : ∃ ga, ga = wa21.heap.size := ⟨_, rfl⟩
          rw [← hga] at a lra lza ⊢
          generalize wa21.alloc (.cells #[.int .u64 (f : Int), .string T] 27 (0, 0)) = wa22 at *
          clear hga
          refine (C2.out _).mono ?_
          rintro e wa23 ⟨rfl, bwa23⟩
          replace r := r.below bwa23 r.lt
          replace a := a.below bwa23 a.lt
          replace bb := bb.trans (bwa23.mono bb.size)
          clear bwa23
          have b : Row (wa23.alloc (.cells #[.int .u64 (f : Int), .string X] 27 (0, 0))) wa23.heap.size 27 [.int .u64 (f : Int), .string X] := Row.new' rfl rfl
          have lrb : gk < wa23.heap.size := r.lt
          have lab : ga < wa23.heap.size := a.lt
          have lzb := bb.size
          replace r := r.alloc (.cells #[.int .u64 (f : Int), .string X] 27 (0, 0))
          replace a := a.alloc (.cells #[.int .u64 (f : Int), .string X] 27 (0, 0))
          replace bb := bb.alloc bb.size (.cells #[.int .u64 (f : Int), .string X] 27 (0, 0))
          go_wp2_with (first | refine wpList_load_row rfl 27 (.tmp 7) rfl (gk) rfl _ _ _ _ r Try.underlying27 rfl infoKeys ?_)
          obtain ⟨gb, hgb⟩ : ∃ gb, gb = wa23.heap.size := ⟨_, rfl⟩
          rw [← hgb] at b lrb lab lzb ⊢
          generalize wa23.alloc (.cells #[.int .u64 (f : Int), .string X] 27 (0, 0)) = wa24 at *
          clear hgb
          refine (C3.out _).mono ?_
          rintro e wa25 ⟨rfl, bwa25⟩
          replace r := r.below bwa25 r.lt
          replace a := a.below bwa25 a.lt
          replace b := b.below bwa25 b.lt
          replace bb := bb.trans (bwa25.mono bb.size)
          clear bwa25
          have c : Row (wa25.alloc (.cells #[.int .u64 (f : Int), .string T] 27 (0, 0))) wa25.heap.size 27 [.int .u64 (f : Int), .string T] := Row.new' rfl rfl
          have lrc : gk < wa25.heap.size := r.lt
          have lac : ga < wa25.heap.size := a.lt
          have lbc : gb < wa25.heap.size := b.lt
          have lzc := bb.size
          replace r := r.alloc (.cells #[.int .u64 (f : Int), .string T] 27 (0, 0))
          replace a := a.alloc (.cells #[.int .u64 (f : Int), .string T] 27 (0, 0))
          replace b := b.alloc (.cells #[.int .u64 (f : Int), .string T] 27 (0, 0))
          replace bb := bb.alloc bb.size (.cells #[.int .u64 (f : Int), .string T] 27 (0, 0))
          go_wp2
          go_ret
          exact ⟨rfl, bb⟩
        · have C2 : Hid (∀ wx, Calls Try.prog 19 #[.agg #[.int .u64 (f : Int), .string T], .string a2] wx fun e w' => e = .returned (.tuple #[.agg #[.int .u64 (f : Int), .string T], .int .i64 12]) ∧ Below wx.heap.size wx w') := fun wx => type_full f T a2 (by omega) (by omega) (by omega) wx
          clear hSTs hST
          refine (C1.out _).mono ?_
          rintro e wa21 ⟨rfl, bwa21⟩
          replace r := r.below bwa21 r.lt
          replace bb := bb.trans (bwa21.mono bb.size)
          clear bwa21
          go_wp2_with fail
          have a : Row (wa21.alloc (.cells #[.int .u64 (f : Int), .string T] 27 (0, 0))) wa21.heap.size 27 [.int .u64 (f : Int), .string T] := Row.new' rfl rfl
          have lra : gk < wa21.heap.size := r.lt
          have lza := bb.size
          replace r := r.alloc (.cells #[.int .u64 (f : Int), .string T] 27 (0, 0))
          replace bb := bb.alloc bb.size (.cells #[.int .u64 (f : Int), .string T] 27 (0, 0))
          obtain ⟨ga, hga⟩ : ∃ ga, ga = wa21.heap.size := ⟨_, rfl⟩
          rw [← hga] at a lra lza ⊢
          generalize wa21.alloc (.cells #[.int .u64 (f : Int), .string T] 27 (0, 0)) = wa22 at *
          clear hga
          refine (C2.out _).mono ?_
          rintro e wa23 ⟨rfl, bwa23⟩
          replace r := r.below bwa23 r.lt
          replace a := a.below bwa23 a.lt
          replace bb := bb.trans (bwa23.mono bb.size)
          clear bwa23
          have b : Row (wa23.alloc (.cells #[.int .u64 (f : Int), .string T] 27 (0, 0))) wa23.heap.size 27 [.int .u64 (f : Int), .string T] := Row.new' rfl rfl
          have lrb : gk < wa23.heap.size := r.lt
          have lab : ga < wa23.heap.size := a.lt
          have lzb := bb.size
          replace r := r.alloc (.cells #[.int .u64 (f : Int), .string T] 27 (0, 0))
          replace a := a.alloc (.cells #[.int .u64 (f : Int), .string T] 27 (0, 0))
          replace bb := bb.alloc bb.size (.cells #[.int .u64 (f : Int), .string T] 27 (0, 0))
          go_wp2_with (first | refine wpList_load_row rfl 27 (.tmp 7) rfl (gk) rfl _ _ _ _ r Try.underlying27 rfl infoKeys ?_)
          obtain ⟨gb, hgb⟩ : ∃ gb, gb = wa23.heap.size := ⟨_, rfl⟩
          rw [← hgb] at b lrb lab lzb ⊢
          generalize wa23.alloc (.cells #[.int .u64 (f : Int), .string T] 27 (0, 0)) = wa24 at *
          clear hgb
          refine (C3.out _).mono ?_
          rintro e wa25 ⟨rfl, bwa25⟩
          replace r := r.below bwa25 r.lt
          replace a := a.below bwa25 a.lt
          replace b := b.below bwa25 b.lt
          replace bb := bb.trans (bwa25.mono bb.size)
          clear bwa25
          have c : Row (wa25.alloc (.cells #[.int .u64 (f : Int), .string T] 27 (0, 0))) wa25.heap.size 27 [.int .u64 (f : Int), .string T] := Row.new' rfl rfl
          have lrc : gk < wa25.heap.size := r.lt
          have lac : ga < wa25.heap.size := a.lt
          have lbc : gb < wa25.heap.size := b.lt
          have lzc := bb.size
          replace r := r.alloc (.cells #[.int .u64 (f : Int), .string T] 27 (0, 0))
          replace a := a.alloc (.cells #[.int .u64 (f : Int), .string T] 27 (0, 0))
          replace b := b.alloc (.cells #[.int .u64 (f : Int), .string T] 27 (0, 0))
          replace bb := bb.alloc bb.size (.cells #[.int .u64 (f : Int), .string T] 27 (0, 0))
          go_wp2
          go_ret
          exact ⟨rfl, bb⟩
    · have hmx : (600 : Int) < max (a1.size : Int) (a2.size : Int) := by omega
      clear hm
      go_enter Try.func6, Try.ntmps6
      go_wp2_with fail
      refine (CA.out _).mono ?_
      rintro e wa ⟨rfl, ba⟩
      go_wp2_with fail
      refine (light13_yes a0 len0 cap0 wa (HL.out.below ba)).mono ?_
      rintro e wb ⟨rfl, bb0⟩
      have bb := ba.trans (bb0.mono ba.size)
      clear ba bb0 HL CA
      go_wp2
      go_ret
      exact ⟨rfl, bb⟩
  · have HL := Lib.hid hl
    have HI := Lib.hid w0
    clear hl w0
    go_enter Try.func6, Try.ntmps6
    go_wp2_with fail
    refine (CA.out _).mono ?_
    rintro e wa ⟨rfl, ba⟩
    go_wp2_with fail
    refine (light13_no a0 len0 cap0 wa (HI.out.below ba) (fun hh => HL.out (LightU.up hh ba HI.out))).mono ?_
    rintro e wb ⟨rfl, bb0⟩
    have bb := ba.trans (bb0.mono ba.size)
    clear ba bb0 HL CA HI
    go_wp2
    go_ret
    exact ⟨rfl, bb⟩

end Go.Proofs.Ytggkkahifoccfaa.KeysPartsW
