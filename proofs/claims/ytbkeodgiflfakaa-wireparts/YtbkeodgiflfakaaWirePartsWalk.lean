/-
  WireParts: the walk.
-/
import Derived.Test.YtbkeodgiflfakaaMod22
import Derived.Test.YtbkeodgiflfakaaXRefR
import Derived.OpenShut
namespace Go.Proofs.Ytbkeodgiflfakaa
open Go.RowKit
set_option linter.unusedVariables false
set_option maxRecDepth 20000
namespace WirePartsW

theorem read_back (st re nm ix : Nat) (la : Bool) (tx : ByteArray) (h1 : st < 65536) (h2 : re < 65536) (h3 : nm < 18446744073709551616) (hix : ix ≤ 31) (ht : tx.size ≤ 466) (wx : World) :
    Calls Try.prog 15 #[.string ⟨(X9.partL st re nm (X9.ixN ix la) tx.data.toList).toArray⟩] wx fun e w' => e = .returned (.tuple #[.agg #[.int .u16 (st : Int), .int .u16 (re : Int), .int .u64 (nm : Int), .int .i64 (ix : Int), .bool la, .string tx], .int .i64 0]) ∧ Below wx.heap.size wx w' := by
  have hixN : X9.ixN ix la < 65536 := by unfold X9.ixN; split <;> omega
  obtain ⟨BL, hBL⟩ : ∃ BL, BL = X9.partL st re nm (X9.ixN ix la) tx.data.toList := ⟨_, rfl⟩
  have hBlen : BL.length = tx.size + 14 := by rw [hBL, X9.partL_length]; simp
  rw [← hBL]
  have := read_long ⟨BL.toArray⟩ (by rw [X9.szL]; omega) (by rw [X9.szL]; omega) wx
  have hd : (⟨BL.toArray⟩ : ByteArray).data.toList = BL := rfl
  rw [hd] at this
  obtain ⟨e1, e2, e3, e4, e5⟩ := X9.f_part st re nm (X9.ixN ix la) tx.data.toList h1 h2 h3 hixN
  rw [← hBL] at e1 e2 e3 e4 e5
  have e6 : X9.ixN ix la % 32768 = ix := by unfold X9.ixN; split <;> omega
  have e7 : decide (32768 ≤ X9.ixN ix la) = la := by unfold X9.ixN; cases la <;> simp <;> omega
  have eF : pFaultE ((X9.fN BL % 32768 : Nat) : Int) (X9.fT BL).length = 0 := by rw [e4, e5, e6]; unfold pFaultE; rw [if_neg (by omega), if_neg (by simp; omega)]
  have eC : readC BL = [.int .u16 (st : Int), .int .u16 (re : Int), .int .u64 (nm : Int), .int .i64 (ix : Int), .bool la, .string tx] := by
    unfold readC
    rw [if_neg (by rw [eF]; simp), e1, e2, e3, e4, e5, e6, e7]
  rw [eF, eC] at this
  exact this

/-- What Read answers, of whatever text: an error, and no part; or a part that may be, whose bytes are the text. -/
theorem read_cases (s : ByteArray) (hs : s.size ≤ 600) :
    (∃ E : Int, E ≠ 0 ∧ (∀ wx, Calls Try.prog 15 #[.string s] wx fun e w' => e = .returned (.tuple #[.agg #[.int .u16 0, .int .u16 0, .int .u64 0, .int .i64 0, .bool false, .string ⟨#[]⟩], .int .i64 E]) ∧ Below wx.heap.size wx w') ∧
      ∀ wx, Calls Try.prog 16 #[.string s] wx fun e w' => e = .returned (.tuple #[.agg #[.int .u16 0, .int .u16 0, .int .u64 0, .int .i64 0, .bool false, .string ⟨#[]⟩], .int .i64 E]) ∧ Below wx.heap.size wx w') ∨
    (∃ (st re nm ix : Nat) (la : Bool) (tx : ByteArray), st < 65536 ∧ re < 65536 ∧ nm < 18446744073709551616 ∧ ix ≤ 31 ∧ tx.size ≤ 466 ∧ (⟨(X9.partL st re nm (X9.ixN ix la) tx.data.toList).toArray⟩ : ByteArray) = s ∧
      (∀ wx, Calls Try.prog 15 #[.string s] wx fun e w' => e = .returned (.tuple #[.agg #[.int .u16 (st : Int), .int .u16 (re : Int), .int .u64 (nm : Int), .int .i64 (ix : Int), .bool la, .string tx], .int .i64 0]) ∧ Below wx.heap.size wx w') ∧
      ∀ wx, Calls Try.prog 16 #[.string s] wx fun e w' => e = .returned (.tuple #[.agg #[.int .u16 (st : Int), .int .u16 (re : Int), .int .u64 (nm : Int), .int .i64 (ix : Int), .bool la, .string tx], .int .i64 0]) ∧ Below wx.heap.size wx w') := by
  by_cases h14 : s.size < 14
  · exact .inl ⟨3, by decide, fun wx => read_short s h14 wx, fun wx => refRead_short s h14 wx⟩
  · have a := fun wx => read_long s (by omega) (by omega) wx
    have b := fun wx => refRead_long s (by omega) (by omega) wx
    have hl : s.data.toList.length = s.size := by simp
    by_cases hE : pFaultE ((X9.fN s.data.toList % 32768 : Nat) : Int) (X9.fT s.data.toList).length ≠ 0
    · have eC : readC s.data.toList = [.int .u16 0, .int .u16 0, .int .u64 0, .int .i64 0, .bool false, .string ⟨#[]⟩] := by unfold readC; rw [if_pos hE]
      rw [eC] at a b
      exact .inl ⟨_, hE, a, b⟩
    · have hE0 : pFaultE ((X9.fN s.data.toList % 32768 : Nat) : Int) (X9.fT s.data.toList).length = 0 := by simpa using hE
      have eC : readC s.data.toList = [.int .u16 (X9.fSt s.data.toList : Int), .int .u16 (X9.fRe s.data.toList : Int), .int .u64 (X9.fNm s.data.toList : Int), .int .i64 ((X9.fN s.data.toList % 32768 : Nat) : Int), .bool (decide (32768 ≤ X9.fN s.data.toList)), .string ⟨(X9.fT s.data.toList).toArray⟩] := by unfold readC; rw [if_neg hE]
      rw [eC, hE0] at a b
      have hE1 := hE0
      unfold pFaultE at hE1
      have g6 : ¬ (((X9.fN s.data.toList % 32768 : Nat) : Int) < 0 ∨ 31 < ((X9.fN s.data.toList % 32768 : Nat) : Int)) := fun h => by rw [if_pos h] at hE1; omega
      rw [if_neg g6] at hE1
      have g7 : ¬ 466 < (X9.fT s.data.toList).length := fun h => by rw [if_pos h] at hE1; omega
      refine .inr ⟨_, _, _, _, _, _, X9.fSt_lt _, X9.fRe_lt _, X9.fNm_lt _, by omega, by rw [X9.szL]; omega, ?_, a, b⟩
      have hN : X9.ixN (X9.fN s.data.toList % 32768) (decide (32768 ≤ X9.fN s.data.toList)) = X9.fN s.data.toList := by
        have := X9.fN_lt s.data.toList
        unfold X9.ixN
        by_cases g : 32768 ≤ X9.fN s.data.toList
        · simp [g]; omega
        · simp [g]; omega
      rw [hN]
      exact Go.WideShapes.bytes_inj (X9.part_f s.data.toList (by omega))

set_option maxHeartbeats 8000000 in
theorem out (st re nm : Nat) (ix : Int) (la : Bool) (tx s : ByteArray) (w : World) (h1 : st < 65536) (h2 : re < 65536) (h3 : nm < 18446744073709551616) (h4 : tx.size ≤ 9223372036854775807) (h5 : s.size ≤ 9223372036854775807) (g : 600 < tx.size ∨ 600 < s.size) :
    Calls Try.prog 4 #[.agg #[.int .u16 (st : Int), .int .u16 (re : Int), .int .u64 (nm : Int), .int .i64 ix, .bool la, .string tx], .string s] w fun e w' => e = .returned (.bool true) ∧ Below w.heap.size w w' := by
  have hmx : (600 : Int) < max (tx.size : Int) (s.size : Int) := by omega
  have r0 : Row (w.alloc (.cells #[.int .u16 (st : Int), .int .u16 (re : Int), .int .u64 (nm : Int), .int .i64 ix, .bool la, .string tx] 38 (0, 0))) w.heap.size 38 [.int .u16 (st : Int), .int .u16 (re : Int), .int .u64 (nm : Int), .int .i64 ix, .bool la, .string tx] := Row.new' rfl rfl
  have b0 : Below w.heap.size w (w.alloc (.cells #[.int .u16 (st : Int), .int .u16 (re : Int), .int .u64 (nm : Int), .int .i64 ix, .bool la, .string tx] 38 (0, 0))) := (Below.refl _ _).alloc (Nat.le_refl _) _
  go_enter Try.func4, Try.ntmps4
  go_wp2_with fail
  refine (awake9_any _).mono ?_
  rintro e w1 ⟨rfl, b1⟩
  have r1 := r0.below b1 r0.lt
  have hb1 := b0.trans (b1.mono b0.size)
  clear b1 r0 b0
  have c5 : w1.cell? ⟨w.heap.size, 5, none⟩ = some (.string tx) := r1.cell 5
  go_wp2
  go_ret
  exact ⟨rfl, hb1⟩

set_option maxHeartbeats 8000000 in
theorem caseNoZero (st re nm : Nat) (ix : Int) (la : Bool) (tx s : ByteArray) (w : World) (h1 : st < 65536) (h2 : re < 65536) (h3 : nm < 18446744073709551616) (h4 : tx.size ≤ 9223372036854775807) (h5 : s.size ≤ 9223372036854775807) (g0 : tx.size ≤ 600 ∧ s.size ≤ 600) (g1 : pFaultE ix tx.size ≠ 0) (E : Int) (hE : E ≠ 0) (gP : ∀ wx, Calls Try.prog 15 #[.string s] wx fun e w' => e = .returned (.tuple #[.agg #[.int .u16 0, .int .u16 0, .int .u64 0, .int .i64 0, .bool false, .string ⟨#[]⟩], .int .i64 E]) ∧ Below wx.heap.size wx w') (gQ : ∀ wx, Calls Try.prog 16 #[.string s] wx fun e w' => e = .returned (.tuple #[.agg #[.int .u16 0, .int .u16 0, .int .u64 0, .int .i64 0, .bool false, .string ⟨#[]⟩], .int .i64 E]) ∧ Below wx.heap.size wx w') :
    Calls Try.prog 4 #[.agg #[.int .u16 (st : Int), .int .u16 (re : Int), .int .u64 (nm : Int), .int .i64 ix, .bool la, .string tx], .string s] w fun e w' => e = .returned (.bool true) ∧ Below w.heap.size w w' := by
  have hmx : ¬ (600 : Int) < max (tx.size : Int) (s.size : Int) := by omega
  have CB : Hid (∀ wx, Calls Try.prog 12 #[.agg #[.int .u16 (st : Int), .int .u16 (re : Int), .int .u64 (nm : Int), .int .i64 ix, .bool la, .string tx]] wx fun e w' => e = .returned (.tuple #[.string ⟨#[]⟩, .int .i64 (pFaultE ix tx.size)]) ∧ Below wx.heap.size wx w') := fun wx => pBytes_no st re nm ix la tx g1 h4 wx
  have CK : Hid (∀ wx, Calls Try.prog 13 #[.agg #[.int .u16 (st : Int), .int .u16 (re : Int), .int .u64 (nm : Int), .int .i64 ix, .bool la, .string tx]] wx fun e w' => e = .returned (.int .i64 (pFaultE ix tx.size)) ∧ Below wx.heap.size wx w') := fun wx => refCheck_any st re nm ix la tx h4 wx
  generalize pFaultE ix tx.size = E1 at *
  have hEb : (E1 == 0) = false := by simp [g1]
  have hEc : (E1 != 0) = true := by simp [g1]
  have CP := Lib.hid gP
  have CQ := Lib.hid gQ
  have hFb : (E == 0) = false := by simp [hE]
  have hFc : (E != 0) = true := by simp [hE]
  have CL : Hid (∀ wx, Calls Try.prog 12 #[.agg #[.int .u16 0, .int .u16 0, .int .u64 0, .int .i64 0, .bool false, .string ⟨#[]⟩]] wx fun e w' => e = .returned (.tuple #[.string ⟨(X9.partL 0 0 0 (X9.ixN 0 false) (⟨#[]⟩ : ByteArray).data.toList).toArray⟩, .int .i64 0]) ∧ Below wx.heap.size wx w') := fun wx => pBytes_yes 0 0 0 0 false ⟨#[]⟩ (by decide) (by decide) (by decide) (by decide) (by decide) wx
  generalize (⟨(X9.partL 0 0 0 (X9.ixN 0 false) (⟨#[]⟩ : ByteArray).data.toList).toArray⟩ : ByteArray) = ZT at *
  clear gP gQ
  have r0 : Row (w.alloc (.cells #[.int .u16 (st : Int), .int .u16 (re : Int), .int .u64 (nm : Int), .int .i64 ix, .bool la, .string tx] 38 (0, 0))) w.heap.size 38 [.int .u16 (st : Int), .int .u16 (re : Int), .int .u64 (nm : Int), .int .i64 ix, .bool la, .string tx] := Row.new' rfl rfl
  have b0 : Below w.heap.size w (w.alloc (.cells #[.int .u16 (st : Int), .int .u16 (re : Int), .int .u64 (nm : Int), .int .i64 ix, .bool la, .string tx] 38 (0, 0))) := (Below.refl _ _).alloc (Nat.le_refl _) _
  go_enter Try.func4, Try.ntmps4
  go_wp2_with fail
  refine (awake9_any _).mono ?_
  rintro e w1 ⟨rfl, b1⟩
  have r1 := r0.below b1 r0.lt
  have hb1 := b0.trans (b1.mono b0.size)
  clear b1 r0 b0
  have c5 : w1.cell? ⟨w.heap.size, 5, none⟩ = some (.string tx) := r1.cell 5
  go_wp2_with (first
    | refine wpList_load_row rfl 38 (.tmp 2) rfl w.heap.size rfl _ _ _ _ r1 Try.underlying38 rfl infoPart ?_)
  clear c5
  refine (CB.out _).mono ?_
  rintro e w2 ⟨rfl, b2⟩
  have r2 := r1.below b2 r1.lt
  have hb2 := hb1.trans (b2.mono hb1.size)
  clear b2 hb1 r1
  go_wp2_with (first
    | refine wpList_load_row rfl 38 (.tmp 2) rfl w.heap.size rfl _ _ _ _ r2 Try.underlying38 rfl infoPart ?_)
  refine (CK.out _).mono ?_
  rintro e w3 ⟨rfl, b3⟩
  have r3 := r2.below b3 r2.lt
  have hb3 := hb2.trans (b3.mono hb2.size)
  clear b3 hb2 r2
  go_wp2_with fail
  have hb5 := hb3
  clear r3 hb3
  refine (CP.out _).mono ?_
  rintro e w7 ⟨rfl, b7⟩
  have q7 : Row (w7.alloc (.cells #[.int .u16 0, .int .u16 0, .int .u64 0, .int .i64 0, .bool false, .string ⟨#[]⟩] 38 (0, 0))) w7.heap.size 38 [.int .u16 0, .int .u16 0, .int .u64 0, .int .i64 0, .bool false, .string ⟨#[]⟩] := Row.new' rfl rfl
  have hb7 := (hb5.trans (b7.mono hb5.size)).alloc (hb5.trans (b7.mono hb5.size)).size (.cells #[.int .u16 0, .int .u16 0, .int .u64 0, .int .i64 0, .bool false, .string ⟨#[]⟩] 38 (0, 0))
  clear b7 hb5
  go_wp2_with fail
  refine (CQ.out _).mono ?_
  rintro e w8 ⟨rfl, b8⟩
  have q8 := (q7.below b8 q7.lt).alloc (.cells #[.int .u16 0, .int .u16 0, .int .u64 0, .int .i64 0, .bool false, .string ⟨#[]⟩] 40 (0, 0))
  have p8 : Row (w8.alloc (.cells #[.int .u16 0, .int .u16 0, .int .u64 0, .int .i64 0, .bool false, .string ⟨#[]⟩] 40 (0, 0))) w8.heap.size 40 [.int .u16 0, .int .u16 0, .int .u64 0, .int .i64 0, .bool false, .string ⟨#[]⟩] := Row.new' rfl rfl
  have hb8 := (hb7.trans (b8.mono hb7.size)).alloc (hb7.trans (b8.mono hb7.size)).size (.cells #[.int .u16 0, .int .u16 0, .int .u64 0, .int .i64 0, .bool false, .string ⟨#[]⟩] 40 (0, 0))
  clear b8 q7 hb7
  go_wp2_with (first
    | refine wpList_load_row rfl 38 (.tmp 10) rfl w7.heap.size rfl _ _ _ _ q8 Try.underlying38 rfl infoPart ?_
    | refine wpList_load_row rfl 40 (.tmp 12) rfl w8.heap.size rfl _ _ _ _ p8 Try.underlying40 rfl infoRPart ?_)
  refine (CL.out _).mono ?_
  rintro e w9 ⟨rfl, b9⟩
  have hb9 := hb8.trans (b9.mono hb8.size)
  clear b9 q8 p8 hb8
  go_wp2
  go_ret
  exact ⟨rfl, hb9⟩

set_option maxHeartbeats 8000000 in
theorem caseNoPart (st re nm : Nat) (ix : Int) (la : Bool) (tx s : ByteArray) (w : World) (h1 : st < 65536) (h2 : re < 65536) (h3 : nm < 18446744073709551616) (h4 : tx.size ≤ 9223372036854775807) (h5 : s.size ≤ 9223372036854775807) (g0 : tx.size ≤ 600 ∧ s.size ≤ 600) (g1 : pFaultE ix tx.size ≠ 0) (sx rx mx jx : Nat) (lx : Bool) (ux : ByteArray) (k1 : sx < 65536) (k2 : rx < 65536) (k3 : mx < 18446744073709551616) (k4 : jx ≤ 31) (k5 : ux.size ≤ 466) (k6 : (⟨(X9.partL sx rx mx (X9.ixN jx lx) ux.data.toList).toArray⟩ : ByteArray) = s) (gP : ∀ wx, Calls Try.prog 15 #[.string s] wx fun e w' => e = .returned (.tuple #[.agg #[.int .u16 (sx : Int), .int .u16 (rx : Int), .int .u64 (mx : Int), .int .i64 (jx : Int), .bool lx, .string ux], .int .i64 0]) ∧ Below wx.heap.size wx w') (gQ : ∀ wx, Calls Try.prog 16 #[.string s] wx fun e w' => e = .returned (.tuple #[.agg #[.int .u16 (sx : Int), .int .u16 (rx : Int), .int .u64 (mx : Int), .int .i64 (jx : Int), .bool lx, .string ux], .int .i64 0]) ∧ Below wx.heap.size wx w') :
    Calls Try.prog 4 #[.agg #[.int .u16 (st : Int), .int .u16 (re : Int), .int .u64 (nm : Int), .int .i64 ix, .bool la, .string tx], .string s] w fun e w' => e = .returned (.bool true) ∧ Below w.heap.size w w' := by
  have hmx : ¬ (600 : Int) < max (tx.size : Int) (s.size : Int) := by omega
  have CB : Hid (∀ wx, Calls Try.prog 12 #[.agg #[.int .u16 (st : Int), .int .u16 (re : Int), .int .u64 (nm : Int), .int .i64 ix, .bool la, .string tx]] wx fun e w' => e = .returned (.tuple #[.string ⟨#[]⟩, .int .i64 (pFaultE ix tx.size)]) ∧ Below wx.heap.size wx w') := fun wx => pBytes_no st re nm ix la tx g1 h4 wx
  have CK : Hid (∀ wx, Calls Try.prog 13 #[.agg #[.int .u16 (st : Int), .int .u16 (re : Int), .int .u64 (nm : Int), .int .i64 ix, .bool la, .string tx]] wx fun e w' => e = .returned (.int .i64 (pFaultE ix tx.size)) ∧ Below wx.heap.size wx w') := fun wx => refCheck_any st re nm ix la tx h4 wx
  generalize pFaultE ix tx.size = E1 at *
  have hEb : (E1 == 0) = false := by simp [g1]
  have hEc : (E1 != 0) = true := by simp [g1]
  have CP := Lib.hid gP
  have CQ := Lib.hid gQ
  have CL : Hid (∀ wx, Calls Try.prog 12 #[.agg #[.int .u16 (sx : Int), .int .u16 (rx : Int), .int .u64 (mx : Int), .int .i64 (jx : Int), .bool lx, .string ux]] wx fun e w' => e = .returned (.tuple #[.string s, .int .i64 0]) ∧ Below wx.heap.size wx w') := fun wx => by
    have := pBytes_yes sx rx mx jx lx ux k1 k2 k3 k4 k5 wx
    rwa [k6] at this
  clear gP gQ k6
  have r0 : Row (w.alloc (.cells #[.int .u16 (st : Int), .int .u16 (re : Int), .int .u64 (nm : Int), .int .i64 ix, .bool la, .string tx] 38 (0, 0))) w.heap.size 38 [.int .u16 (st : Int), .int .u16 (re : Int), .int .u64 (nm : Int), .int .i64 ix, .bool la, .string tx] := Row.new' rfl rfl
  have b0 : Below w.heap.size w (w.alloc (.cells #[.int .u16 (st : Int), .int .u16 (re : Int), .int .u64 (nm : Int), .int .i64 ix, .bool la, .string tx] 38 (0, 0))) := (Below.refl _ _).alloc (Nat.le_refl _) _
  go_enter Try.func4, Try.ntmps4
  go_wp2_with fail
  refine (awake9_any _).mono ?_
  rintro e w1 ⟨rfl, b1⟩
  have r1 := r0.below b1 r0.lt
  have hb1 := b0.trans (b1.mono b0.size)
  clear b1 r0 b0
  have c5 : w1.cell? ⟨w.heap.size, 5, none⟩ = some (.string tx) := r1.cell 5
  go_wp2_with (first
    | refine wpList_load_row rfl 38 (.tmp 2) rfl w.heap.size rfl _ _ _ _ r1 Try.underlying38 rfl infoPart ?_)
  clear c5
  refine (CB.out _).mono ?_
  rintro e w2 ⟨rfl, b2⟩
  have r2 := r1.below b2 r1.lt
  have hb2 := hb1.trans (b2.mono hb1.size)
  clear b2 hb1 r1
  go_wp2_with (first
    | refine wpList_load_row rfl 38 (.tmp 2) rfl w.heap.size rfl _ _ _ _ r2 Try.underlying38 rfl infoPart ?_)
  refine (CK.out _).mono ?_
  rintro e w3 ⟨rfl, b3⟩
  have r3 := r2.below b3 r2.lt
  have hb3 := hb2.trans (b3.mono hb2.size)
  clear b3 hb2 r2
  go_wp2_with fail
  have hb5 := hb3
  clear r3 hb3
  refine (CP.out _).mono ?_
  rintro e w7 ⟨rfl, b7⟩
  have q7 : Row (w7.alloc (.cells #[.int .u16 (sx : Int), .int .u16 (rx : Int), .int .u64 (mx : Int), .int .i64 (jx : Int), .bool lx, .string ux] 38 (0, 0))) w7.heap.size 38 [.int .u16 (sx : Int), .int .u16 (rx : Int), .int .u64 (mx : Int), .int .i64 (jx : Int), .bool lx, .string ux] := Row.new' rfl rfl
  have hb7 := (hb5.trans (b7.mono hb5.size)).alloc (hb5.trans (b7.mono hb5.size)).size (.cells #[.int .u16 (sx : Int), .int .u16 (rx : Int), .int .u64 (mx : Int), .int .i64 (jx : Int), .bool lx, .string ux] 38 (0, 0))
  clear b7 hb5
  go_wp2_with fail
  refine (CQ.out _).mono ?_
  rintro e w8 ⟨rfl, b8⟩
  have q8 := (q7.below b8 q7.lt).alloc (.cells #[.int .u16 (sx : Int), .int .u16 (rx : Int), .int .u64 (mx : Int), .int .i64 (jx : Int), .bool lx, .string ux] 40 (0, 0))
  have p8 : Row (w8.alloc (.cells #[.int .u16 (sx : Int), .int .u16 (rx : Int), .int .u64 (mx : Int), .int .i64 (jx : Int), .bool lx, .string ux] 40 (0, 0))) w8.heap.size 40 [.int .u16 (sx : Int), .int .u16 (rx : Int), .int .u64 (mx : Int), .int .i64 (jx : Int), .bool lx, .string ux] := Row.new' rfl rfl
  have hb8 := (hb7.trans (b8.mono hb7.size)).alloc (hb7.trans (b8.mono hb7.size)).size (.cells #[.int .u16 (sx : Int), .int .u16 (rx : Int), .int .u64 (mx : Int), .int .i64 (jx : Int), .bool lx, .string ux] 40 (0, 0))
  clear b8 q7 hb7
  go_wp2_with (first
    | refine wpList_load_row rfl 38 (.tmp 10) rfl w7.heap.size rfl _ _ _ _ q8 Try.underlying38 rfl infoPart ?_
    | refine wpList_load_row rfl 40 (.tmp 12) rfl w8.heap.size rfl _ _ _ _ p8 Try.underlying40 rfl infoRPart ?_)
  refine (CL.out _).mono ?_
  rintro e w9 ⟨rfl, b9⟩
  have hb9 := hb8.trans (b9.mono hb8.size)
  clear b9 q8 p8 hb8
  go_wp2
  go_ret
  exact ⟨rfl, hb9⟩

set_option maxHeartbeats 8000000 in
theorem caseYesZero (st re nm : Nat) (ix : Nat) (la : Bool) (tx s : ByteArray) (w : World) (h1 : st < 65536) (h2 : re < 65536) (h3 : nm < 18446744073709551616) (h4 : tx.size ≤ 9223372036854775807) (h5 : s.size ≤ 9223372036854775807) (g0 : tx.size ≤ 600 ∧ s.size ≤ 600) (g1 : ix ≤ 31 ∧ tx.size ≤ 466) (E : Int) (hE : E ≠ 0) (gP : ∀ wx, Calls Try.prog 15 #[.string s] wx fun e w' => e = .returned (.tuple #[.agg #[.int .u16 0, .int .u16 0, .int .u64 0, .int .i64 0, .bool false, .string ⟨#[]⟩], .int .i64 E]) ∧ Below wx.heap.size wx w') (gQ : ∀ wx, Calls Try.prog 16 #[.string s] wx fun e w' => e = .returned (.tuple #[.agg #[.int .u16 0, .int .u16 0, .int .u64 0, .int .i64 0, .bool false, .string ⟨#[]⟩], .int .i64 E]) ∧ Below wx.heap.size wx w') :
    Calls Try.prog 4 #[.agg #[.int .u16 (st : Int), .int .u16 (re : Int), .int .u64 (nm : Int), .int .i64 (ix : Int), .bool la, .string tx], .string s] w fun e w' => e = .returned (.bool true) ∧ Below w.heap.size w w' := by
  have hmx : ¬ (600 : Int) < max (tx.size : Int) (s.size : Int) := by omega
  have CB : Hid (∀ wx, Calls Try.prog 12 #[.agg #[.int .u16 (st : Int), .int .u16 (re : Int), .int .u64 (nm : Int), .int .i64 (ix : Int), .bool la, .string tx]] wx fun e w' => e = .returned (.tuple #[.string ⟨(X9.partL st re nm (X9.ixN ix la) tx.data.toList).toArray⟩, .int .i64 0]) ∧ Below wx.heap.size wx w') := fun wx => pBytes_yes st re nm ix la tx h1 h2 h3 g1.1 g1.2 wx
  have CK : Hid (∀ wx, Calls Try.prog 13 #[.agg #[.int .u16 (st : Int), .int .u16 (re : Int), .int .u64 (nm : Int), .int .i64 (ix : Int), .bool la, .string tx]] wx fun e w' => e = .returned (.int .i64 0) ∧ Below wx.heap.size wx w') := fun wx => by
    have := refCheck_any st re nm (ix : Int) la tx h4 wx
    rwa [show pFaultE (ix : Int) tx.size = 0 from by unfold pFaultE; rw [if_neg (by omega), if_neg (by omega)]] at this
  have CY : Hid (∀ wx, Calls Try.prog 14 #[.agg #[.int .u16 (st : Int), .int .u16 (re : Int), .int .u64 (nm : Int), .int .i64 (ix : Int), .bool la, .string tx]] wx fun e w' => e = .returned (.string ⟨(X9.partL st re nm (X9.ixN ix la) tx.data.toList).toArray⟩) ∧ Below wx.heap.size wx w') := fun wx => refBytes_yes st re nm ix la tx h1 h2 h3 g1.1 g1.2 wx
  have CD : Hid (∀ wx, Calls Try.prog 15 #[.string ⟨(X9.partL st re nm (X9.ixN ix la) tx.data.toList).toArray⟩] wx fun e w' => e = .returned (.tuple #[.agg #[.int .u16 (st : Int), .int .u16 (re : Int), .int .u64 (nm : Int), .int .i64 (ix : Int), .bool la, .string tx], .int .i64 0]) ∧ Below wx.heap.size wx w') := fun wx => read_back st re nm ix la tx h1 h2 h3 g1.1 g1.2 wx
  generalize (⟨(X9.partL st re nm (X9.ixN ix la) tx.data.toList).toArray⟩ : ByteArray) = BT at *
  have CP := Lib.hid gP
  have CQ := Lib.hid gQ
  have hFb : (E == 0) = false := by simp [hE]
  have hFc : (E != 0) = true := by simp [hE]
  have CL : Hid (∀ wx, Calls Try.prog 12 #[.agg #[.int .u16 0, .int .u16 0, .int .u64 0, .int .i64 0, .bool false, .string ⟨#[]⟩]] wx fun e w' => e = .returned (.tuple #[.string ⟨(X9.partL 0 0 0 (X9.ixN 0 false) (⟨#[]⟩ : ByteArray).data.toList).toArray⟩, .int .i64 0]) ∧ Below wx.heap.size wx w') := fun wx => pBytes_yes 0 0 0 0 false ⟨#[]⟩ (by decide) (by decide) (by decide) (by decide) (by decide) wx
  generalize (⟨(X9.partL 0 0 0 (X9.ixN 0 false) (⟨#[]⟩ : ByteArray).data.toList).toArray⟩ : ByteArray) = ZT at *
  clear gP gQ
  have r0 : Row (w.alloc (.cells #[.int .u16 (st : Int), .int .u16 (re : Int), .int .u64 (nm : Int), .int .i64 (ix : Int), .bool la, .string tx] 38 (0, 0))) w.heap.size 38 [.int .u16 (st : Int), .int .u16 (re : Int), .int .u64 (nm : Int), .int .i64 (ix : Int), .bool la, .string tx] := Row.new' rfl rfl
  have b0 : Below w.heap.size w (w.alloc (.cells #[.int .u16 (st : Int), .int .u16 (re : Int), .int .u64 (nm : Int), .int .i64 (ix : Int), .bool la, .string tx] 38 (0, 0))) := (Below.refl _ _).alloc (Nat.le_refl _) _
  go_enter Try.func4, Try.ntmps4
  go_wp2_with fail
  refine (awake9_any _).mono ?_
  rintro e w1 ⟨rfl, b1⟩
  have r1 := r0.below b1 r0.lt
  have hb1 := b0.trans (b1.mono b0.size)
  clear b1 r0 b0
  have c5 : w1.cell? ⟨w.heap.size, 5, none⟩ = some (.string tx) := r1.cell 5
  go_wp2_with (first
    | refine wpList_load_row rfl 38 (.tmp 2) rfl w.heap.size rfl _ _ _ _ r1 Try.underlying38 rfl infoPart ?_)
  clear c5
  refine (CB.out _).mono ?_
  rintro e w2 ⟨rfl, b2⟩
  have r2 := r1.below b2 r1.lt
  have hb2 := hb1.trans (b2.mono hb1.size)
  clear b2 hb1 r1
  go_wp2_with (first
    | refine wpList_load_row rfl 38 (.tmp 2) rfl w.heap.size rfl _ _ _ _ r2 Try.underlying38 rfl infoPart ?_)
  refine (CK.out _).mono ?_
  rintro e w3 ⟨rfl, b3⟩
  have r3 := r2.below b3 r2.lt
  have hb3 := hb2.trans (b3.mono hb2.size)
  clear b3 hb2 r2
  have c0 : w3.cell? ⟨w.heap.size, 0, none⟩ = some (.int .u16 (st : Int)) := r3.cell 0
  have c1 : w3.cell? ⟨w.heap.size, 1, none⟩ = some (.int .u16 (re : Int)) := r3.cell 1
  have c2 : w3.cell? ⟨w.heap.size, 2, none⟩ = some (.int .u64 (nm : Int)) := r3.cell 2
  have c3 : w3.cell? ⟨w.heap.size, 3, none⟩ = some (.int .i64 (ix : Int)) := r3.cell 3
  have c4 : w3.cell? ⟨w.heap.size, 4, none⟩ = some (.bool la) := r3.cell 4
  have c5 : w3.cell? ⟨w.heap.size, 5, none⟩ = some (.string tx) := r3.cell 5
  go_wp2_with fail
  refine (CY.out _).mono ?_
  rintro e w4 ⟨rfl, b4⟩
  have r4 := r3.below b4 r3.lt
  have hb4 := hb3.trans (b4.mono hb3.size)
  clear b4 hb3 r3 c0 c1 c2 c3 c4 c5
  go_wp2_with fail
  refine (CD.out _).mono ?_
  rintro e w5 ⟨rfl, b5⟩
  have r5 := (r4.below b5 r4.lt).alloc (.cells #[.int .u16 (st : Int), .int .u16 (re : Int), .int .u64 (nm : Int), .int .i64 (ix : Int), .bool la, .string tx] 38 (0, 0))
  have q5 : Row (w5.alloc (.cells #[.int .u16 (st : Int), .int .u16 (re : Int), .int .u64 (nm : Int), .int .i64 (ix : Int), .bool la, .string tx] 38 (0, 0))) w5.heap.size 38 [.int .u16 (st : Int), .int .u16 (re : Int), .int .u64 (nm : Int), .int .i64 (ix : Int), .bool la, .string tx] := Row.new' rfl rfl
  have hb6 := (hb4.trans (b5.mono hb4.size)).alloc (hb4.trans (b5.mono hb4.size)).size (.cells #[.int .u16 (st : Int), .int .u16 (re : Int), .int .u64 (nm : Int), .int .i64 (ix : Int), .bool la, .string tx] 38 (0, 0))
  clear b5 r4 hb4
  obtain ⟨w6, hw6⟩ : ∃ w6, w6 = w5.alloc (.cells #[.int .u16 (st : Int), .int .u16 (re : Int), .int .u64 (nm : Int), .int .i64 (ix : Int), .bool la, .string tx] 38 (0, 0)) := ⟨_, rfl⟩
  rw [← hw6] at r5 q5 hb6
  go_upto_region 11 with fail
  rw [← hw6]
  clear hw6
  have c0 : w6.cell? ⟨w.heap.size, 0, none⟩ = some (.int .u16 (st : Int)) := r5.cell 0
  have c1 : w6.cell? ⟨w.heap.size, 1, none⟩ = some (.int .u16 (re : Int)) := r5.cell 1
  have c2 : w6.cell? ⟨w.heap.size, 2, none⟩ = some (.int .u64 (nm : Int)) := r5.cell 2
  have c3 : w6.cell? ⟨w.heap.size, 3, none⟩ = some (.int .i64 (ix : Int)) := r5.cell 3
  have c4 : w6.cell? ⟨w.heap.size, 4, none⟩ = some (.bool la) := r5.cell 4
  have c5 : w6.cell? ⟨w.heap.size, 5, none⟩ = some (.string tx) := r5.cell 5
  have d0 : w6.cell? ⟨w5.heap.size, 0, none⟩ = some (.int .u16 (st : Int)) := q5.cell 0
  have d1 : w6.cell? ⟨w5.heap.size, 1, none⟩ = some (.int .u16 (re : Int)) := q5.cell 1
  have d2 : w6.cell? ⟨w5.heap.size, 2, none⟩ = some (.int .u64 (nm : Int)) := q5.cell 2
  have d3 : w6.cell? ⟨w5.heap.size, 3, none⟩ = some (.int .i64 (ix : Int)) := q5.cell 3
  have d4 : w6.cell? ⟨w5.heap.size, 4, none⟩ = some (.bool la) := q5.cell 4
  have d5 : w6.cell? ⟨w5.heap.size, 5, none⟩ = some (.string tx) := q5.cell 5
  go_wp2_with fail
  have hb5 := hb6
  clear r5 q5 hb6 c0 c1 c2 c3 c4 c5 d0 d1 d2 d3 d4 d5
  refine (CP.out _).mono ?_
  rintro e w7 ⟨rfl, b7⟩
  have q7 : Row (w7.alloc (.cells #[.int .u16 0, .int .u16 0, .int .u64 0, .int .i64 0, .bool false, .string ⟨#[]⟩] 38 (0, 0))) w7.heap.size 38 [.int .u16 0, .int .u16 0, .int .u64 0, .int .i64 0, .bool false, .string ⟨#[]⟩] := Row.new' rfl rfl
  have hb7 := (hb5.trans (b7.mono hb5.size)).alloc (hb5.trans (b7.mono hb5.size)).size (.cells #[.int .u16 0, .int .u16 0, .int .u64 0, .int .i64 0, .bool false, .string ⟨#[]⟩] 38 (0, 0))
  clear b7 hb5
  go_wp2_with fail
  refine (CQ.out _).mono ?_
  rintro e w8 ⟨rfl, b8⟩
  have q8 := (q7.below b8 q7.lt).alloc (.cells #[.int .u16 0, .int .u16 0, .int .u64 0, .int .i64 0, .bool false, .string ⟨#[]⟩] 40 (0, 0))
  have p8 : Row (w8.alloc (.cells #[.int .u16 0, .int .u16 0, .int .u64 0, .int .i64 0, .bool false, .string ⟨#[]⟩] 40 (0, 0))) w8.heap.size 40 [.int .u16 0, .int .u16 0, .int .u64 0, .int .i64 0, .bool false, .string ⟨#[]⟩] := Row.new' rfl rfl
  have hb8 := (hb7.trans (b8.mono hb7.size)).alloc (hb7.trans (b8.mono hb7.size)).size (.cells #[.int .u16 0, .int .u16 0, .int .u64 0, .int .i64 0, .bool false, .string ⟨#[]⟩] 40 (0, 0))
  clear b8 q7 hb7
  go_wp2_with (first
    | refine wpList_load_row rfl 38 (.tmp 10) rfl w7.heap.size rfl _ _ _ _ q8 Try.underlying38 rfl infoPart ?_
    | refine wpList_load_row rfl 40 (.tmp 12) rfl w8.heap.size rfl _ _ _ _ p8 Try.underlying40 rfl infoRPart ?_)
  refine (CL.out _).mono ?_
  rintro e w9 ⟨rfl, b9⟩
  have hb9 := hb8.trans (b9.mono hb8.size)
  clear b9 q8 p8 hb8
  go_wp2
  go_ret
  exact ⟨rfl, hb9⟩

set_option maxHeartbeats 8000000 in
theorem caseYesPart (st re nm : Nat) (ix : Nat) (la : Bool) (tx s : ByteArray) (w : World) (h1 : st < 65536) (h2 : re < 65536) (h3 : nm < 18446744073709551616) (h4 : tx.size ≤ 9223372036854775807) (h5 : s.size ≤ 9223372036854775807) (g0 : tx.size ≤ 600 ∧ s.size ≤ 600) (g1 : ix ≤ 31 ∧ tx.size ≤ 466) (sx rx mx jx : Nat) (lx : Bool) (ux : ByteArray) (k1 : sx < 65536) (k2 : rx < 65536) (k3 : mx < 18446744073709551616) (k4 : jx ≤ 31) (k5 : ux.size ≤ 466) (k6 : (⟨(X9.partL sx rx mx (X9.ixN jx lx) ux.data.toList).toArray⟩ : ByteArray) = s) (gP : ∀ wx, Calls Try.prog 15 #[.string s] wx fun e w' => e = .returned (.tuple #[.agg #[.int .u16 (sx : Int), .int .u16 (rx : Int), .int .u64 (mx : Int), .int .i64 (jx : Int), .bool lx, .string ux], .int .i64 0]) ∧ Below wx.heap.size wx w') (gQ : ∀ wx, Calls Try.prog 16 #[.string s] wx fun e w' => e = .returned (.tuple #[.agg #[.int .u16 (sx : Int), .int .u16 (rx : Int), .int .u64 (mx : Int), .int .i64 (jx : Int), .bool lx, .string ux], .int .i64 0]) ∧ Below wx.heap.size wx w') :
    Calls Try.prog 4 #[.agg #[.int .u16 (st : Int), .int .u16 (re : Int), .int .u64 (nm : Int), .int .i64 (ix : Int), .bool la, .string tx], .string s] w fun e w' => e = .returned (.bool true) ∧ Below w.heap.size w w' := by
  have hmx : ¬ (600 : Int) < max (tx.size : Int) (s.size : Int) := by omega
  have CB : Hid (∀ wx, Calls Try.prog 12 #[.agg #[.int .u16 (st : Int), .int .u16 (re : Int), .int .u64 (nm : Int), .int .i64 (ix : Int), .bool la, .string tx]] wx fun e w' => e = .returned (.tuple #[.string ⟨(X9.partL st re nm (X9.ixN ix la) tx.data.toList).toArray⟩, .int .i64 0]) ∧ Below wx.heap.size wx w') := fun wx => pBytes_yes st re nm ix la tx h1 h2 h3 g1.1 g1.2 wx
  have CK : Hid (∀ wx, Calls Try.prog 13 #[.agg #[.int .u16 (st : Int), .int .u16 (re : Int), .int .u64 (nm : Int), .int .i64 (ix : Int), .bool la, .string tx]] wx fun e w' => e = .returned (.int .i64 0) ∧ Below wx.heap.size wx w') := fun wx => by
    have := refCheck_any st re nm (ix : Int) la tx h4 wx
    rwa [show pFaultE (ix : Int) tx.size = 0 from by unfold pFaultE; rw [if_neg (by omega), if_neg (by omega)]] at this
  have CY : Hid (∀ wx, Calls Try.prog 14 #[.agg #[.int .u16 (st : Int), .int .u16 (re : Int), .int .u64 (nm : Int), .int .i64 (ix : Int), .bool la, .string tx]] wx fun e w' => e = .returned (.string ⟨(X9.partL st re nm (X9.ixN ix la) tx.data.toList).toArray⟩) ∧ Below wx.heap.size wx w') := fun wx => refBytes_yes st re nm ix la tx h1 h2 h3 g1.1 g1.2 wx
  have CD : Hid (∀ wx, Calls Try.prog 15 #[.string ⟨(X9.partL st re nm (X9.ixN ix la) tx.data.toList).toArray⟩] wx fun e w' => e = .returned (.tuple #[.agg #[.int .u16 (st : Int), .int .u16 (re : Int), .int .u64 (nm : Int), .int .i64 (ix : Int), .bool la, .string tx], .int .i64 0]) ∧ Below wx.heap.size wx w') := fun wx => read_back st re nm ix la tx h1 h2 h3 g1.1 g1.2 wx
  generalize (⟨(X9.partL st re nm (X9.ixN ix la) tx.data.toList).toArray⟩ : ByteArray) = BT at *
  have CP := Lib.hid gP
  have CQ := Lib.hid gQ
  have CL : Hid (∀ wx, Calls Try.prog 12 #[.agg #[.int .u16 (sx : Int), .int .u16 (rx : Int), .int .u64 (mx : Int), .int .i64 (jx : Int), .bool lx, .string ux]] wx fun e w' => e = .returned (.tuple #[.string s, .int .i64 0]) ∧ Below wx.heap.size wx w') := fun wx => by
    have := pBytes_yes sx rx mx jx lx ux k1 k2 k3 k4 k5 wx
    rwa [k6] at this
  clear gP gQ k6
  have r0 : Row (w.alloc (.cells #[.int .u16 (st : Int), .int .u16 (re : Int), .int .u64 (nm : Int), .int .i64 (ix : Int), .bool la, .string tx] 38 (0, 0))) w.heap.size 38 [.int .u16 (st : Int), .int .u16 (re : Int), .int .u64 (nm : Int), .int .i64 (ix : Int), .bool la, .string tx] := Row.new' rfl rfl
  have b0 : Below w.heap.size w (w.alloc (.cells #[.int .u16 (st : Int), .int .u16 (re : Int), .int .u64 (nm : Int), .int .i64 (ix : Int), .bool la, .string tx] 38 (0, 0))) := (Below.refl _ _).alloc (Nat.le_refl _) _
  go_enter Try.func4, Try.ntmps4
  go_wp2_with fail
  refine (awake9_any _).mono ?_
  rintro e w1 ⟨rfl, b1⟩
  have r1 := r0.below b1 r0.lt
  have hb1 := b0.trans (b1.mono b0.size)
  clear b1 r0 b0
  have c5 : w1.cell? ⟨w.heap.size, 5, none⟩ = some (.string tx) := r1.cell 5
  go_wp2_with (first
    | refine wpList_load_row rfl 38 (.tmp 2) rfl w.heap.size rfl _ _ _ _ r1 Try.underlying38 rfl infoPart ?_)
  clear c5
  refine (CB.out _).mono ?_
  rintro e w2 ⟨rfl, b2⟩
  have r2 := r1.below b2 r1.lt
  have hb2 := hb1.trans (b2.mono hb1.size)
  clear b2 hb1 r1
  go_wp2_with (first
    | refine wpList_load_row rfl 38 (.tmp 2) rfl w.heap.size rfl _ _ _ _ r2 Try.underlying38 rfl infoPart ?_)
  refine (CK.out _).mono ?_
  rintro e w3 ⟨rfl, b3⟩
  have r3 := r2.below b3 r2.lt
  have hb3 := hb2.trans (b3.mono hb2.size)
  clear b3 hb2 r2
  have c0 : w3.cell? ⟨w.heap.size, 0, none⟩ = some (.int .u16 (st : Int)) := r3.cell 0
  have c1 : w3.cell? ⟨w.heap.size, 1, none⟩ = some (.int .u16 (re : Int)) := r3.cell 1
  have c2 : w3.cell? ⟨w.heap.size, 2, none⟩ = some (.int .u64 (nm : Int)) := r3.cell 2
  have c3 : w3.cell? ⟨w.heap.size, 3, none⟩ = some (.int .i64 (ix : Int)) := r3.cell 3
  have c4 : w3.cell? ⟨w.heap.size, 4, none⟩ = some (.bool la) := r3.cell 4
  have c5 : w3.cell? ⟨w.heap.size, 5, none⟩ = some (.string tx) := r3.cell 5
  go_wp2_with fail
  refine (CY.out _).mono ?_
  rintro e w4 ⟨rfl, b4⟩
  have r4 := r3.below b4 r3.lt
  have hb4 := hb3.trans (b4.mono hb3.size)
  clear b4 hb3 r3 c0 c1 c2 c3 c4 c5
  go_wp2_with fail
  refine (CD.out _).mono ?_
  rintro e w5 ⟨rfl, b5⟩
  have r5 := (r4.below b5 r4.lt).alloc (.cells #[.int .u16 (st : Int), .int .u16 (re : Int), .int .u64 (nm : Int), .int .i64 (ix : Int), .bool la, .string tx] 38 (0, 0))
  have q5 : Row (w5.alloc (.cells #[.int .u16 (st : Int), .int .u16 (re : Int), .int .u64 (nm : Int), .int .i64 (ix : Int), .bool la, .string tx] 38 (0, 0))) w5.heap.size 38 [.int .u16 (st : Int), .int .u16 (re : Int), .int .u64 (nm : Int), .int .i64 (ix : Int), .bool la, .string tx] := Row.new' rfl rfl
  have hb6 := (hb4.trans (b5.mono hb4.size)).alloc (hb4.trans (b5.mono hb4.size)).size (.cells #[.int .u16 (st : Int), .int .u16 (re : Int), .int .u64 (nm : Int), .int .i64 (ix : Int), .bool la, .string tx] 38 (0, 0))
  clear b5 r4 hb4
  obtain ⟨w6, hw6⟩ : ∃ w6, w6 = w5.alloc (.cells #[.int .u16 (st : Int), .int .u16 (re : Int), .int .u64 (nm : Int), .int .i64 (ix : Int), .bool la, .string tx] 38 (0, 0)) := ⟨_, rfl⟩
  rw [← hw6] at r5 q5 hb6
  go_upto_region 11 with fail
  rw [← hw6]
  clear hw6
  have c0 : w6.cell? ⟨w.heap.size, 0, none⟩ = some (.int .u16 (st : Int)) := r5.cell 0
  have c1 : w6.cell? ⟨w.heap.size, 1, none⟩ = some (.int .u16 (re : Int)) := r5.cell 1
  have c2 : w6.cell? ⟨w.heap.size, 2, none⟩ = some (.int .u64 (nm : Int)) := r5.cell 2
  have c3 : w6.cell? ⟨w.heap.size, 3, none⟩ = some (.int .i64 (ix : Int)) := r5.cell 3
  have c4 : w6.cell? ⟨w.heap.size, 4, none⟩ = some (.bool la) := r5.cell 4
  have c5 : w6.cell? ⟨w.heap.size, 5, none⟩ = some (.string tx) := r5.cell 5
  have d0 : w6.cell? ⟨w5.heap.size, 0, none⟩ = some (.int .u16 (st : Int)) := q5.cell 0
  have d1 : w6.cell? ⟨w5.heap.size, 1, none⟩ = some (.int .u16 (re : Int)) := q5.cell 1
  have d2 : w6.cell? ⟨w5.heap.size, 2, none⟩ = some (.int .u64 (nm : Int)) := q5.cell 2
  have d3 : w6.cell? ⟨w5.heap.size, 3, none⟩ = some (.int .i64 (ix : Int)) := q5.cell 3
  have d4 : w6.cell? ⟨w5.heap.size, 4, none⟩ = some (.bool la) := q5.cell 4
  have d5 : w6.cell? ⟨w5.heap.size, 5, none⟩ = some (.string tx) := q5.cell 5
  go_wp2_with fail
  have hb5 := hb6
  clear r5 q5 hb6 c0 c1 c2 c3 c4 c5 d0 d1 d2 d3 d4 d5
  refine (CP.out _).mono ?_
  rintro e w7 ⟨rfl, b7⟩
  have q7 : Row (w7.alloc (.cells #[.int .u16 (sx : Int), .int .u16 (rx : Int), .int .u64 (mx : Int), .int .i64 (jx : Int), .bool lx, .string ux] 38 (0, 0))) w7.heap.size 38 [.int .u16 (sx : Int), .int .u16 (rx : Int), .int .u64 (mx : Int), .int .i64 (jx : Int), .bool lx, .string ux] := Row.new' rfl rfl
  have hb7 := (hb5.trans (b7.mono hb5.size)).alloc (hb5.trans (b7.mono hb5.size)).size (.cells #[.int .u16 (sx : Int), .int .u16 (rx : Int), .int .u64 (mx : Int), .int .i64 (jx : Int), .bool lx, .string ux] 38 (0, 0))
  clear b7 hb5
  go_wp2_with fail
  refine (CQ.out _).mono ?_
  rintro e w8 ⟨rfl, b8⟩
  have q8 := (q7.below b8 q7.lt).alloc (.cells #[.int .u16 (sx : Int), .int .u16 (rx : Int), .int .u64 (mx : Int), .int .i64 (jx : Int), .bool lx, .string ux] 40 (0, 0))
  have p8 : Row (w8.alloc (.cells #[.int .u16 (sx : Int), .int .u16 (rx : Int), .int .u64 (mx : Int), .int .i64 (jx : Int), .bool lx, .string ux] 40 (0, 0))) w8.heap.size 40 [.int .u16 (sx : Int), .int .u16 (rx : Int), .int .u64 (mx : Int), .int .i64 (jx : Int), .bool lx, .string ux] := Row.new' rfl rfl
  have hb8 := (hb7.trans (b8.mono hb7.size)).alloc (hb7.trans (b8.mono hb7.size)).size (.cells #[.int .u16 (sx : Int), .int .u16 (rx : Int), .int .u64 (mx : Int), .int .i64 (jx : Int), .bool lx, .string ux] 40 (0, 0))
  clear b8 q7 hb7
  go_wp2_with (first
    | refine wpList_load_row rfl 38 (.tmp 10) rfl w7.heap.size rfl _ _ _ _ q8 Try.underlying38 rfl infoPart ?_
    | refine wpList_load_row rfl 40 (.tmp 12) rfl w8.heap.size rfl _ _ _ _ p8 Try.underlying40 rfl infoRPart ?_)
  refine (CL.out _).mono ?_
  rintro e w9 ⟨rfl, b9⟩
  have hb9 := hb8.trans (b9.mono hb8.size)
  clear b9 q8 p8 hb8
  go_wp2
  go_ret
  exact ⟨rfl, hb9⟩

theorem walk (st0 re0 nm0 : Nat) (ix0 : Int) (la0 : Bool) (tx0 : ByteArray) (a1 : ByteArray) (w : World) (w0 : st0 < 65536 ∧ re0 < 65536 ∧ nm0 < 18446744073709551616 ∧ -9223372036854775808 ≤ ix0 ∧ ix0 ≤ 9223372036854775807 ∧ tx0.size ≤ maxLen) (w1 : a1.size ≤ maxLen) :
    Calls Try.prog 4 #[.agg #[.int .u16 (st0 : Int), .int .u16 (re0 : Int), .int .u64 (nm0 : Int), .int .i64 ix0, .bool la0, .string tx0], .string a1] w fun e w' => e = .returned (.bool true) ∧ Below w.heap.size w w' := by
  obtain ⟨h1, h2, h3, _, _, h4⟩ := w0
  have h4 : tx0.size ≤ 9223372036854775807 := h4
  have h5 : a1.size ≤ 9223372036854775807 := w1
  by_cases g0 : tx0.size ≤ 600 ∧ a1.size ≤ 600
  · have rc := read_cases a1 g0.2
    by_cases g4 : pFaultE ix0 tx0.size ≠ 0
    · rcases rc with ⟨E, hE, gP, gQ⟩ | ⟨sx, rx, mx, jx, lx, ux, k1, k2, k3, k4, k5, k6, gP, gQ⟩
      · exact caseNoZero st0 re0 nm0 ix0 la0 tx0 a1 w h1 h2 h3 h4 h5 g0 g4 E hE gP gQ
      · exact caseNoPart st0 re0 nm0 ix0 la0 tx0 a1 w h1 h2 h3 h4 h5 g0 g4 sx rx mx jx lx ux k1 k2 k3 k4 k5 k6 gP gQ
    · have g5 : pFaultE ix0 tx0.size = 0 := by simpa using g4
      unfold pFaultE at g5
      have g6 : ¬ (ix0 < 0 ∨ 31 < ix0) := fun h => by rw [if_pos h] at g5; omega
      rw [if_neg g6] at g5
      have g7 : ¬ 466 < tx0.size := fun h => by rw [if_pos h] at g5; omega
      obtain ⟨ix, rfl⟩ : ∃ ix : Nat, ix0 = (ix : Int) := ⟨ix0.toNat, by omega⟩
      rcases rc with ⟨E, hE, gP, gQ⟩ | ⟨sx, rx, mx, jx, lx, ux, k1, k2, k3, k4, k5, k6, gP, gQ⟩
      · exact caseYesZero st0 re0 nm0 ix la0 tx0 a1 w h1 h2 h3 h4 h5 g0 ⟨by omega, by omega⟩ E hE gP gQ
      · exact caseYesPart st0 re0 nm0 ix la0 tx0 a1 w h1 h2 h3 h4 h5 g0 ⟨by omega, by omega⟩ sx rx mx jx lx ux k1 k2 k3 k4 k5 k6 gP gQ
  · exact out st0 re0 nm0 ix0 la0 tx0 a1 w h1 h2 h3 h4 h5 (by omega)

end WirePartsW
end Go.Proofs.Ytbkeodgiflfakaa
