/-
  WireDatagrams: the walk.
-/
import Derived.Test.YtbkeodgiflfakaaMod22
import Derived.Test.YtbkeodgiflfakaaMod18
import Derived.OpenShut
namespace Go.Proofs.Ytbkeodgiflfakaa
open Go.RowKit
set_option linter.unusedVariables false
set_option maxRecDepth 20000
namespace WireDatagramsW

theorem get8 (x : Nat) (h : x ≤ 18446744073709551615) : W.getN (W.putL x 8) = x := by rw [X9.get_put, Nat.mod_eq_of_lt (by omega)]
theorem parse_back (id n : Nat) (SL : List UInt8) (h1 : id ≤ 18446744073709551615) (h2 : n ≤ 18446744073709551615) (l1 : 16 ≤ SL.length) (l2 : SL.length ≤ 496) (wx : World) :
    Calls Try.prog 10 #[.string ⟨(C.blk id n ++ SL).toArray⟩] wx fun e w' => e = .returned (.tuple #[.agg #[.int .u64 (id : Int), .int .u64 (n : Int), .string ⟨SL.toArray⟩], .int .i64 0]) ∧ Below wx.heap.size wx w' := by
  have hln : (C.blk id n ++ SL).length = SL.length + 16 := by rw [List.length_append, C.blk_length]; omega
  have := parse_yes ⟨(C.blk id n ++ SL).toArray⟩ (by rw [X9.szL]; omega) (by rw [X9.szL]; omega) wx
  have hd : (⟨(C.blk id n ++ SL).toArray⟩ : ByteArray).data.toList = W.putL id 8 ++ (W.putL n 8 ++ SL) := by show C.blk id n ++ SL = _; unfold C.blk; rw [List.append_assoc]
  have d1 : (W.putL id 8 ++ (W.putL n 8 ++ SL)).take 8 = W.putL id 8 := by rw [List.take_append_of_le_length (by rw [W.putL_length]; exact Nat.le_refl _), List.take_of_length_le (by rw [W.putL_length]; exact Nat.le_refl _)]
  have d2 : (W.putL id 8 ++ (W.putL n 8 ++ SL)).drop 8 = W.putL n 8 ++ SL := by rw [List.drop_append_of_le_length (by rw [W.putL_length]; exact Nat.le_refl _), List.drop_of_length_le (by rw [W.putL_length]; exact Nat.le_refl _)]; rfl
  have d3 : (W.putL n 8 ++ SL).take 8 = W.putL n 8 := by rw [List.take_append_of_le_length (by rw [W.putL_length]; exact Nat.le_refl _), List.take_of_length_le (by rw [W.putL_length]; exact Nat.le_refl _)]
  have d4 : (W.putL n 8 ++ SL).drop 8 = SL := by rw [List.drop_append_of_le_length (by rw [W.putL_length]; exact Nat.le_refl _), List.drop_of_length_le (by rw [W.putL_length]; exact Nat.le_refl _)]; rfl
  rw [hd, d1, d2, d3, d4, get8 id h1, get8 n h2] at this
  exact this
theorem back_bytes (t : ByteArray) (h : 32 ≤ t.size) : C.blk (W.getN (t.data.toList.take 8)) (W.getN ((t.data.toList.drop 8).take 8)) ++ (t.data.toList.drop 8).drop 8 = t.data.toList := by
  have hl : t.data.toList.length = t.size := by simp
  have e1 : W.putL (W.getN (t.data.toList.take 8)) 8 = t.data.toList.take 8 := by have := X9.put_get (t.data.toList.take 8); rwa [show (t.data.toList.take 8).length = 8 by simp; omega] at this
  have e2 : W.putL (W.getN ((t.data.toList.drop 8).take 8)) 8 = (t.data.toList.drop 8).take 8 := by have := X9.put_get ((t.data.toList.drop 8).take 8); rwa [show ((t.data.toList.drop 8).take 8).length = 8 by simp; omega] at this
  unfold C.blk
  rw [e1, e2, List.append_assoc, List.take_append_drop, List.take_append_drop]

set_option maxHeartbeats 8000000 in
theorem out (id n : Nat) (s t : ByteArray) (w : World) (h1 : id ≤ 18446744073709551615) (h2 : n ≤ 18446744073709551615) (h3 : s.size ≤ 9223372036854775807) (h4 : t.size ≤ 9223372036854775807) (g : 600 < s.size ∨ 600 < t.size) :
    Calls Try.prog 3 #[.agg #[.int .u64 (id : Int), .int .u64 (n : Int), .string s], .string t] w fun e w' => e = .returned (.bool true) ∧ Below w.heap.size w w' := by
  have hmx : (600 : Int) < max (s.size : Int) (t.size : Int) := by omega
  have r0 : Row (w.alloc (.cells #[.int .u64 (id : Int), .int .u64 (n : Int), .string s] 25 (0, 0))) w.heap.size 25 [.int .u64 (id : Int), .int .u64 (n : Int), .string s] := Row.new' rfl rfl
  have b0 : Below w.heap.size w (w.alloc (.cells #[.int .u64 (id : Int), .int .u64 (n : Int), .string s] 25 (0, 0))) := (Below.refl _ _).alloc (Nat.le_refl _) _
  go_enter Try.func3, Try.ntmps3
  go_wp2_with fail
  refine (awake9_any _).mono ?_
  rintro e w1 ⟨rfl, b1⟩
  have r1 := r0.below b1 r0.lt
  have hb1 := b0.trans (b1.mono b0.size)
  clear b1 r0 b0
  have c0 : w1.cell? ⟨w.heap.size, 0, none⟩ = some (.int .u64 (id : Int)) := r1.cell 0
  have c1 : w1.cell? ⟨w.heap.size, 1, none⟩ = some (.int .u64 (n : Int)) := r1.cell 1
  have c2 : w1.cell? ⟨w.heap.size, 2, none⟩ = some (.string s) := r1.cell 2
  go_wp2
  go_ret
  exact ⟨rfl, hb1⟩

set_option maxHeartbeats 8000000 in
theorem caseNoShort (id n : Nat) (s t : ByteArray) (w : World) (h1 : id ≤ 18446744073709551615) (h2 : n ≤ 18446744073709551615) (h3 : s.size ≤ 9223372036854775807) (h4 : t.size ≤ 9223372036854775807) (g0 : s.size ≤ 600 ∧ t.size ≤ 600) (g1 : s.size < 16 ∨ 496 < s.size) (g2 : t.size < 32) :
    Calls Try.prog 3 #[.agg #[.int .u64 (id : Int), .int .u64 (n : Int), .string s], .string t] w fun e w' => e = .returned (.bool true) ∧ Below w.heap.size w w' := by
  have hmx : ¬ (600 : Int) < max (s.size : Int) (t.size : Int) := by omega
  obtain ⟨E, hE⟩ : ∃ E : Int, E = if s.size < 16 then 3 else 5 := ⟨_, rfl⟩
  have hE0 : ¬ E = 0 := by rw [hE]; split <;> decide
  have hEb : (E == 0) = false := by simp [hE0]
  have CD1 : Hid (∀ wx, Calls Try.prog 8 #[.agg #[.int .u64 (id : Int), .int .u64 (n : Int), .string s]] wx fun e w' => e = .returned (.tuple #[.string ⟨#[]⟩, .int .i64 E]) ∧ Below wx.heap.size wx w') := fun wx => by rw [hE]; exact dBytes_no id n s g1 (by omega) wx
  have CR1 : Hid (∀ wx, Calls Try.prog 9 #[.int .u64 (id : Int), .int .u64 (n : Int), .string s] wx fun e w' => e = .returned (.tuple #[.string ⟨#[]⟩, .int .i64 E]) ∧ Below wx.heap.size wx w') := fun wx => by rw [hE]; exact refDg_no id n s g1 wx
  clear hE
  have CP2 : Hid (∀ wx, Calls Try.prog 10 #[.string t] wx fun e w' => e = .returned (.tuple #[.agg #[.int .u64 0, .int .u64 0, .string ⟨#[]⟩], .int .i64 3]) ∧ Below wx.heap.size wx w') := fun wx => by
    have := parse_no t (.inl (by omega)) h4 wx
    rwa [if_pos (by omega)] at this
  have t1 : (t.size : Int) < 32 := by omega
  have r0 : Row (w.alloc (.cells #[.int .u64 (id : Int), .int .u64 (n : Int), .string s] 25 (0, 0))) w.heap.size 25 [.int .u64 (id : Int), .int .u64 (n : Int), .string s] := Row.new' rfl rfl
  have b0 : Below w.heap.size w (w.alloc (.cells #[.int .u64 (id : Int), .int .u64 (n : Int), .string s] 25 (0, 0))) := (Below.refl _ _).alloc (Nat.le_refl _) _
  go_enter Try.func3, Try.ntmps3
  go_wp2_with fail
  refine (awake9_any _).mono ?_
  rintro e w1 ⟨rfl, b1⟩
  have r1 := r0.below b1 r0.lt
  have hb1 := b0.trans (b1.mono b0.size)
  clear b1 r0 b0
  have c0 : w1.cell? ⟨w.heap.size, 0, none⟩ = some (.int .u64 (id : Int)) := r1.cell 0
  have c1 : w1.cell? ⟨w.heap.size, 1, none⟩ = some (.int .u64 (n : Int)) := r1.cell 1
  have c2 : w1.cell? ⟨w.heap.size, 2, none⟩ = some (.string s) := r1.cell 2
  go_wp2_with (first
    | refine wpList_load_row rfl 25 (.tmp 2) rfl w.heap.size rfl _ _ _ _ r1 Try.underlying25 rfl infoDg ?_)
  clear c0 c1 c2
  refine (CD1.out _).mono ?_
  rintro e w2 ⟨rfl, b2⟩
  have r2 := r1.below b2 r1.lt
  have hb2 := hb1.trans (b2.mono hb1.size)
  clear b2 hb1 r1
  have c0 : w2.cell? ⟨w.heap.size, 0, none⟩ = some (.int .u64 (id : Int)) := r2.cell 0
  have c1 : w2.cell? ⟨w.heap.size, 1, none⟩ = some (.int .u64 (n : Int)) := r2.cell 1
  have c2 : w2.cell? ⟨w.heap.size, 2, none⟩ = some (.string s) := r2.cell 2
  go_wp2_with fail
  refine (CR1.out _).mono ?_
  rintro e w3 ⟨rfl, b3⟩
  have r3 := r2.below b3 r2.lt
  have hb3 := hb2.trans (b3.mono hb2.size)
  clear b3 hb2 r2 c0 c1 c2
  go_wp2_with fail
  have hb5 := hb3
  clear r3 hb3
  refine (CP2.out _).mono ?_
  rintro e w6 ⟨rfl, b6⟩
  have q6 : Row (w6.alloc (.cells #[.int .u64 0, .int .u64 0, .string ⟨#[]⟩] 25 (0, 0))) w6.heap.size 25 [.int .u64 0, .int .u64 0, .string ⟨#[]⟩] := Row.new' rfl rfl
  have hb6 := (hb5.trans (b6.mono hb5.size)).alloc (hb5.trans (b6.mono hb5.size)).size (.cells #[.int .u64 0, .int .u64 0, .string ⟨#[]⟩] 25 (0, 0))
  clear b6 hb5
  obtain ⟨w7, hw7⟩ : ∃ w7, w7 = w6.alloc (.cells #[.int .u64 0, .int .u64 0, .string ⟨#[]⟩] 25 (0, 0)) := ⟨_, rfl⟩
  rw [← hw7] at q6 hb6
  go_upto_region 14 with fail
  rw [← hw7]
  clear hw7
  have d0 : w7.cell? ⟨w6.heap.size, 0, none⟩ = some (.int .u64 0) := q6.cell 0
  have d1 : w7.cell? ⟨w6.heap.size, 1, none⟩ = some (.int .u64 0) := q6.cell 1
  have d2 : w7.cell? ⟨w6.heap.size, 2, none⟩ = some (.string ⟨#[]⟩) := q6.cell 2
  go_wp2
  go_ret
  exact ⟨rfl, hb6⟩

set_option maxHeartbeats 8000000 in
theorem caseNoLong (id n : Nat) (s t : ByteArray) (w : World) (h1 : id ≤ 18446744073709551615) (h2 : n ≤ 18446744073709551615) (h3 : s.size ≤ 9223372036854775807) (h4 : t.size ≤ 9223372036854775807) (g0 : s.size ≤ 600 ∧ t.size ≤ 600) (g1 : s.size < 16 ∨ 496 < s.size) (g2 : 512 < t.size) :
    Calls Try.prog 3 #[.agg #[.int .u64 (id : Int), .int .u64 (n : Int), .string s], .string t] w fun e w' => e = .returned (.bool true) ∧ Below w.heap.size w w' := by
  have hmx : ¬ (600 : Int) < max (s.size : Int) (t.size : Int) := by omega
  obtain ⟨E, hE⟩ : ∃ E : Int, E = if s.size < 16 then 3 else 5 := ⟨_, rfl⟩
  have hE0 : ¬ E = 0 := by rw [hE]; split <;> decide
  have hEb : (E == 0) = false := by simp [hE0]
  have CD1 : Hid (∀ wx, Calls Try.prog 8 #[.agg #[.int .u64 (id : Int), .int .u64 (n : Int), .string s]] wx fun e w' => e = .returned (.tuple #[.string ⟨#[]⟩, .int .i64 E]) ∧ Below wx.heap.size wx w') := fun wx => by rw [hE]; exact dBytes_no id n s g1 (by omega) wx
  have CR1 : Hid (∀ wx, Calls Try.prog 9 #[.int .u64 (id : Int), .int .u64 (n : Int), .string s] wx fun e w' => e = .returned (.tuple #[.string ⟨#[]⟩, .int .i64 E]) ∧ Below wx.heap.size wx w') := fun wx => by rw [hE]; exact refDg_no id n s g1 wx
  clear hE
  have CP2 : Hid (∀ wx, Calls Try.prog 10 #[.string t] wx fun e w' => e = .returned (.tuple #[.agg #[.int .u64 0, .int .u64 0, .string ⟨#[]⟩], .int .i64 5]) ∧ Below wx.heap.size wx w') := fun wx => by
    have := parse_no t (.inr (by omega)) h4 wx
    rwa [if_neg (by omega)] at this
  have t1 : ¬ (t.size : Int) < 32 := by omega
  have t2 : (512 : Int) < (t.size : Int) := by omega
  have r0 : Row (w.alloc (.cells #[.int .u64 (id : Int), .int .u64 (n : Int), .string s] 25 (0, 0))) w.heap.size 25 [.int .u64 (id : Int), .int .u64 (n : Int), .string s] := Row.new' rfl rfl
  have b0 : Below w.heap.size w (w.alloc (.cells #[.int .u64 (id : Int), .int .u64 (n : Int), .string s] 25 (0, 0))) := (Below.refl _ _).alloc (Nat.le_refl _) _
  go_enter Try.func3, Try.ntmps3
  go_wp2_with fail
  refine (awake9_any _).mono ?_
  rintro e w1 ⟨rfl, b1⟩
  have r1 := r0.below b1 r0.lt
  have hb1 := b0.trans (b1.mono b0.size)
  clear b1 r0 b0
  have c0 : w1.cell? ⟨w.heap.size, 0, none⟩ = some (.int .u64 (id : Int)) := r1.cell 0
  have c1 : w1.cell? ⟨w.heap.size, 1, none⟩ = some (.int .u64 (n : Int)) := r1.cell 1
  have c2 : w1.cell? ⟨w.heap.size, 2, none⟩ = some (.string s) := r1.cell 2
  go_wp2_with (first
    | refine wpList_load_row rfl 25 (.tmp 2) rfl w.heap.size rfl _ _ _ _ r1 Try.underlying25 rfl infoDg ?_)
  clear c0 c1 c2
  refine (CD1.out _).mono ?_
  rintro e w2 ⟨rfl, b2⟩
  have r2 := r1.below b2 r1.lt
  have hb2 := hb1.trans (b2.mono hb1.size)
  clear b2 hb1 r1
  have c0 : w2.cell? ⟨w.heap.size, 0, none⟩ = some (.int .u64 (id : Int)) := r2.cell 0
  have c1 : w2.cell? ⟨w.heap.size, 1, none⟩ = some (.int .u64 (n : Int)) := r2.cell 1
  have c2 : w2.cell? ⟨w.heap.size, 2, none⟩ = some (.string s) := r2.cell 2
  go_wp2_with fail
  refine (CR1.out _).mono ?_
  rintro e w3 ⟨rfl, b3⟩
  have r3 := r2.below b3 r2.lt
  have hb3 := hb2.trans (b3.mono hb2.size)
  clear b3 hb2 r2 c0 c1 c2
  go_wp2_with fail
  have hb5 := hb3
  clear r3 hb3
  refine (CP2.out _).mono ?_
  rintro e w6 ⟨rfl, b6⟩
  have q6 : Row (w6.alloc (.cells #[.int .u64 0, .int .u64 0, .string ⟨#[]⟩] 25 (0, 0))) w6.heap.size 25 [.int .u64 0, .int .u64 0, .string ⟨#[]⟩] := Row.new' rfl rfl
  have hb6 := (hb5.trans (b6.mono hb5.size)).alloc (hb5.trans (b6.mono hb5.size)).size (.cells #[.int .u64 0, .int .u64 0, .string ⟨#[]⟩] 25 (0, 0))
  clear b6 hb5
  obtain ⟨w7, hw7⟩ : ∃ w7, w7 = w6.alloc (.cells #[.int .u64 0, .int .u64 0, .string ⟨#[]⟩] 25 (0, 0)) := ⟨_, rfl⟩
  rw [← hw7] at q6 hb6
  go_upto_region 14 with fail
  rw [← hw7]
  clear hw7
  have d0 : w7.cell? ⟨w6.heap.size, 0, none⟩ = some (.int .u64 0) := q6.cell 0
  have d1 : w7.cell? ⟨w6.heap.size, 1, none⟩ = some (.int .u64 0) := q6.cell 1
  have d2 : w7.cell? ⟨w6.heap.size, 2, none⟩ = some (.string ⟨#[]⟩) := q6.cell 2
  go_wp2
  go_ret
  exact ⟨rfl, hb6⟩

set_option maxHeartbeats 8000000 in
theorem caseNoMid (id n : Nat) (s t : ByteArray) (w : World) (h1 : id ≤ 18446744073709551615) (h2 : n ≤ 18446744073709551615) (h3 : s.size ≤ 9223372036854775807) (h4 : t.size ≤ 9223372036854775807) (g0 : s.size ≤ 600 ∧ t.size ≤ 600) (g1 : s.size < 16 ∨ 496 < s.size) (g2 : 32 ≤ t.size ∧ t.size ≤ 512) :
    Calls Try.prog 3 #[.agg #[.int .u64 (id : Int), .int .u64 (n : Int), .string s], .string t] w fun e w' => e = .returned (.bool true) ∧ Below w.heap.size w w' := by
  have hmx : ¬ (600 : Int) < max (s.size : Int) (t.size : Int) := by omega
  obtain ⟨E, hE⟩ : ∃ E : Int, E = if s.size < 16 then 3 else 5 := ⟨_, rfl⟩
  have hE0 : ¬ E = 0 := by rw [hE]; split <;> decide
  have hEb : (E == 0) = false := by simp [hE0]
  have CD1 : Hid (∀ wx, Calls Try.prog 8 #[.agg #[.int .u64 (id : Int), .int .u64 (n : Int), .string s]] wx fun e w' => e = .returned (.tuple #[.string ⟨#[]⟩, .int .i64 E]) ∧ Below wx.heap.size wx w') := fun wx => by rw [hE]; exact dBytes_no id n s g1 (by omega) wx
  have CR1 : Hid (∀ wx, Calls Try.prog 9 #[.int .u64 (id : Int), .int .u64 (n : Int), .string s] wx fun e w' => e = .returned (.tuple #[.string ⟨#[]⟩, .int .i64 E]) ∧ Below wx.heap.size wx w') := fun wx => by rw [hE]; exact refDg_no id n s g1 wx
  clear hE
  have t1 : ¬ (t.size : Int) < 32 := by omega
  have t2 : ¬ (512 : Int) < (t.size : Int) := by omega
  have hl : t.data.toList.length = t.size := by simp
  have CP2 : Hid (∀ wx, Calls Try.prog 10 #[.string t] wx fun e w' => e = .returned (.tuple #[.agg #[.int .u64 (W.getN (t.data.toList.take 8) : Int), .int .u64 (W.getN ((t.data.toList.drop 8).take 8) : Int), .string ⟨((t.data.toList.drop 8).drop 8).toArray⟩], .int .i64 0]) ∧ Below wx.heap.size wx w') := fun wx => parse_yes t (by omega) (by omega) wx
  have k1 : W.getN (t.data.toList.take 8) ≤ 18446744073709551615 := by
    have h := W.getN_lt (t.data.toList.take 8)
    rw [show (t.data.toList.take 8).length = 8 by simp; omega] at h
    omega
  have k2 : W.getN ((t.data.toList.drop 8).take 8) ≤ 18446744073709551615 := by
    have h := W.getN_lt ((t.data.toList.drop 8).take 8)
    rw [show ((t.data.toList.drop 8).take 8).length = 8 by simp; omega] at h
    omega
  have hbk := back_bytes t (by omega)
  have CD2 : Hid (∀ wx, Calls Try.prog 8 #[.agg #[.int .u64 (W.getN (t.data.toList.take 8) : Int), .int .u64 (W.getN ((t.data.toList.drop 8).take 8) : Int), .string ⟨((t.data.toList.drop 8).drop 8).toArray⟩]] wx fun e w' => e = .returned (.tuple #[.string t, .int .i64 0]) ∧ Below wx.heap.size wx w') := fun wx => by
    have := dBytes_yes (W.getN (t.data.toList.take 8)) (W.getN ((t.data.toList.drop 8).take 8)) ⟨((t.data.toList.drop 8).drop 8).toArray⟩ k1 k2 (by rw [X9.szL]; simp only [List.length_drop]; omega) (by rw [X9.szL]; simp only [List.length_drop]; omega) wx
    rw [show (⟨((t.data.toList.drop 8).drop 8).toArray⟩ : ByteArray).data.toList = (t.data.toList.drop 8).drop 8 from rfl, hbk, show (⟨t.data.toList.toArray⟩ : ByteArray) = t from Go.WideShapes.bytes_inj rfl] at this
    exact this
  have CG1 : Hid (∀ wx, Calls Try.prog 11 #[.string ⟨(t.data.toList.take 8).toArray⟩] wx fun e w' => e = .returned (.int .u64 (W.getN (t.data.toList.take 8) : Int)) ∧ w' = wx) := fun wx => refGet_any ⟨(t.data.toList.take 8).toArray⟩ (by rw [X9.szL, List.length_take]; omega) wx
  have CG2 : Hid (∀ wx, Calls Try.prog 11 #[.string ⟨((t.data.toList.drop 8).take 8).toArray⟩] wx fun e w' => e = .returned (.int .u64 (W.getN ((t.data.toList.drop 8).take 8) : Int)) ∧ w' = wx) := fun wx => refGet_any ⟨((t.data.toList.drop 8).take 8).toArray⟩ (by rw [X9.szL, List.length_take]; omega) wx
  have ex0 : t.extract 0 8 = ⟨(t.data.toList.take 8).toArray⟩ := Go.WideShapes.bytes_inj (by simp [ByteArray.data_extract])
  have ex1 : t.extract 8 16 = ⟨((t.data.toList.drop 8).take 8).toArray⟩ := Go.WideShapes.bytes_inj (by simp [ByteArray.data_extract])
  have ex2 : t.extract 16 t.size = ⟨((t.data.toList.drop 8).drop 8).toArray⟩ := Go.WideShapes.bytes_inj (by simp [ByteArray.data_extract]; exact List.take_of_length_le (by simp))
  clear hbk k1 k2 hl
  generalize W.getN (t.data.toList.take 8) = n1 at *
  generalize W.getN ((t.data.toList.drop 8).take 8) = n2 at *
  generalize (⟨(t.data.toList.take 8).toArray⟩ : ByteArray) = f0 at *
  generalize (⟨((t.data.toList.drop 8).take 8).toArray⟩ : ByteArray) = f1 at *
  generalize (⟨((t.data.toList.drop 8).drop 8).toArray⟩ : ByteArray) = f2 at *
  have r0 : Row (w.alloc (.cells #[.int .u64 (id : Int), .int .u64 (n : Int), .string s] 25 (0, 0))) w.heap.size 25 [.int .u64 (id : Int), .int .u64 (n : Int), .string s] := Row.new' rfl rfl
  have b0 : Below w.heap.size w (w.alloc (.cells #[.int .u64 (id : Int), .int .u64 (n : Int), .string s] 25 (0, 0))) := (Below.refl _ _).alloc (Nat.le_refl _) _
  go_enter Try.func3, Try.ntmps3
  go_wp2_with fail
  refine (awake9_any _).mono ?_
  rintro e w1 ⟨rfl, b1⟩
  have r1 := r0.below b1 r0.lt
  have hb1 := b0.trans (b1.mono b0.size)
  clear b1 r0 b0
  have c0 : w1.cell? ⟨w.heap.size, 0, none⟩ = some (.int .u64 (id : Int)) := r1.cell 0
  have c1 : w1.cell? ⟨w.heap.size, 1, none⟩ = some (.int .u64 (n : Int)) := r1.cell 1
  have c2 : w1.cell? ⟨w.heap.size, 2, none⟩ = some (.string s) := r1.cell 2
  go_wp2_with (first
    | refine wpList_load_row rfl 25 (.tmp 2) rfl w.heap.size rfl _ _ _ _ r1 Try.underlying25 rfl infoDg ?_)
  clear c0 c1 c2
  refine (CD1.out _).mono ?_
  rintro e w2 ⟨rfl, b2⟩
  have r2 := r1.below b2 r1.lt
  have hb2 := hb1.trans (b2.mono hb1.size)
  clear b2 hb1 r1
  have c0 : w2.cell? ⟨w.heap.size, 0, none⟩ = some (.int .u64 (id : Int)) := r2.cell 0
  have c1 : w2.cell? ⟨w.heap.size, 1, none⟩ = some (.int .u64 (n : Int)) := r2.cell 1
  have c2 : w2.cell? ⟨w.heap.size, 2, none⟩ = some (.string s) := r2.cell 2
  go_wp2_with fail
  refine (CR1.out _).mono ?_
  rintro e w3 ⟨rfl, b3⟩
  have r3 := r2.below b3 r2.lt
  have hb3 := hb2.trans (b3.mono hb2.size)
  clear b3 hb2 r2 c0 c1 c2
  go_wp2_with fail
  have hb5 := hb3
  clear r3 hb3
  refine (CP2.out _).mono ?_
  rintro e w6 ⟨rfl, b6⟩
  have q6 : Row (w6.alloc (.cells #[.int .u64 (n1 : Int), .int .u64 (n2 : Int), .string f2] 25 (0, 0))) w6.heap.size 25 [.int .u64 (n1 : Int), .int .u64 (n2 : Int), .string f2] := Row.new' rfl rfl
  have hb6 := (hb5.trans (b6.mono hb5.size)).alloc (hb5.trans (b6.mono hb5.size)).size (.cells #[.int .u64 (n1 : Int), .int .u64 (n2 : Int), .string f2] 25 (0, 0))
  clear b6 hb5
  go_wp2_with (first
    | refine wpList_load_row rfl 25 (.tmp 11) rfl w6.heap.size rfl _ _ _ _ q6 Try.underlying25 rfl infoDg ?_)
  refine (CD2.out _).mono ?_
  rintro e w8 ⟨rfl, b8⟩
  have q8 := q6.below b8 q6.lt
  have hb8 := hb6.trans (b8.mono hb6.size)
  clear b8 q6 hb6
  go_wp2_with fail
  refine wp_region_held_drew (S := fun w' => Row w' w6.heap.size 25 [.int .u64 (n1 : Int), .int .u64 (n2 : Int), .string f2] ∧ Below w.heap.size w w') (by kernel_rfl) (⟨q8.drew, hb8.drew⟩) (fun hHeld => ?_)
  refine take_d 0 (some 93) (.int .i64 0) rfl (by kernel_rfl) (by kernel_rfl) (by kernel_rfl) (fun _ _ _ h => h) (fun oi h => by cases h; exact Or.inl ⟨by rfl, fun w' hS' => by go_simp⟩) hHeld ?_
  try simp only [Act.put, List.setIfInBounds_toArray, List.set_cons_zero, List.set_cons_succ]
  refine take_d 1 (some 94) (.bool true) rfl (by kernel_rfl) (by kernel_rfl) (by kernel_rfl) (fun _ _ _ h => h) (fun oi h => by cases h; exact Or.inl ⟨by rfl, fun w' hS' => by go_simp⟩) hHeld ?_
  try simp only [Act.put, List.setIfInBounds_toArray, List.set_cons_zero, List.set_cons_succ]
  refine take_d 2 (some 95) (.bool true) rfl (by kernel_rfl) (by kernel_rfl) (by kernel_rfl) (fun _ _ _ h => h) (fun oi h => by cases h; exact Or.inl ⟨by rfl, fun w' hS' => by go_simp⟩) hHeld ?_
  try simp only [Act.put, List.setIfInBounds_toArray, List.set_cons_zero, List.set_cons_succ]
  refine take_d 3 (some 96) (.pointer (some ⟨w6.heap.size, 0, none⟩)) rfl (by kernel_rfl) (by kernel_rfl) (by kernel_rfl) (fun _ _ _ h => h) (fun oi h => by cases h; exact Or.inl ⟨by rfl, fun w' hS' => by go_simp⟩) hHeld ?_
  try simp only [Act.put, List.setIfInBounds_toArray, List.set_cons_zero, List.set_cons_succ]
  refine take_d 4 (some 97) (.int .u64 (n1 : Int)) rfl (by kernel_rfl) (by kernel_rfl) (by kernel_rfl) (fun _ _ _ h => h) (fun oi h => by cases h; exact Or.inl ⟨by rfl, fun w' hS' => by have c : w'.cell? ⟨w6.heap.size, 0, none⟩ = some (.int .u64 (n1 : Int)) := hS'.1.cell 0; go_simp⟩) hHeld ?_
  try simp only [Act.put, List.setIfInBounds_toArray, List.set_cons_zero, List.set_cons_succ]
  refine take_d 5 (some 98) (.string t) rfl (by kernel_rfl) (by kernel_rfl) (by kernel_rfl) (fun _ _ _ h => h) (fun oi h => by cases h; exact Or.inl ⟨by rfl, fun w' hS' => by go_simp⟩) hHeld ?_
  try simp only [Act.put, List.setIfInBounds_toArray, List.set_cons_zero, List.set_cons_succ]
  refine take_d 6 (some 99) (.string f0) rfl (by kernel_rfl) (by kernel_rfl) (by kernel_rfl) (fun _ _ _ h => h) (fun oi h => by cases h; exact Or.inl ⟨by rfl, fun w' hS' => by have b8 : ¬ (t.size : Int) < 8 := (by omega); have b16 : ¬ (t.size : Int) < 16 := (by omega); have d8 : ¬ t.size < 8 := (by omega); have d16 : ¬ t.size < 16 := (by omega); go_simp⟩) hHeld ?_
  try simp only [Act.put, List.setIfInBounds_toArray, List.set_cons_zero, List.set_cons_succ]
  refine one_d 7 (some 100) rfl (by kernel_rfl) ?_
  intro o ho hd K hK
  cases ho
  go_simp
  refine (CG1.out _).mono ?_
  rintro e wq ⟨rfl, rfl⟩
  refine hK.out _ _ hHeld (fun hHeld => ?_)
  clear hK K hd
  try simp only [Act.put, List.setIfInBounds_toArray, List.set_cons_zero, List.set_cons_succ]
  refine take_d 8 (some 101) (.bool true) rfl (by kernel_rfl) (by kernel_rfl) (by kernel_rfl) (fun _ _ _ h => h) (fun oi h => by cases h; exact Or.inl ⟨by rfl, fun w' hS' => by go_simp⟩) hHeld ?_
  try simp only [Act.put, List.setIfInBounds_toArray, List.set_cons_zero, List.set_cons_succ]
  refine take_d 9 (some 102) (.bool true) rfl (by kernel_rfl) (by kernel_rfl) (by kernel_rfl) (fun _ _ _ h => h) (fun oi h => by cases h; exact Or.inl ⟨by rfl, fun w' hS' => by go_simp⟩) hHeld ?_
  try simp only [Act.put, List.setIfInBounds_toArray, List.set_cons_zero, List.set_cons_succ]
  refine take_d 10 (some 103) (.bool true) rfl (by kernel_rfl) (by kernel_rfl) (by kernel_rfl) (fun _ _ _ h => h) (fun oi h => by cases h; exact Or.inl ⟨by rfl, fun w' hS' => by go_simp⟩) hHeld ?_
  try simp only [Act.put, List.setIfInBounds_toArray, List.set_cons_zero, List.set_cons_succ]
  refine take_d 11 (some 104) (.pointer (some ⟨w6.heap.size, 1, none⟩)) rfl (by kernel_rfl) (by kernel_rfl) (by kernel_rfl) (fun _ _ _ h => h) (fun oi h => by cases h; exact Or.inl ⟨by rfl, fun w' hS' => by go_simp⟩) hHeld ?_
  try simp only [Act.put, List.setIfInBounds_toArray, List.set_cons_zero, List.set_cons_succ]
  refine take_d 12 (some 105) (.int .u64 (n2 : Int)) rfl (by kernel_rfl) (by kernel_rfl) (by kernel_rfl) (fun _ _ _ h => h) (fun oi h => by cases h; exact Or.inl ⟨by rfl, fun w' hS' => by have c : w'.cell? ⟨w6.heap.size, 1, none⟩ = some (.int .u64 (n2 : Int)) := hS'.1.cell 1; go_simp⟩) hHeld ?_
  try simp only [Act.put, List.setIfInBounds_toArray, List.set_cons_zero, List.set_cons_succ]
  refine take_d 13 (some 106) (.string t) rfl (by kernel_rfl) (by kernel_rfl) (by kernel_rfl) (fun _ _ _ h => h) (fun oi h => by cases h; exact Or.inl ⟨by rfl, fun w' hS' => by go_simp⟩) hHeld ?_
  try simp only [Act.put, List.setIfInBounds_toArray, List.set_cons_zero, List.set_cons_succ]
  refine take_d 14 (some 107) (.string f1) rfl (by kernel_rfl) (by kernel_rfl) (by kernel_rfl) (fun _ _ _ h => h) (fun oi h => by cases h; exact Or.inl ⟨by rfl, fun w' hS' => by have b8 : ¬ (t.size : Int) < 8 := (by omega); have b16 : ¬ (t.size : Int) < 16 := (by omega); have d8 : ¬ t.size < 8 := (by omega); have d16 : ¬ t.size < 16 := (by omega); go_simp⟩) hHeld ?_
  try simp only [Act.put, List.setIfInBounds_toArray, List.set_cons_zero, List.set_cons_succ]
  refine one_d 15 (some 108) rfl (by kernel_rfl) ?_
  intro o ho hd K hK
  cases ho
  go_simp
  refine (CG2.out _).mono ?_
  rintro e wq ⟨rfl, rfl⟩
  refine hK.out _ _ hHeld (fun hHeld => ?_)
  clear hK K hd
  try simp only [Act.put, List.setIfInBounds_toArray, List.set_cons_zero, List.set_cons_succ]
  refine take_d 16 (some 109) (.bool true) rfl (by kernel_rfl) (by kernel_rfl) (by kernel_rfl) (fun _ _ _ h => h) (fun oi h => by cases h; exact Or.inl ⟨by rfl, fun w' hS' => by go_simp⟩) hHeld ?_
  try simp only [Act.put, List.setIfInBounds_toArray, List.set_cons_zero, List.set_cons_succ]
  refine take_d 17 (some 110) (.bool true) rfl (by kernel_rfl) (by kernel_rfl) (by kernel_rfl) (fun _ _ _ h => h) (fun oi h => by cases h; exact Or.inl ⟨by rfl, fun w' hS' => by go_simp⟩) hHeld ?_
  try simp only [Act.put, List.setIfInBounds_toArray, List.set_cons_zero, List.set_cons_succ]
  refine take_d 18 (some 111) (.bool true) rfl (by kernel_rfl) (by kernel_rfl) (by kernel_rfl) (fun _ _ _ h => h) (fun oi h => by cases h; exact Or.inl ⟨by rfl, fun w' hS' => by go_simp⟩) hHeld ?_
  try simp only [Act.put, List.setIfInBounds_toArray, List.set_cons_zero, List.set_cons_succ]
  refine take_d 19 (some 112) (.pointer (some ⟨w6.heap.size, 2, none⟩)) rfl (by kernel_rfl) (by kernel_rfl) (by kernel_rfl) (fun _ _ _ h => h) (fun oi h => by cases h; exact Or.inl ⟨by rfl, fun w' hS' => by go_simp⟩) hHeld ?_
  try simp only [Act.put, List.setIfInBounds_toArray, List.set_cons_zero, List.set_cons_succ]
  refine take_d 20 (some 113) (.string f2) rfl (by kernel_rfl) (by kernel_rfl) (by kernel_rfl) (fun _ _ _ h => h) (fun oi h => by cases h; exact Or.inl ⟨by rfl, fun w' hS' => by have c : w'.cell? ⟨w6.heap.size, 2, none⟩ = some (.string f2) := hS'.1.cell 2; go_simp⟩) hHeld ?_
  try simp only [Act.put, List.setIfInBounds_toArray, List.set_cons_zero, List.set_cons_succ]
  refine take_d 21 (some 114) (.string t) rfl (by kernel_rfl) (by kernel_rfl) (by kernel_rfl) (fun _ _ _ h => h) (fun oi h => by cases h; exact Or.inl ⟨by rfl, fun w' hS' => by go_simp⟩) hHeld ?_
  try simp only [Act.put, List.setIfInBounds_toArray, List.set_cons_zero, List.set_cons_succ]
  refine take_d 22 (some 115) (.string f2) rfl (by kernel_rfl) (by kernel_rfl) (by kernel_rfl) (fun _ _ _ h => h) (fun oi h => by cases h; exact Or.inl ⟨by rfl, fun w' hS' => by have b8 : ¬ (t.size : Int) < 8 := (by omega); have b16 : ¬ (t.size : Int) < 16 := (by omega); have d8 : ¬ t.size < 8 := (by omega); have d16 : ¬ t.size < 16 := (by omega); go_simp⟩) hHeld ?_
  try simp only [Act.put, List.setIfInBounds_toArray, List.set_cons_zero, List.set_cons_succ]
  refine take_d 23 (some 116) (.bool true) rfl (by kernel_rfl) (by kernel_rfl) (by kernel_rfl) (fun _ _ _ h => h) (fun oi h => by cases h; exact Or.inl ⟨by rfl, fun w' hS' => by go_simp⟩) hHeld ?_
  try simp only [Act.put, List.setIfInBounds_toArray, List.set_cons_zero, List.set_cons_succ]
  refine take_d 24 (some 117) (.bool true) rfl (by kernel_rfl) (by kernel_rfl) (by kernel_rfl) (fun _ _ _ h => h) (fun oi h => by cases h; exact Or.inl ⟨by rfl, fun w' hS' => by go_simp⟩) hHeld ?_
  try simp only [Act.put, List.setIfInBounds_toArray, List.set_cons_zero, List.set_cons_succ]
  refine take_d 25 (some 118) (.bool true) rfl (by kernel_rfl) (by kernel_rfl) (by kernel_rfl) (fun _ _ _ h => h) (fun oi h => by cases h; exact Or.inl ⟨by rfl, fun w' hS' => by go_simp⟩) hHeld ?_
  try simp only [Act.put, List.setIfInBounds_toArray, List.set_cons_zero, List.set_cons_succ]
  refine take_d 26 (some 119) (.int .i64 0) rfl (by kernel_rfl) (by kernel_rfl) (by kernel_rfl) (fun _ _ _ h => h) (fun oi h => by cases h; exact Or.inl ⟨by rfl, fun w' hS' => by go_simp⟩) hHeld ?_
  try simp only [Act.put, List.setIfInBounds_toArray, List.set_cons_zero, List.set_cons_succ]
  refine take_d 27 (some 120) (.bool true) rfl (by kernel_rfl) (by kernel_rfl) (by kernel_rfl) (fun _ _ _ h => h) (fun oi h => by cases h; exact Or.inl ⟨by rfl, fun w' hS' => by go_simp⟩) hHeld ?_
  try simp only [Act.put, List.setIfInBounds_toArray, List.set_cons_zero, List.set_cons_succ]
  refine take_d 28 (some 121) (.bool true) rfl (by kernel_rfl) (by kernel_rfl) (by kernel_rfl) (fun _ _ _ h => h) (fun oi h => by cases h; exact Or.inl ⟨by rfl, fun w' hS' => by go_simp⟩) hHeld ?_
  try simp only [Act.put, List.setIfInBounds_toArray, List.set_cons_zero, List.set_cons_succ]
  refine take_d 29 (some 122) (.bool true) rfl (by kernel_rfl) (by kernel_rfl) (by kernel_rfl) (fun _ _ _ h => h) (fun oi h => by cases h; exact Or.inl ⟨by rfl, fun w' hS' => by go_simp⟩) hHeld ?_
  try simp only [Act.put, List.setIfInBounds_toArray, List.set_cons_zero, List.set_cons_succ]
  refine take_d 30 (some 123) (.string t) rfl (by kernel_rfl) (by kernel_rfl) (by kernel_rfl) (fun _ _ _ h => h) (fun oi h => by cases h; exact Or.inl ⟨by rfl, fun w' hS' => by go_simp⟩) hHeld ?_
  try simp only [Act.put, List.setIfInBounds_toArray, List.set_cons_zero, List.set_cons_succ]
  refine take_d 31 (some 124) (.string t) rfl (by kernel_rfl) (by kernel_rfl) (by kernel_rfl) (fun _ _ _ h => h) (fun oi h => by cases h; exact Or.inl ⟨by rfl, fun w' hS' => by go_simp⟩) hHeld ?_
  try simp only [Act.put, List.setIfInBounds_toArray, List.set_cons_zero, List.set_cons_succ]
  refine take_d 32 (some 125) (.bool true) rfl (by kernel_rfl) (by kernel_rfl) (by kernel_rfl) (fun _ _ _ h => h) (fun oi h => by cases h; exact Or.inl ⟨by rfl, fun w' hS' => by go_simp⟩) hHeld ?_
  try simp only [Act.put, List.setIfInBounds_toArray, List.set_cons_zero, List.set_cons_succ]
  refine take_d 33 (some 126) (.bool true) rfl (by kernel_rfl) (by kernel_rfl) (by kernel_rfl) (fun _ _ _ h => h) (fun oi h => by cases h; exact Or.inl ⟨by rfl, fun w' hS' => by go_simp⟩) hHeld ?_
  try simp only [Act.put, List.setIfInBounds_toArray, List.set_cons_zero, List.set_cons_succ]
  refine take_d 34 (some 4) (.bool true) rfl (by kernel_rfl) (by kernel_rfl) (by kernel_rfl) (fun _ _ _ h => h) (fun oi h => by cases h; exact Or.inl ⟨by rfl, fun w' hS' => by go_simp⟩) hHeld ?_
  try simp only [Act.put, List.setIfInBounds_toArray, List.set_cons_zero, List.set_cons_succ]
  refine wpAnyH_done (by kernel_rfl) ?_ _
  try simp only [Act.put]
  have hb9 := hHeld.2
  go_wp2
  go_ret
  exact ⟨rfl, hb9⟩

set_option maxHeartbeats 8000000 in
theorem caseYesShort (id n : Nat) (s t : ByteArray) (w : World) (h1 : id ≤ 18446744073709551615) (h2 : n ≤ 18446744073709551615) (h3 : s.size ≤ 9223372036854775807) (h4 : t.size ≤ 9223372036854775807) (g0 : s.size ≤ 600 ∧ t.size ≤ 600) (g1 : 16 ≤ s.size ∧ s.size ≤ 496) (g2 : t.size < 32) :
    Calls Try.prog 3 #[.agg #[.int .u64 (id : Int), .int .u64 (n : Int), .string s], .string t] w fun e w' => e = .returned (.bool true) ∧ Below w.heap.size w w' := by
  have hmx : ¬ (600 : Int) < max (s.size : Int) (t.size : Int) := by omega
  have CD1 : Hid (∀ wx, Calls Try.prog 8 #[.agg #[.int .u64 (id : Int), .int .u64 (n : Int), .string s]] wx fun e w' => e = .returned (.tuple #[.string ⟨(C.blk id n ++ s.data.toList).toArray⟩, .int .i64 0]) ∧ Below wx.heap.size wx w') := fun wx => dBytes_yes id n s h1 h2 (by omega) (by omega) wx
  have CR1 : Hid (∀ wx, Calls Try.prog 9 #[.int .u64 (id : Int), .int .u64 (n : Int), .string s] wx fun e w' => e = .returned (.tuple #[.string ⟨(C.blk id n ++ s.data.toList).toArray⟩, .int .i64 0]) ∧ Below wx.heap.size wx w') := fun wx => refDg_yes id n s h1 h2 (by omega) (by omega) wx
  have CP1 : Hid (∀ wx, Calls Try.prog 10 #[.string ⟨(C.blk id n ++ s.data.toList).toArray⟩] wx fun e w' => e = .returned (.tuple #[.agg #[.int .u64 (id : Int), .int .u64 (n : Int), .string s], .int .i64 0]) ∧ Below wx.heap.size wx w') := fun wx => by
    have := parse_back id n s.data.toList h1 h2 (by simp; omega) (by simp; omega) wx
    rwa [show (⟨s.data.toList.toArray⟩ : ByteArray) = s from Go.WideShapes.bytes_inj rfl] at this
  generalize (⟨(C.blk id n ++ s.data.toList).toArray⟩ : ByteArray) = DT at *
  have CP2 : Hid (∀ wx, Calls Try.prog 10 #[.string t] wx fun e w' => e = .returned (.tuple #[.agg #[.int .u64 0, .int .u64 0, .string ⟨#[]⟩], .int .i64 3]) ∧ Below wx.heap.size wx w') := fun wx => by
    have := parse_no t (.inl (by omega)) h4 wx
    rwa [if_pos (by omega)] at this
  have t1 : (t.size : Int) < 32 := by omega
  have r0 : Row (w.alloc (.cells #[.int .u64 (id : Int), .int .u64 (n : Int), .string s] 25 (0, 0))) w.heap.size 25 [.int .u64 (id : Int), .int .u64 (n : Int), .string s] := Row.new' rfl rfl
  have b0 : Below w.heap.size w (w.alloc (.cells #[.int .u64 (id : Int), .int .u64 (n : Int), .string s] 25 (0, 0))) := (Below.refl _ _).alloc (Nat.le_refl _) _
  go_enter Try.func3, Try.ntmps3
  go_wp2_with fail
  refine (awake9_any _).mono ?_
  rintro e w1 ⟨rfl, b1⟩
  have r1 := r0.below b1 r0.lt
  have hb1 := b0.trans (b1.mono b0.size)
  clear b1 r0 b0
  have c0 : w1.cell? ⟨w.heap.size, 0, none⟩ = some (.int .u64 (id : Int)) := r1.cell 0
  have c1 : w1.cell? ⟨w.heap.size, 1, none⟩ = some (.int .u64 (n : Int)) := r1.cell 1
  have c2 : w1.cell? ⟨w.heap.size, 2, none⟩ = some (.string s) := r1.cell 2
  go_wp2_with (first
    | refine wpList_load_row rfl 25 (.tmp 2) rfl w.heap.size rfl _ _ _ _ r1 Try.underlying25 rfl infoDg ?_)
  clear c0 c1 c2
  refine (CD1.out _).mono ?_
  rintro e w2 ⟨rfl, b2⟩
  have r2 := r1.below b2 r1.lt
  have hb2 := hb1.trans (b2.mono hb1.size)
  clear b2 hb1 r1
  have c0 : w2.cell? ⟨w.heap.size, 0, none⟩ = some (.int .u64 (id : Int)) := r2.cell 0
  have c1 : w2.cell? ⟨w.heap.size, 1, none⟩ = some (.int .u64 (n : Int)) := r2.cell 1
  have c2 : w2.cell? ⟨w.heap.size, 2, none⟩ = some (.string s) := r2.cell 2
  go_wp2_with fail
  refine (CR1.out _).mono ?_
  rintro e w3 ⟨rfl, b3⟩
  have r3 := r2.below b3 r2.lt
  have hb3 := hb2.trans (b3.mono hb2.size)
  clear b3 hb2 r2 c0 c1 c2
  go_wp2_with fail
  refine (CP1.out _).mono ?_
  rintro e w4 ⟨rfl, b4⟩
  have r4 := (r3.below b4 r3.lt).alloc (.cells #[.int .u64 (id : Int), .int .u64 (n : Int), .string s] 25 (0, 0))
  have q4 : Row (w4.alloc (.cells #[.int .u64 (id : Int), .int .u64 (n : Int), .string s] 25 (0, 0))) w4.heap.size 25 [.int .u64 (id : Int), .int .u64 (n : Int), .string s] := Row.new' rfl rfl
  have hb4 := (hb3.trans (b4.mono hb3.size)).alloc (hb3.trans (b4.mono hb3.size)).size (.cells #[.int .u64 (id : Int), .int .u64 (n : Int), .string s] 25 (0, 0))
  clear b4 r3 hb3
  obtain ⟨w5, hw5⟩ : ∃ w5, w5 = w4.alloc (.cells #[.int .u64 (id : Int), .int .u64 (n : Int), .string s] 25 (0, 0)) := ⟨_, rfl⟩
  rw [← hw5] at r4 q4 hb4
  go_upto_region 11 with fail
  rw [← hw5]
  clear hw5
  have c0 : w5.cell? ⟨w.heap.size, 0, none⟩ = some (.int .u64 (id : Int)) := r4.cell 0
  have c1 : w5.cell? ⟨w.heap.size, 1, none⟩ = some (.int .u64 (n : Int)) := r4.cell 1
  have c2 : w5.cell? ⟨w.heap.size, 2, none⟩ = some (.string s) := r4.cell 2
  have d0 : w5.cell? ⟨w4.heap.size, 0, none⟩ = some (.int .u64 (id : Int)) := q4.cell 0
  have d1 : w5.cell? ⟨w4.heap.size, 1, none⟩ = some (.int .u64 (n : Int)) := q4.cell 1
  have d2 : w5.cell? ⟨w4.heap.size, 2, none⟩ = some (.string s) := q4.cell 2
  go_wp2_with fail
  have hb5 := hb4
  clear r4 q4 hb4 c0 c1 c2 d0 d1 d2
  refine (CP2.out _).mono ?_
  rintro e w6 ⟨rfl, b6⟩
  have q6 : Row (w6.alloc (.cells #[.int .u64 0, .int .u64 0, .string ⟨#[]⟩] 25 (0, 0))) w6.heap.size 25 [.int .u64 0, .int .u64 0, .string ⟨#[]⟩] := Row.new' rfl rfl
  have hb6 := (hb5.trans (b6.mono hb5.size)).alloc (hb5.trans (b6.mono hb5.size)).size (.cells #[.int .u64 0, .int .u64 0, .string ⟨#[]⟩] 25 (0, 0))
  clear b6 hb5
  obtain ⟨w7, hw7⟩ : ∃ w7, w7 = w6.alloc (.cells #[.int .u64 0, .int .u64 0, .string ⟨#[]⟩] 25 (0, 0)) := ⟨_, rfl⟩
  rw [← hw7] at q6 hb6
  go_upto_region 14 with fail
  rw [← hw7]
  clear hw7
  have d0 : w7.cell? ⟨w6.heap.size, 0, none⟩ = some (.int .u64 0) := q6.cell 0
  have d1 : w7.cell? ⟨w6.heap.size, 1, none⟩ = some (.int .u64 0) := q6.cell 1
  have d2 : w7.cell? ⟨w6.heap.size, 2, none⟩ = some (.string ⟨#[]⟩) := q6.cell 2
  go_wp2
  go_ret
  exact ⟨rfl, hb6⟩

set_option maxHeartbeats 8000000 in
theorem caseYesLong (id n : Nat) (s t : ByteArray) (w : World) (h1 : id ≤ 18446744073709551615) (h2 : n ≤ 18446744073709551615) (h3 : s.size ≤ 9223372036854775807) (h4 : t.size ≤ 9223372036854775807) (g0 : s.size ≤ 600 ∧ t.size ≤ 600) (g1 : 16 ≤ s.size ∧ s.size ≤ 496) (g2 : 512 < t.size) :
    Calls Try.prog 3 #[.agg #[.int .u64 (id : Int), .int .u64 (n : Int), .string s], .string t] w fun e w' => e = .returned (.bool true) ∧ Below w.heap.size w w' := by
  have hmx : ¬ (600 : Int) < max (s.size : Int) (t.size : Int) := by omega
  have CD1 : Hid (∀ wx, Calls Try.prog 8 #[.agg #[.int .u64 (id : Int), .int .u64 (n : Int), .string s]] wx fun e w' => e = .returned (.tuple #[.string ⟨(C.blk id n ++ s.data.toList).toArray⟩, .int .i64 0]) ∧ Below wx.heap.size wx w') := fun wx => dBytes_yes id n s h1 h2 (by omega) (by omega) wx
  have CR1 : Hid (∀ wx, Calls Try.prog 9 #[.int .u64 (id : Int), .int .u64 (n : Int), .string s] wx fun e w' => e = .returned (.tuple #[.string ⟨(C.blk id n ++ s.data.toList).toArray⟩, .int .i64 0]) ∧ Below wx.heap.size wx w') := fun wx => refDg_yes id n s h1 h2 (by omega) (by omega) wx
  have CP1 : Hid (∀ wx, Calls Try.prog 10 #[.string ⟨(C.blk id n ++ s.data.toList).toArray⟩] wx fun e w' => e = .returned (.tuple #[.agg #[.int .u64 (id : Int), .int .u64 (n : Int), .string s], .int .i64 0]) ∧ Below wx.heap.size wx w') := fun wx => by
    have := parse_back id n s.data.toList h1 h2 (by simp; omega) (by simp; omega) wx
    rwa [show (⟨s.data.toList.toArray⟩ : ByteArray) = s from Go.WideShapes.bytes_inj rfl] at this
  generalize (⟨(C.blk id n ++ s.data.toList).toArray⟩ : ByteArray) = DT at *
  have CP2 : Hid (∀ wx, Calls Try.prog 10 #[.string t] wx fun e w' => e = .returned (.tuple #[.agg #[.int .u64 0, .int .u64 0, .string ⟨#[]⟩], .int .i64 5]) ∧ Below wx.heap.size wx w') := fun wx => by
    have := parse_no t (.inr (by omega)) h4 wx
    rwa [if_neg (by omega)] at this
  have t1 : ¬ (t.size : Int) < 32 := by omega
  have t2 : (512 : Int) < (t.size : Int) := by omega
  have r0 : Row (w.alloc (.cells #[.int .u64 (id : Int), .int .u64 (n : Int), .string s] 25 (0, 0))) w.heap.size 25 [.int .u64 (id : Int), .int .u64 (n : Int), .string s] := Row.new' rfl rfl
  have b0 : Below w.heap.size w (w.alloc (.cells #[.int .u64 (id : Int), .int .u64 (n : Int), .string s] 25 (0, 0))) := (Below.refl _ _).alloc (Nat.le_refl _) _
  go_enter Try.func3, Try.ntmps3
  go_wp2_with fail
  refine (awake9_any _).mono ?_
  rintro e w1 ⟨rfl, b1⟩
  have r1 := r0.below b1 r0.lt
  have hb1 := b0.trans (b1.mono b0.size)
  clear b1 r0 b0
  have c0 : w1.cell? ⟨w.heap.size, 0, none⟩ = some (.int .u64 (id : Int)) := r1.cell 0
  have c1 : w1.cell? ⟨w.heap.size, 1, none⟩ = some (.int .u64 (n : Int)) := r1.cell 1
  have c2 : w1.cell? ⟨w.heap.size, 2, none⟩ = some (.string s) := r1.cell 2
  go_wp2_with (first
    | refine wpList_load_row rfl 25 (.tmp 2) rfl w.heap.size rfl _ _ _ _ r1 Try.underlying25 rfl infoDg ?_)
  clear c0 c1 c2
  refine (CD1.out _).mono ?_
  rintro e w2 ⟨rfl, b2⟩
  have r2 := r1.below b2 r1.lt
  have hb2 := hb1.trans (b2.mono hb1.size)
  clear b2 hb1 r1
  have c0 : w2.cell? ⟨w.heap.size, 0, none⟩ = some (.int .u64 (id : Int)) := r2.cell 0
  have c1 : w2.cell? ⟨w.heap.size, 1, none⟩ = some (.int .u64 (n : Int)) := r2.cell 1
  have c2 : w2.cell? ⟨w.heap.size, 2, none⟩ = some (.string s) := r2.cell 2
  go_wp2_with fail
  refine (CR1.out _).mono ?_
  rintro e w3 ⟨rfl, b3⟩
  have r3 := r2.below b3 r2.lt
  have hb3 := hb2.trans (b3.mono hb2.size)
  clear b3 hb2 r2 c0 c1 c2
  go_wp2_with fail
  refine (CP1.out _).mono ?_
  rintro e w4 ⟨rfl, b4⟩
  have r4 := (r3.below b4 r3.lt).alloc (.cells #[.int .u64 (id : Int), .int .u64 (n : Int), .string s] 25 (0, 0))
  have q4 : Row (w4.alloc (.cells #[.int .u64 (id : Int), .int .u64 (n : Int), .string s] 25 (0, 0))) w4.heap.size 25 [.int .u64 (id : Int), .int .u64 (n : Int), .string s] := Row.new' rfl rfl
  have hb4 := (hb3.trans (b4.mono hb3.size)).alloc (hb3.trans (b4.mono hb3.size)).size (.cells #[.int .u64 (id : Int), .int .u64 (n : Int), .string s] 25 (0, 0))
  clear b4 r3 hb3
  obtain ⟨w5, hw5⟩ : ∃ w5, w5 = w4.alloc (.cells #[.int .u64 (id : Int), .int .u64 (n : Int), .string s] 25 (0, 0)) := ⟨_, rfl⟩
  rw [← hw5] at r4 q4 hb4
  go_upto_region 11 with fail
  rw [← hw5]
  clear hw5
  have c0 : w5.cell? ⟨w.heap.size, 0, none⟩ = some (.int .u64 (id : Int)) := r4.cell 0
  have c1 : w5.cell? ⟨w.heap.size, 1, none⟩ = some (.int .u64 (n : Int)) := r4.cell 1
  have c2 : w5.cell? ⟨w.heap.size, 2, none⟩ = some (.string s) := r4.cell 2
  have d0 : w5.cell? ⟨w4.heap.size, 0, none⟩ = some (.int .u64 (id : Int)) := q4.cell 0
  have d1 : w5.cell? ⟨w4.heap.size, 1, none⟩ = some (.int .u64 (n : Int)) := q4.cell 1
  have d2 : w5.cell? ⟨w4.heap.size, 2, none⟩ = some (.string s) := q4.cell 2
  go_wp2_with fail
  have hb5 := hb4
  clear r4 q4 hb4 c0 c1 c2 d0 d1 d2
  refine (CP2.out _).mono ?_
  rintro e w6 ⟨rfl, b6⟩
  have q6 : Row (w6.alloc (.cells #[.int .u64 0, .int .u64 0, .string ⟨#[]⟩] 25 (0, 0))) w6.heap.size 25 [.int .u64 0, .int .u64 0, .string ⟨#[]⟩] := Row.new' rfl rfl
  have hb6 := (hb5.trans (b6.mono hb5.size)).alloc (hb5.trans (b6.mono hb5.size)).size (.cells #[.int .u64 0, .int .u64 0, .string ⟨#[]⟩] 25 (0, 0))
  clear b6 hb5
  obtain ⟨w7, hw7⟩ : ∃ w7, w7 = w6.alloc (.cells #[.int .u64 0, .int .u64 0, .string ⟨#[]⟩] 25 (0, 0)) := ⟨_, rfl⟩
  rw [← hw7] at q6 hb6
  go_upto_region 14 with fail
  rw [← hw7]
  clear hw7
  have d0 : w7.cell? ⟨w6.heap.size, 0, none⟩ = some (.int .u64 0) := q6.cell 0
  have d1 : w7.cell? ⟨w6.heap.size, 1, none⟩ = some (.int .u64 0) := q6.cell 1
  have d2 : w7.cell? ⟨w6.heap.size, 2, none⟩ = some (.string ⟨#[]⟩) := q6.cell 2
  go_wp2
  go_ret
  exact ⟨rfl, hb6⟩

set_option maxHeartbeats 8000000 in
theorem caseYesMid (id n : Nat) (s t : ByteArray) (w : World) (h1 : id ≤ 18446744073709551615) (h2 : n ≤ 18446744073709551615) (h3 : s.size ≤ 9223372036854775807) (h4 : t.size ≤ 9223372036854775807) (g0 : s.size ≤ 600 ∧ t.size ≤ 600) (g1 : 16 ≤ s.size ∧ s.size ≤ 496) (g2 : 32 ≤ t.size ∧ t.size ≤ 512) :
    Calls Try.prog 3 #[.agg #[.int .u64 (id : Int), .int .u64 (n : Int), .string s], .string t] w fun e w' => e = .returned (.bool true) ∧ Below w.heap.size w w' := by
  have hmx : ¬ (600 : Int) < max (s.size : Int) (t.size : Int) := by omega
  have CD1 : Hid (∀ wx, Calls Try.prog 8 #[.agg #[.int .u64 (id : Int), .int .u64 (n : Int), .string s]] wx fun e w' => e = .returned (.tuple #[.string ⟨(C.blk id n ++ s.data.toList).toArray⟩, .int .i64 0]) ∧ Below wx.heap.size wx w') := fun wx => dBytes_yes id n s h1 h2 (by omega) (by omega) wx
  have CR1 : Hid (∀ wx, Calls Try.prog 9 #[.int .u64 (id : Int), .int .u64 (n : Int), .string s] wx fun e w' => e = .returned (.tuple #[.string ⟨(C.blk id n ++ s.data.toList).toArray⟩, .int .i64 0]) ∧ Below wx.heap.size wx w') := fun wx => refDg_yes id n s h1 h2 (by omega) (by omega) wx
  have CP1 : Hid (∀ wx, Calls Try.prog 10 #[.string ⟨(C.blk id n ++ s.data.toList).toArray⟩] wx fun e w' => e = .returned (.tuple #[.agg #[.int .u64 (id : Int), .int .u64 (n : Int), .string s], .int .i64 0]) ∧ Below wx.heap.size wx w') := fun wx => by
    have := parse_back id n s.data.toList h1 h2 (by simp; omega) (by simp; omega) wx
    rwa [show (⟨s.data.toList.toArray⟩ : ByteArray) = s from Go.WideShapes.bytes_inj rfl] at this
  generalize (⟨(C.blk id n ++ s.data.toList).toArray⟩ : ByteArray) = DT at *
  have t1 : ¬ (t.size : Int) < 32 := by omega
  have t2 : ¬ (512 : Int) < (t.size : Int) := by omega
  have hl : t.data.toList.length = t.size := by simp
  have CP2 : Hid (∀ wx, Calls Try.prog 10 #[.string t] wx fun e w' => e = .returned (.tuple #[.agg #[.int .u64 (W.getN (t.data.toList.take 8) : Int), .int .u64 (W.getN ((t.data.toList.drop 8).take 8) : Int), .string ⟨((t.data.toList.drop 8).drop 8).toArray⟩], .int .i64 0]) ∧ Below wx.heap.size wx w') := fun wx => parse_yes t (by omega) (by omega) wx
  have k1 : W.getN (t.data.toList.take 8) ≤ 18446744073709551615 := by
    have h := W.getN_lt (t.data.toList.take 8)
    rw [show (t.data.toList.take 8).length = 8 by simp; omega] at h
    omega
  have k2 : W.getN ((t.data.toList.drop 8).take 8) ≤ 18446744073709551615 := by
    have h := W.getN_lt ((t.data.toList.drop 8).take 8)
    rw [show ((t.data.toList.drop 8).take 8).length = 8 by simp; omega] at h
    omega
  have hbk := back_bytes t (by omega)
  have CD2 : Hid (∀ wx, Calls Try.prog 8 #[.agg #[.int .u64 (W.getN (t.data.toList.take 8) : Int), .int .u64 (W.getN ((t.data.toList.drop 8).take 8) : Int), .string ⟨((t.data.toList.drop 8).drop 8).toArray⟩]] wx fun e w' => e = .returned (.tuple #[.string t, .int .i64 0]) ∧ Below wx.heap.size wx w') := fun wx => by
    have := dBytes_yes (W.getN (t.data.toList.take 8)) (W.getN ((t.data.toList.drop 8).take 8)) ⟨((t.data.toList.drop 8).drop 8).toArray⟩ k1 k2 (by rw [X9.szL]; simp only [List.length_drop]; omega) (by rw [X9.szL]; simp only [List.length_drop]; omega) wx
    rw [show (⟨((t.data.toList.drop 8).drop 8).toArray⟩ : ByteArray).data.toList = (t.data.toList.drop 8).drop 8 from rfl, hbk, show (⟨t.data.toList.toArray⟩ : ByteArray) = t from Go.WideShapes.bytes_inj rfl] at this
    exact this
  have CG1 : Hid (∀ wx, Calls Try.prog 11 #[.string ⟨(t.data.toList.take 8).toArray⟩] wx fun e w' => e = .returned (.int .u64 (W.getN (t.data.toList.take 8) : Int)) ∧ w' = wx) := fun wx => refGet_any ⟨(t.data.toList.take 8).toArray⟩ (by rw [X9.szL, List.length_take]; omega) wx
  have CG2 : Hid (∀ wx, Calls Try.prog 11 #[.string ⟨((t.data.toList.drop 8).take 8).toArray⟩] wx fun e w' => e = .returned (.int .u64 (W.getN ((t.data.toList.drop 8).take 8) : Int)) ∧ w' = wx) := fun wx => refGet_any ⟨((t.data.toList.drop 8).take 8).toArray⟩ (by rw [X9.szL, List.length_take]; omega) wx
  have ex0 : t.extract 0 8 = ⟨(t.data.toList.take 8).toArray⟩ := Go.WideShapes.bytes_inj (by simp [ByteArray.data_extract])
  have ex1 : t.extract 8 16 = ⟨((t.data.toList.drop 8).take 8).toArray⟩ := Go.WideShapes.bytes_inj (by simp [ByteArray.data_extract])
  have ex2 : t.extract 16 t.size = ⟨((t.data.toList.drop 8).drop 8).toArray⟩ := Go.WideShapes.bytes_inj (by simp [ByteArray.data_extract]; exact List.take_of_length_le (by simp))
  clear hbk k1 k2 hl
  generalize W.getN (t.data.toList.take 8) = n1 at *
  generalize W.getN ((t.data.toList.drop 8).take 8) = n2 at *
  generalize (⟨(t.data.toList.take 8).toArray⟩ : ByteArray) = f0 at *
  generalize (⟨((t.data.toList.drop 8).take 8).toArray⟩ : ByteArray) = f1 at *
  generalize (⟨((t.data.toList.drop 8).drop 8).toArray⟩ : ByteArray) = f2 at *
  have r0 : Row (w.alloc (.cells #[.int .u64 (id : Int), .int .u64 (n : Int), .string s] 25 (0, 0))) w.heap.size 25 [.int .u64 (id : Int), .int .u64 (n : Int), .string s] := Row.new' rfl rfl
  have b0 : Below w.heap.size w (w.alloc (.cells #[.int .u64 (id : Int), .int .u64 (n : Int), .string s] 25 (0, 0))) := (Below.refl _ _).alloc (Nat.le_refl _) _
  go_enter Try.func3, Try.ntmps3
  go_wp2_with fail
  refine (awake9_any _).mono ?_
  rintro e w1 ⟨rfl, b1⟩
  have r1 := r0.below b1 r0.lt
  have hb1 := b0.trans (b1.mono b0.size)
  clear b1 r0 b0
  have c0 : w1.cell? ⟨w.heap.size, 0, none⟩ = some (.int .u64 (id : Int)) := r1.cell 0
  have c1 : w1.cell? ⟨w.heap.size, 1, none⟩ = some (.int .u64 (n : Int)) := r1.cell 1
  have c2 : w1.cell? ⟨w.heap.size, 2, none⟩ = some (.string s) := r1.cell 2
  go_wp2_with (first
    | refine wpList_load_row rfl 25 (.tmp 2) rfl w.heap.size rfl _ _ _ _ r1 Try.underlying25 rfl infoDg ?_)
  clear c0 c1 c2
  refine (CD1.out _).mono ?_
  rintro e w2 ⟨rfl, b2⟩
  have r2 := r1.below b2 r1.lt
  have hb2 := hb1.trans (b2.mono hb1.size)
  clear b2 hb1 r1
  have c0 : w2.cell? ⟨w.heap.size, 0, none⟩ = some (.int .u64 (id : Int)) := r2.cell 0
  have c1 : w2.cell? ⟨w.heap.size, 1, none⟩ = some (.int .u64 (n : Int)) := r2.cell 1
  have c2 : w2.cell? ⟨w.heap.size, 2, none⟩ = some (.string s) := r2.cell 2
  go_wp2_with fail
  refine (CR1.out _).mono ?_
  rintro e w3 ⟨rfl, b3⟩
  have r3 := r2.below b3 r2.lt
  have hb3 := hb2.trans (b3.mono hb2.size)
  clear b3 hb2 r2 c0 c1 c2
  go_wp2_with fail
  refine (CP1.out _).mono ?_
  rintro e w4 ⟨rfl, b4⟩
  have r4 := (r3.below b4 r3.lt).alloc (.cells #[.int .u64 (id : Int), .int .u64 (n : Int), .string s] 25 (0, 0))
  have q4 : Row (w4.alloc (.cells #[.int .u64 (id : Int), .int .u64 (n : Int), .string s] 25 (0, 0))) w4.heap.size 25 [.int .u64 (id : Int), .int .u64 (n : Int), .string s] := Row.new' rfl rfl
  have hb4 := (hb3.trans (b4.mono hb3.size)).alloc (hb3.trans (b4.mono hb3.size)).size (.cells #[.int .u64 (id : Int), .int .u64 (n : Int), .string s] 25 (0, 0))
  clear b4 r3 hb3
  obtain ⟨w5, hw5⟩ : ∃ w5, w5 = w4.alloc (.cells #[.int .u64 (id : Int), .int .u64 (n : Int), .string s] 25 (0, 0)) := ⟨_, rfl⟩
  rw [← hw5] at r4 q4 hb4
  go_upto_region 11 with fail
  rw [← hw5]
  clear hw5
  have c0 : w5.cell? ⟨w.heap.size, 0, none⟩ = some (.int .u64 (id : Int)) := r4.cell 0
  have c1 : w5.cell? ⟨w.heap.size, 1, none⟩ = some (.int .u64 (n : Int)) := r4.cell 1
  have c2 : w5.cell? ⟨w.heap.size, 2, none⟩ = some (.string s) := r4.cell 2
  have d0 : w5.cell? ⟨w4.heap.size, 0, none⟩ = some (.int .u64 (id : Int)) := q4.cell 0
  have d1 : w5.cell? ⟨w4.heap.size, 1, none⟩ = some (.int .u64 (n : Int)) := q4.cell 1
  have d2 : w5.cell? ⟨w4.heap.size, 2, none⟩ = some (.string s) := q4.cell 2
  go_wp2_with fail
  have hb5 := hb4
  clear r4 q4 hb4 c0 c1 c2 d0 d1 d2
  refine (CP2.out _).mono ?_
  rintro e w6 ⟨rfl, b6⟩
  have q6 : Row (w6.alloc (.cells #[.int .u64 (n1 : Int), .int .u64 (n2 : Int), .string f2] 25 (0, 0))) w6.heap.size 25 [.int .u64 (n1 : Int), .int .u64 (n2 : Int), .string f2] := Row.new' rfl rfl
  have hb6 := (hb5.trans (b6.mono hb5.size)).alloc (hb5.trans (b6.mono hb5.size)).size (.cells #[.int .u64 (n1 : Int), .int .u64 (n2 : Int), .string f2] 25 (0, 0))
  clear b6 hb5
  go_wp2_with (first
    | refine wpList_load_row rfl 25 (.tmp 11) rfl w6.heap.size rfl _ _ _ _ q6 Try.underlying25 rfl infoDg ?_)
  refine (CD2.out _).mono ?_
  rintro e w8 ⟨rfl, b8⟩
  have q8 := q6.below b8 q6.lt
  have hb8 := hb6.trans (b8.mono hb6.size)
  clear b8 q6 hb6
  go_wp2_with fail
  refine wp_region_held_drew (S := fun w' => Row w' w6.heap.size 25 [.int .u64 (n1 : Int), .int .u64 (n2 : Int), .string f2] ∧ Below w.heap.size w w') (by kernel_rfl) (⟨q8.drew, hb8.drew⟩) (fun hHeld => ?_)
  refine take_d 0 (some 93) (.int .i64 0) rfl (by kernel_rfl) (by kernel_rfl) (by kernel_rfl) (fun _ _ _ h => h) (fun oi h => by cases h; exact Or.inl ⟨by rfl, fun w' hS' => by go_simp⟩) hHeld ?_
  try simp only [Act.put, List.setIfInBounds_toArray, List.set_cons_zero, List.set_cons_succ]
  refine take_d 1 (some 94) (.bool true) rfl (by kernel_rfl) (by kernel_rfl) (by kernel_rfl) (fun _ _ _ h => h) (fun oi h => by cases h; exact Or.inl ⟨by rfl, fun w' hS' => by go_simp⟩) hHeld ?_
  try simp only [Act.put, List.setIfInBounds_toArray, List.set_cons_zero, List.set_cons_succ]
  refine take_d 2 (some 95) (.bool true) rfl (by kernel_rfl) (by kernel_rfl) (by kernel_rfl) (fun _ _ _ h => h) (fun oi h => by cases h; exact Or.inl ⟨by rfl, fun w' hS' => by go_simp⟩) hHeld ?_
  try simp only [Act.put, List.setIfInBounds_toArray, List.set_cons_zero, List.set_cons_succ]
  refine take_d 3 (some 96) (.pointer (some ⟨w6.heap.size, 0, none⟩)) rfl (by kernel_rfl) (by kernel_rfl) (by kernel_rfl) (fun _ _ _ h => h) (fun oi h => by cases h; exact Or.inl ⟨by rfl, fun w' hS' => by go_simp⟩) hHeld ?_
  try simp only [Act.put, List.setIfInBounds_toArray, List.set_cons_zero, List.set_cons_succ]
  refine take_d 4 (some 97) (.int .u64 (n1 : Int)) rfl (by kernel_rfl) (by kernel_rfl) (by kernel_rfl) (fun _ _ _ h => h) (fun oi h => by cases h; exact Or.inl ⟨by rfl, fun w' hS' => by have c : w'.cell? ⟨w6.heap.size, 0, none⟩ = some (.int .u64 (n1 : Int)) := hS'.1.cell 0; go_simp⟩) hHeld ?_
  try simp only [Act.put, List.setIfInBounds_toArray, List.set_cons_zero, List.set_cons_succ]
  refine take_d 5 (some 98) (.string t) rfl (by kernel_rfl) (by kernel_rfl) (by kernel_rfl) (fun _ _ _ h => h) (fun oi h => by cases h; exact Or.inl ⟨by rfl, fun w' hS' => by go_simp⟩) hHeld ?_
  try simp only [Act.put, List.setIfInBounds_toArray, List.set_cons_zero, List.set_cons_succ]
  refine take_d 6 (some 99) (.string f0) rfl (by kernel_rfl) (by kernel_rfl) (by kernel_rfl) (fun _ _ _ h => h) (fun oi h => by cases h; exact Or.inl ⟨by rfl, fun w' hS' => by have b8 : ¬ (t.size : Int) < 8 := (by omega); have b16 : ¬ (t.size : Int) < 16 := (by omega); have d8 : ¬ t.size < 8 := (by omega); have d16 : ¬ t.size < 16 := (by omega); go_simp⟩) hHeld ?_
  try simp only [Act.put, List.setIfInBounds_toArray, List.set_cons_zero, List.set_cons_succ]
  refine one_d 7 (some 100) rfl (by kernel_rfl) ?_
  intro o ho hd K hK
  cases ho
  go_simp
  refine (CG1.out _).mono ?_
  rintro e wq ⟨rfl, rfl⟩
  refine hK.out _ _ hHeld (fun hHeld => ?_)
  clear hK K hd
  try simp only [Act.put, List.setIfInBounds_toArray, List.set_cons_zero, List.set_cons_succ]
  refine take_d 8 (some 101) (.bool true) rfl (by kernel_rfl) (by kernel_rfl) (by kernel_rfl) (fun _ _ _ h => h) (fun oi h => by cases h; exact Or.inl ⟨by rfl, fun w' hS' => by go_simp⟩) hHeld ?_
  try simp only [Act.put, List.setIfInBounds_toArray, List.set_cons_zero, List.set_cons_succ]
  refine take_d 9 (some 102) (.bool true) rfl (by kernel_rfl) (by kernel_rfl) (by kernel_rfl) (fun _ _ _ h => h) (fun oi h => by cases h; exact Or.inl ⟨by rfl, fun w' hS' => by go_simp⟩) hHeld ?_
  try simp only [Act.put, List.setIfInBounds_toArray, List.set_cons_zero, List.set_cons_succ]
  refine take_d 10 (some 103) (.bool true) rfl (by kernel_rfl) (by kernel_rfl) (by kernel_rfl) (fun _ _ _ h => h) (fun oi h => by cases h; exact Or.inl ⟨by rfl, fun w' hS' => by go_simp⟩) hHeld ?_
  try simp only [Act.put, List.setIfInBounds_toArray, List.set_cons_zero, List.set_cons_succ]
  refine take_d 11 (some 104) (.pointer (some ⟨w6.heap.size, 1, none⟩)) rfl (by kernel_rfl) (by kernel_rfl) (by kernel_rfl) (fun _ _ _ h => h) (fun oi h => by cases h; exact Or.inl ⟨by rfl, fun w' hS' => by go_simp⟩) hHeld ?_
  try simp only [Act.put, List.setIfInBounds_toArray, List.set_cons_zero, List.set_cons_succ]
  refine take_d 12 (some 105) (.int .u64 (n2 : Int)) rfl (by kernel_rfl) (by kernel_rfl) (by kernel_rfl) (fun _ _ _ h => h) (fun oi h => by cases h; exact Or.inl ⟨by rfl, fun w' hS' => by have c : w'.cell? ⟨w6.heap.size, 1, none⟩ = some (.int .u64 (n2 : Int)) := hS'.1.cell 1; go_simp⟩) hHeld ?_
  try simp only [Act.put, List.setIfInBounds_toArray, List.set_cons_zero, List.set_cons_succ]
  refine take_d 13 (some 106) (.string t) rfl (by kernel_rfl) (by kernel_rfl) (by kernel_rfl) (fun _ _ _ h => h) (fun oi h => by cases h; exact Or.inl ⟨by rfl, fun w' hS' => by go_simp⟩) hHeld ?_
  try simp only [Act.put, List.setIfInBounds_toArray, List.set_cons_zero, List.set_cons_succ]
  refine take_d 14 (some 107) (.string f1) rfl (by kernel_rfl) (by kernel_rfl) (by kernel_rfl) (fun _ _ _ h => h) (fun oi h => by cases h; exact Or.inl ⟨by rfl, fun w' hS' => by have b8 : ¬ (t.size : Int) < 8 := (by omega); have b16 : ¬ (t.size : Int) < 16 := (by omega); have d8 : ¬ t.size < 8 := (by omega); have d16 : ¬ t.size < 16 := (by omega); go_simp⟩) hHeld ?_
  try simp only [Act.put, List.setIfInBounds_toArray, List.set_cons_zero, List.set_cons_succ]
  refine one_d 15 (some 108) rfl (by kernel_rfl) ?_
  intro o ho hd K hK
  cases ho
  go_simp
  refine (CG2.out _).mono ?_
  rintro e wq ⟨rfl, rfl⟩
  refine hK.out _ _ hHeld (fun hHeld => ?_)
  clear hK K hd
  try simp only [Act.put, List.setIfInBounds_toArray, List.set_cons_zero, List.set_cons_succ]
  refine take_d 16 (some 109) (.bool true) rfl (by kernel_rfl) (by kernel_rfl) (by kernel_rfl) (fun _ _ _ h => h) (fun oi h => by cases h; exact Or.inl ⟨by rfl, fun w' hS' => by go_simp⟩) hHeld ?_
  try simp only [Act.put, List.setIfInBounds_toArray, List.set_cons_zero, List.set_cons_succ]
  refine take_d 17 (some 110) (.bool true) rfl (by kernel_rfl) (by kernel_rfl) (by kernel_rfl) (fun _ _ _ h => h) (fun oi h => by cases h; exact Or.inl ⟨by rfl, fun w' hS' => by go_simp⟩) hHeld ?_
  try simp only [Act.put, List.setIfInBounds_toArray, List.set_cons_zero, List.set_cons_succ]
  refine take_d 18 (some 111) (.bool true) rfl (by kernel_rfl) (by kernel_rfl) (by kernel_rfl) (fun _ _ _ h => h) (fun oi h => by cases h; exact Or.inl ⟨by rfl, fun w' hS' => by go_simp⟩) hHeld ?_
  try simp only [Act.put, List.setIfInBounds_toArray, List.set_cons_zero, List.set_cons_succ]
  refine take_d 19 (some 112) (.pointer (some ⟨w6.heap.size, 2, none⟩)) rfl (by kernel_rfl) (by kernel_rfl) (by kernel_rfl) (fun _ _ _ h => h) (fun oi h => by cases h; exact Or.inl ⟨by rfl, fun w' hS' => by go_simp⟩) hHeld ?_
  try simp only [Act.put, List.setIfInBounds_toArray, List.set_cons_zero, List.set_cons_succ]
  refine take_d 20 (some 113) (.string f2) rfl (by kernel_rfl) (by kernel_rfl) (by kernel_rfl) (fun _ _ _ h => h) (fun oi h => by cases h; exact Or.inl ⟨by rfl, fun w' hS' => by have c : w'.cell? ⟨w6.heap.size, 2, none⟩ = some (.string f2) := hS'.1.cell 2; go_simp⟩) hHeld ?_
  try simp only [Act.put, List.setIfInBounds_toArray, List.set_cons_zero, List.set_cons_succ]
  refine take_d 21 (some 114) (.string t) rfl (by kernel_rfl) (by kernel_rfl) (by kernel_rfl) (fun _ _ _ h => h) (fun oi h => by cases h; exact Or.inl ⟨by rfl, fun w' hS' => by go_simp⟩) hHeld ?_
  try simp only [Act.put, List.setIfInBounds_toArray, List.set_cons_zero, List.set_cons_succ]
  refine take_d 22 (some 115) (.string f2) rfl (by kernel_rfl) (by kernel_rfl) (by kernel_rfl) (fun _ _ _ h => h) (fun oi h => by cases h; exact Or.inl ⟨by rfl, fun w' hS' => by have b8 : ¬ (t.size : Int) < 8 := (by omega); have b16 : ¬ (t.size : Int) < 16 := (by omega); have d8 : ¬ t.size < 8 := (by omega); have d16 : ¬ t.size < 16 := (by omega); go_simp⟩) hHeld ?_
  try simp only [Act.put, List.setIfInBounds_toArray, List.set_cons_zero, List.set_cons_succ]
  refine take_d 23 (some 116) (.bool true) rfl (by kernel_rfl) (by kernel_rfl) (by kernel_rfl) (fun _ _ _ h => h) (fun oi h => by cases h; exact Or.inl ⟨by rfl, fun w' hS' => by go_simp⟩) hHeld ?_
  try simp only [Act.put, List.setIfInBounds_toArray, List.set_cons_zero, List.set_cons_succ]
  refine take_d 24 (some 117) (.bool true) rfl (by kernel_rfl) (by kernel_rfl) (by kernel_rfl) (fun _ _ _ h => h) (fun oi h => by cases h; exact Or.inl ⟨by rfl, fun w' hS' => by go_simp⟩) hHeld ?_
  try simp only [Act.put, List.setIfInBounds_toArray, List.set_cons_zero, List.set_cons_succ]
  refine take_d 25 (some 118) (.bool true) rfl (by kernel_rfl) (by kernel_rfl) (by kernel_rfl) (fun _ _ _ h => h) (fun oi h => by cases h; exact Or.inl ⟨by rfl, fun w' hS' => by go_simp⟩) hHeld ?_
  try simp only [Act.put, List.setIfInBounds_toArray, List.set_cons_zero, List.set_cons_succ]
  refine take_d 26 (some 119) (.int .i64 0) rfl (by kernel_rfl) (by kernel_rfl) (by kernel_rfl) (fun _ _ _ h => h) (fun oi h => by cases h; exact Or.inl ⟨by rfl, fun w' hS' => by go_simp⟩) hHeld ?_
  try simp only [Act.put, List.setIfInBounds_toArray, List.set_cons_zero, List.set_cons_succ]
  refine take_d 27 (some 120) (.bool true) rfl (by kernel_rfl) (by kernel_rfl) (by kernel_rfl) (fun _ _ _ h => h) (fun oi h => by cases h; exact Or.inl ⟨by rfl, fun w' hS' => by go_simp⟩) hHeld ?_
  try simp only [Act.put, List.setIfInBounds_toArray, List.set_cons_zero, List.set_cons_succ]
  refine take_d 28 (some 121) (.bool true) rfl (by kernel_rfl) (by kernel_rfl) (by kernel_rfl) (fun _ _ _ h => h) (fun oi h => by cases h; exact Or.inl ⟨by rfl, fun w' hS' => by go_simp⟩) hHeld ?_
  try simp only [Act.put, List.setIfInBounds_toArray, List.set_cons_zero, List.set_cons_succ]
  refine take_d 29 (some 122) (.bool true) rfl (by kernel_rfl) (by kernel_rfl) (by kernel_rfl) (fun _ _ _ h => h) (fun oi h => by cases h; exact Or.inl ⟨by rfl, fun w' hS' => by go_simp⟩) hHeld ?_
  try simp only [Act.put, List.setIfInBounds_toArray, List.set_cons_zero, List.set_cons_succ]
  refine take_d 30 (some 123) (.string t) rfl (by kernel_rfl) (by kernel_rfl) (by kernel_rfl) (fun _ _ _ h => h) (fun oi h => by cases h; exact Or.inl ⟨by rfl, fun w' hS' => by go_simp⟩) hHeld ?_
  try simp only [Act.put, List.setIfInBounds_toArray, List.set_cons_zero, List.set_cons_succ]
  refine take_d 31 (some 124) (.string t) rfl (by kernel_rfl) (by kernel_rfl) (by kernel_rfl) (fun _ _ _ h => h) (fun oi h => by cases h; exact Or.inl ⟨by rfl, fun w' hS' => by go_simp⟩) hHeld ?_
  try simp only [Act.put, List.setIfInBounds_toArray, List.set_cons_zero, List.set_cons_succ]
  refine take_d 32 (some 125) (.bool true) rfl (by kernel_rfl) (by kernel_rfl) (by kernel_rfl) (fun _ _ _ h => h) (fun oi h => by cases h; exact Or.inl ⟨by rfl, fun w' hS' => by go_simp⟩) hHeld ?_
  try simp only [Act.put, List.setIfInBounds_toArray, List.set_cons_zero, List.set_cons_succ]
  refine take_d 33 (some 126) (.bool true) rfl (by kernel_rfl) (by kernel_rfl) (by kernel_rfl) (fun _ _ _ h => h) (fun oi h => by cases h; exact Or.inl ⟨by rfl, fun w' hS' => by go_simp⟩) hHeld ?_
  try simp only [Act.put, List.setIfInBounds_toArray, List.set_cons_zero, List.set_cons_succ]
  refine take_d 34 (some 4) (.bool true) rfl (by kernel_rfl) (by kernel_rfl) (by kernel_rfl) (fun _ _ _ h => h) (fun oi h => by cases h; exact Or.inl ⟨by rfl, fun w' hS' => by go_simp⟩) hHeld ?_
  try simp only [Act.put, List.setIfInBounds_toArray, List.set_cons_zero, List.set_cons_succ]
  refine wpAnyH_done (by kernel_rfl) ?_ _
  try simp only [Act.put]
  have hb9 := hHeld.2
  go_wp2
  go_ret
  exact ⟨rfl, hb9⟩

theorem walk (id0 nn0 : Nat) (ss0 : ByteArray) (a1 : ByteArray) (w : World) (w0 : id0 ≤ 18446744073709551615 ∧ nn0 ≤ 18446744073709551615 ∧ ss0.size ≤ maxLen) (w1 : a1.size ≤ maxLen) :
    Calls Try.prog 3 #[.agg #[.int .u64 (id0 : Int), .int .u64 (nn0 : Int), .string ss0], .string a1] w fun e w' => e = .returned (.bool true) ∧ Below w.heap.size w w' := by
  obtain ⟨h1, h2, h3⟩ := w0
  have h3 : ss0.size ≤ 9223372036854775807 := h3
  have h4 : a1.size ≤ 9223372036854775807 := w1
  by_cases g0 : ss0.size ≤ 600 ∧ a1.size ≤ 600
  · by_cases g1 : 16 ≤ ss0.size ∧ ss0.size ≤ 496
    · by_cases g2 : a1.size < 32
      · exact caseYesShort id0 nn0 ss0 a1 w h1 h2 h3 h4 g0 g1 g2
      · by_cases g3 : 512 < a1.size
        · exact caseYesLong id0 nn0 ss0 a1 w h1 h2 h3 h4 g0 g1 g3
        · exact caseYesMid id0 nn0 ss0 a1 w h1 h2 h3 h4 g0 g1 (by omega)
    · by_cases g2 : a1.size < 32
      · exact caseNoShort id0 nn0 ss0 a1 w h1 h2 h3 h4 g0 (by omega) g2
      · by_cases g3 : 512 < a1.size
        · exact caseNoLong id0 nn0 ss0 a1 w h1 h2 h3 h4 g0 (by omega) g3
        · exact caseNoMid id0 nn0 ss0 a1 w h1 h2 h3 h4 g0 (by omega) (by omega)
  · exact out id0 nn0 ss0 a1 w h1 h2 h3 h4 (by omega)

end WireDatagramsW
end Go.Proofs.Ytbkeodgiflfakaa
