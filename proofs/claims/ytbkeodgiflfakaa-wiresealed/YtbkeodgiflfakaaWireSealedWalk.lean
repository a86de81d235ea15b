/-
  WireSealed: the walk.
-/
import Derived.Test.YtbkeodgiflfakaaMod22
import Derived.Test.YtbkeodgiflfakaaMod18
import Derived.OpenShut
namespace Go.Proofs.Ytbkeodgiflfakaa
open Go.RowKit
set_option linter.unusedVariables false
set_option maxRecDepth 20000
namespace WireSealedW

set_option maxHeartbeats 8000000 in
theorem outA (key : ByteArray) (id sq : Nat) (down : Bool) (st re nm : Nat) (ix : Int) (la : Bool) (tx : ByteArray) (w : World) (g1 : (key.size : Int) < 1) (h1 : st < 65536) (h2 : re < 65536) (h3 : nm < 18446744073709551616) (h4 : tx.size ≤ 9223372036854775807) (h5 : id ≤ 18446744073709551615) :
    Calls Try.prog 6 #[.string key, .int .u64 (id : Int), .int .u64 (sq : Int), .bool down, .agg #[.int .u16 (st : Int), .int .u16 (re : Int), .int .u64 (nm : Int), .int .i64 ix, .bool la, .string tx]] w fun e w' => e = .returned (.bool true) ∧ Below w.heap.size w w' := by

  have r0 : Row (w.alloc (.cells #[.int .u16 (st : Int), .int .u16 (re : Int), .int .u64 (nm : Int), .int .i64 ix, .bool la, .string tx] 38 (0, 0))) w.heap.size 38 [.int .u16 (st : Int), .int .u16 (re : Int), .int .u64 (nm : Int), .int .i64 ix, .bool la, .string tx] := Row.new' rfl rfl
  have b0 : Below w.heap.size w (w.alloc (.cells #[.int .u16 (st : Int), .int .u16 (re : Int), .int .u64 (nm : Int), .int .i64 ix, .bool la, .string tx] 38 (0, 0))) := (Below.refl _ _).alloc (Nat.le_refl _) _
  go_enter Try.func6, Try.ntmps6
  go_wp2_with fail
  refine (awake9_any _).mono ?_
  rintro e w1 ⟨rfl, b1⟩
  have r1 := r0.below b1 r0.lt
  have hb1 := b0.trans (b1.mono b0.size)
  clear b1 r0 b0
  go_wp2
  go_ret
  exact ⟨rfl, hb1⟩

set_option maxHeartbeats 8000000 in
theorem outB (key : ByteArray) (id sq : Nat) (down : Bool) (st re nm : Nat) (ix : Int) (la : Bool) (tx : ByteArray) (w : World) (g1 : ¬ (key.size : Int) < 1) (g2 : (64 : Int) < key.size) (h1 : st < 65536) (h2 : re < 65536) (h3 : nm < 18446744073709551616) (h4 : tx.size ≤ 9223372036854775807) (h5 : id ≤ 18446744073709551615) :
    Calls Try.prog 6 #[.string key, .int .u64 (id : Int), .int .u64 (sq : Int), .bool down, .agg #[.int .u16 (st : Int), .int .u16 (re : Int), .int .u64 (nm : Int), .int .i64 ix, .bool la, .string tx]] w fun e w' => e = .returned (.bool true) ∧ Below w.heap.size w w' := by

  have r0 : Row (w.alloc (.cells #[.int .u16 (st : Int), .int .u16 (re : Int), .int .u64 (nm : Int), .int .i64 ix, .bool la, .string tx] 38 (0, 0))) w.heap.size 38 [.int .u16 (st : Int), .int .u16 (re : Int), .int .u64 (nm : Int), .int .i64 ix, .bool la, .string tx] := Row.new' rfl rfl
  have b0 : Below w.heap.size w (w.alloc (.cells #[.int .u16 (st : Int), .int .u16 (re : Int), .int .u64 (nm : Int), .int .i64 ix, .bool la, .string tx] 38 (0, 0))) := (Below.refl _ _).alloc (Nat.le_refl _) _
  go_enter Try.func6, Try.ntmps6
  go_wp2_with fail
  refine (awake9_any _).mono ?_
  rintro e w1 ⟨rfl, b1⟩
  have r1 := r0.below b1 r0.lt
  have hb1 := b0.trans (b1.mono b0.size)
  clear b1 r0 b0
  go_wp2
  go_ret
  exact ⟨rfl, hb1⟩

set_option maxHeartbeats 8000000 in
theorem outC (key : ByteArray) (id sq : Nat) (down : Bool) (st re nm : Nat) (ix : Int) (la : Bool) (tx : ByteArray) (w : World) (g1 : ¬ (key.size : Int) < 1) (g2 : ¬ (64 : Int) < key.size) (g3 : (9223372036854775807 : Int) < sq) (h1 : st < 65536) (h2 : re < 65536) (h3 : nm < 18446744073709551616) (h4 : tx.size ≤ 9223372036854775807) (h5 : id ≤ 18446744073709551615) :
    Calls Try.prog 6 #[.string key, .int .u64 (id : Int), .int .u64 (sq : Int), .bool down, .agg #[.int .u16 (st : Int), .int .u16 (re : Int), .int .u64 (nm : Int), .int .i64 ix, .bool la, .string tx]] w fun e w' => e = .returned (.bool true) ∧ Below w.heap.size w w' := by

  have r0 : Row (w.alloc (.cells #[.int .u16 (st : Int), .int .u16 (re : Int), .int .u64 (nm : Int), .int .i64 ix, .bool la, .string tx] 38 (0, 0))) w.heap.size 38 [.int .u16 (st : Int), .int .u16 (re : Int), .int .u64 (nm : Int), .int .i64 ix, .bool la, .string tx] := Row.new' rfl rfl
  have b0 : Below w.heap.size w (w.alloc (.cells #[.int .u16 (st : Int), .int .u16 (re : Int), .int .u64 (nm : Int), .int .i64 ix, .bool la, .string tx] 38 (0, 0))) := (Below.refl _ _).alloc (Nat.le_refl _) _
  go_enter Try.func6, Try.ntmps6
  go_wp2_with fail
  refine (awake9_any _).mono ?_
  rintro e w1 ⟨rfl, b1⟩
  have r1 := r0.below b1 r0.lt
  have hb1 := b0.trans (b1.mono b0.size)
  clear b1 r0 b0
  go_wp2
  go_ret
  exact ⟨rfl, hb1⟩

set_option maxHeartbeats 8000000 in
theorem outD (key : ByteArray) (id sq : Nat) (down : Bool) (st re nm : Nat) (ix : Int) (la : Bool) (tx : ByteArray) (w : World) (g1 : ¬ (key.size : Int) < 1) (g2 : ¬ (64 : Int) < key.size) (g3 : ¬ (9223372036854775807 : Int) < sq) (g4 : pFaultE ix tx.size ≠ 0) (h1 : st < 65536) (h2 : re < 65536) (h3 : nm < 18446744073709551616) (h4 : tx.size ≤ 9223372036854775807) (h5 : id ≤ 18446744073709551615) :
    Calls Try.prog 6 #[.string key, .int .u64 (id : Int), .int .u64 (sq : Int), .bool down, .agg #[.int .u16 (st : Int), .int .u16 (re : Int), .int .u64 (nm : Int), .int .i64 ix, .bool la, .string tx]] w fun e w' => e = .returned (.bool true) ∧ Below w.heap.size w w' := by
  have CK : Hid (∀ wx, Calls Try.prog 13 #[.agg #[.int .u16 (st : Int), .int .u16 (re : Int), .int .u64 (nm : Int), .int .i64 ix, .bool la, .string tx]] wx fun e w' => e = .returned (.int .i64 (pFaultE ix tx.size)) ∧ Below wx.heap.size wx w') := fun wx => refCheck_any st re nm ix la tx h4 wx
  generalize pFaultE ix tx.size = E at *
  have hEb : (E != 0) = true := by simp [g4]
  have r0 : Row (w.alloc (.cells #[.int .u16 (st : Int), .int .u16 (re : Int), .int .u64 (nm : Int), .int .i64 ix, .bool la, .string tx] 38 (0, 0))) w.heap.size 38 [.int .u16 (st : Int), .int .u16 (re : Int), .int .u64 (nm : Int), .int .i64 ix, .bool la, .string tx] := Row.new' rfl rfl
  have b0 : Below w.heap.size w (w.alloc (.cells #[.int .u16 (st : Int), .int .u16 (re : Int), .int .u64 (nm : Int), .int .i64 ix, .bool la, .string tx] 38 (0, 0))) := (Below.refl _ _).alloc (Nat.le_refl _) _
  go_enter Try.func6, Try.ntmps6
  go_wp2_with fail
  refine (awake9_any _).mono ?_
  rintro e w1 ⟨rfl, b1⟩
  have r1 := r0.below b1 r0.lt
  have hb1 := b0.trans (b1.mono b0.size)
  clear b1 r0 b0
  have c0 : w1.cell? ⟨w.heap.size, 0, none⟩ = some (.int .u16 (st : Int)) := r1.cell 0
  have c1 : w1.cell? ⟨w.heap.size, 1, none⟩ = some (.int .u16 (re : Int)) := r1.cell 1
  have c2 : w1.cell? ⟨w.heap.size, 2, none⟩ = some (.int .u64 (nm : Int)) := r1.cell 2
  have c3 : w1.cell? ⟨w.heap.size, 3, none⟩ = some (.int .i64 ix) := r1.cell 3
  have c4 : w1.cell? ⟨w.heap.size, 4, none⟩ = some (.bool la) := r1.cell 4
  have c5 : w1.cell? ⟨w.heap.size, 5, none⟩ = some (.string tx) := r1.cell 5
  go_wp2_with fail
  refine (CK.out _).mono ?_
  rintro e w2 ⟨rfl, b2⟩
  have hb2 := hb1.trans (b2.mono hb1.size)
  clear b2 hb1
  go_wp2
  go_ret
  exact ⟨rfl, hb2⟩

set_option maxHeartbeats 8000000 in
theorem core (key : ByteArray) (id sq : Nat) (down : Bool) (st re nm : Nat) (ix : Nat) (la : Bool) (tx : ByteArray) (w : World) (g1 : ¬ (key.size : Int) < 1) (g2 : ¬ (64 : Int) < key.size) (g3 : ¬ (9223372036854775807 : Int) < sq) (hix : ix ≤ 31) (ht : tx.size ≤ 466) (h1 : st < 65536) (h2 : re < 65536) (h3 : nm < 18446744073709551616) (h4 : tx.size ≤ 9223372036854775807) (h5 : id ≤ 18446744073709551615) :
    Calls Try.prog 6 #[.string key, .int .u64 (id : Int), .int .u64 (sq : Int), .bool down, .agg #[.int .u16 (st : Int), .int .u16 (re : Int), .int .u64 (nm : Int), .int .i64 (ix : Int), .bool la, .string tx]] w fun e w' => e = .returned (.bool true) ∧ Below w.heap.size w w' := by
  have hkn : 1 ≤ key.size := by omega
  have hkm : key.size ≤ 64 := by omega
  have hsq : sq < 9223372036854775808 := by omega
  have hn2 : nonceN sq down ≤ 18446744073709551615 := by unfold nonceN; split <;> omega
  have CK : Hid (∀ wx, Calls Try.prog 13 #[.agg #[.int .u16 (st : Int), .int .u16 (re : Int), .int .u64 (nm : Int), .int .i64 (ix : Int), .bool la, .string tx]] wx fun e w' => e = .returned (.int .i64 0) ∧ Below wx.heap.size wx w') := fun wx => by
    have := refCheck_any st re nm (ix : Int) la tx h4 wx
    rwa [show pFaultE (ix : Int) tx.size = 0 from by unfold pFaultE; rw [if_neg (by omega), if_neg (by omega)]] at this
  have CN : Hid (∀ wx, Calls Try.prog 19 #[.string key] wx fun e w' => e = .returned (.tuple #[.agg (keyBox key.data.toList).toArray, .int .i64 0]) ∧ Below wx.heap.size wx w') := fun wx => sealNew_yes key hkn hkm wx
  have CO : Hid (∀ wx, Calls Try.prog 20 #[.int .u64 (sq : Int), .bool down] wx fun e w' => e = .returned (.tuple #[.int .u64 (nonceN sq down : Int), .int .i64 0]) ∧ w' = wx) := fun wx => nonce_yes sq down hsq wx
  have CQ : Hid (∀ wx, Calls Try.prog 25 #[.int .u64 (nonceN sq down : Int)] wx fun e w' => e = .returned (.tuple #[.int .u64 (sq : Int), .bool down]) ∧ w' = wx) := fun wx => seq_of sq down hsq wx
  generalize nonceN sq down = nn at *
  have hixN : X9.ixN ix la < 65536 := by unfold X9.ixN; split <;> omega
  have CB : Hid (∀ wx, Calls Try.prog 12 #[.agg #[.int .u16 (st : Int), .int .u16 (re : Int), .int .u64 (nm : Int), .int .i64 (ix : Int), .bool la, .string tx]] wx fun e w' => e = .returned (.tuple #[.string ⟨(X9.partL st re nm (X9.ixN ix la) tx.data.toList).toArray⟩, .int .i64 0]) ∧ Below wx.heap.size wx w') := fun wx => pBytes_yes st re nm ix la tx h1 h2 h3 hix ht wx
  obtain ⟨BL, hBL⟩ : ∃ BL, BL = X9.partL st re nm (X9.ixN ix la) tx.data.toList := ⟨_, rfl⟩
  have hBlen : BL.length = tx.size + 14 := by rw [hBL, X9.partL_length]; simp
  have CR : Hid (∀ wx, Calls Try.prog 15 #[.string ⟨BL.toArray⟩] wx fun e w' => e = .returned (.tuple #[.agg #[.int .u16 (st : Int), .int .u16 (re : Int), .int .u64 (nm : Int), .int .i64 (ix : Int), .bool la, .string tx], .int .i64 0]) ∧ Below wx.heap.size wx w') := fun wx => by
    have := read_long ⟨BL.toArray⟩ (by rw [X9.szL]; omega) (by rw [X9.szL]; omega) wx
    have hd : (⟨BL.toArray⟩ : ByteArray).data.toList = BL := rfl
    rw [hd] at this
    obtain ⟨e1, e2, e3, e4, e5⟩ := X9.f_part st re nm (X9.ixN ix la) tx.data.toList h1 h2 h3 hixN
    rw [← hBL] at e1 e2 e3 e4 e5
    have e6 : X9.ixN ix la % 32768 = ix := by unfold X9.ixN; split <;> omega
    have e7 : decide (32768 ≤ X9.ixN ix la) = la := by unfold X9.ixN; cases la <;> simp <;> omega
    have eF : pFaultE ((X9.fN BL % 32768 : Nat) : Int) (X9.fT BL).length = 0 := by rw [e4, e5, e6]; unfold pFaultE; rw [if_neg (by omega), if_neg (by simp; omega)]
    have eC : readC BL = [.int .u16 (st : Int), .int .u16 (re : Int), .int .u64 (nm : Int), .int .i64 (ix : Int), .bool la, .string tx] := by
      unfold readC
      rw [if_neg (by rw [eF]; simp), e1, e2, e3, e4, e5, e6, e7]
    rw [eF, eC] at this
    exact this
  rw [← hBL] at CB
  have hSlen : (Z7.sealL key.data.toList id nn BL).length = tx.size + 30 := by rw [Z7.sealL_length, hBlen]
  have CS : Hid (∀ wx, Calls Try.prog 21 #[.agg (keyBox key.data.toList).toArray, .int .u64 (id : Int), .int .u64 (nn : Int), .string ⟨BL.toArray⟩] wx fun e w' => e = .returned (.string ⟨(Z7.sealL key.data.toList id nn BL).toArray⟩) ∧ Below wx.heap.size wx w') := fun wx => seal_any _ key.data.toList (.inl rfl) id nn ⟨BL.toArray⟩ h5 hn2 (by rw [X9.szL]; omega) wx
  have CP : Hid (∀ wx, Calls Try.prog 24 #[.agg (keyBox key.data.toList).toArray, .int .u64 (id : Int), .int .u64 (nn : Int), .string ⟨(Z7.sealL key.data.toList id nn BL).toArray⟩] wx fun e w' => e = .returned (.tuple #[.string ⟨BL.toArray⟩, .int .i64 0]) ∧ Below wx.heap.size wx w') := fun wx => by
    have := open_any _ key.data.toList (.inl rfl) id nn ⟨(Z7.sealL key.data.toList id nn BL).toArray⟩ h5 hn2 (by rw [X9.szL]; omega) wx
    rw [show (⟨(Z7.sealL key.data.toList id nn BL).toArray⟩ : ByteArray).data.toList = Z7.sealL key.data.toList id nn BL from rfl, Z7.openL_seal, Z7.openE_seal] at this
    exact this
  generalize Z7.sealL key.data.toList id nn BL = SL at *
  have CD : Hid (∀ wx, Calls Try.prog 8 #[.agg #[.int .u64 (id : Int), .int .u64 (nn : Int), .string ⟨SL.toArray⟩]] wx fun e w' => e = .returned (.tuple #[.string ⟨(C.blk id nn ++ SL).toArray⟩, .int .i64 0]) ∧ Below wx.heap.size wx w') := fun wx => dBytes_yes id nn ⟨SL.toArray⟩ h5 hn2 (by rw [X9.szL]; omega) (by rw [X9.szL]; omega) wx
  have CH : Hid (∀ wx, Calls Try.prog 23 #[.int .u64 (id : Int), .int .u64 (nn : Int)] wx fun e w' => e = .returned (.string ⟨(C.blk id nn).toArray⟩) ∧ Below wx.heap.size wx w') := fun wx => head_any id nn h5 hn2 wx
  have CX : Hid (∀ wx, Calls Try.prog 22 #[.string ⟨(C.blk id nn ++ SL).toArray⟩, .string ⟨(C.blk id nn).toArray⟩] wx fun e w' => e = .returned (.bool true) ∧ w' = wx) := fun wx => by
    have := Try.strings_HasPrefix ⟨(C.blk id nn ++ SL).toArray⟩ ⟨(C.blk id nn).toArray⟩ wx
    have hp : Lib.hasPrefix (C.blk id nn ++ SL) (C.blk id nn) = true := by
      unfold Lib.hasPrefix
      rw [List.isPrefixOf_iff_prefix]
      exact List.prefix_append _ _
    rw [show (⟨(C.blk id nn ++ SL).toArray⟩ : ByteArray).data.toList = C.blk id nn ++ SL from rfl, show (⟨(C.blk id nn).toArray⟩ : ByteArray).data.toList = C.blk id nn from rfl, hp] at this
    exact this
  have CA : Hid (∀ wx, Calls Try.prog 10 #[.string ⟨(C.blk id nn ++ SL).toArray⟩] wx fun e w' => e = .returned (.tuple #[.agg #[.int .u64 (id : Int), .int .u64 (nn : Int), .string ⟨SL.toArray⟩], .int .i64 0]) ∧ Below wx.heap.size wx w') := fun wx => by
    have hln : (C.blk id nn ++ SL).length = tx.size + 46 := by rw [List.length_append, C.blk_length, hSlen]; omega
    have := parse_yes ⟨(C.blk id nn ++ SL).toArray⟩ (by rw [X9.szL]; omega) (by rw [X9.szL]; omega) wx
    have hd : (⟨(C.blk id nn ++ SL).toArray⟩ : ByteArray).data.toList = W.putL id 8 ++ (W.putL nn 8 ++ SL) := by show C.blk id nn ++ SL = _; unfold C.blk; rw [List.append_assoc]
    have d1 : (W.putL id 8 ++ (W.putL nn 8 ++ SL)).take 8 = W.putL id 8 := by rw [List.take_append_of_le_length (by rw [W.putL_length]; exact Nat.le_refl _), List.take_of_length_le (by rw [W.putL_length]; exact Nat.le_refl _)]
    have d2 : (W.putL id 8 ++ (W.putL nn 8 ++ SL)).drop 8 = W.putL nn 8 ++ SL := by rw [List.drop_append_of_le_length (by rw [W.putL_length]; exact Nat.le_refl _), List.drop_of_length_le (by rw [W.putL_length]; exact Nat.le_refl _)]; rfl
    have d3 : (W.putL nn 8 ++ SL).take 8 = W.putL nn 8 := by rw [List.take_append_of_le_length (by rw [W.putL_length]; exact Nat.le_refl _), List.take_of_length_le (by rw [W.putL_length]; exact Nat.le_refl _)]
    have d4 : (W.putL nn 8 ++ SL).drop 8 = SL := by rw [List.drop_append_of_le_length (by rw [W.putL_length]; exact Nat.le_refl _), List.drop_of_length_le (by rw [W.putL_length]; exact Nat.le_refl _)]; rfl
    rw [hd, d1, d2, d3, d4, X9.get_put, X9.get_put, Nat.mod_eq_of_lt (by omega), Nat.mod_eq_of_lt (by omega)] at this
    exact this
  have sz1 : (⟨(C.blk id nn ++ SL).toArray⟩ : ByteArray).size = tx.size + 46 := by rw [X9.szL, List.length_append, C.blk_length, hSlen]; omega
  have hik := info17c (keyBox_length key.data.toList)
  have HKL := Lib.hid (keyBox_length key.data.toList)
  have HZL : Hid (zeroBox.length = 17) := zeroBox_length
  have HKA := Lib.hid (keyBox_all key.data.toList)
  clear hBL hBlen hSlen hixN h1 h2 h3 h5 hn2 sz1
  generalize (⟨(C.blk id nn ++ SL).toArray⟩ : ByteArray) = DT at *
  generalize (⟨SL.toArray⟩ : ByteArray) = ST at *
  generalize (⟨BL.toArray⟩ : ByteArray) = BT at *
  generalize (⟨(C.blk id nn).toArray⟩ : ByteArray) = HT at *
  generalize keyBox key.data.toList = Y at *
  have HO : Hid (zeroBox.toArray.size = Y.toArray.size) := by show _ = _; rw [List.size_toArray, List.size_toArray, HZL.out, HKL.out]
  have r0 : Row (w.alloc (.cells #[.int .u16 (st : Int), .int .u16 (re : Int), .int .u64 (nm : Int), .int .i64 (ix : Int), .bool la, .string tx] 38 (0, 0))) w.heap.size 38 [.int .u16 (st : Int), .int .u16 (re : Int), .int .u64 (nm : Int), .int .i64 (ix : Int), .bool la, .string tx] := Row.new' rfl rfl
  have b0 : Below w.heap.size w (w.alloc (.cells #[.int .u16 (st : Int), .int .u16 (re : Int), .int .u64 (nm : Int), .int .i64 (ix : Int), .bool la, .string tx] 38 (0, 0))) := (Below.refl _ _).alloc (Nat.le_refl _) _
  go_enter Try.func6, Try.ntmps6
  go_wp2_with fail
  refine (awake9_any _).mono ?_
  rintro e w1 ⟨rfl, b1⟩
  have r1 := r0.below b1 r0.lt
  have hb1 := b0.trans (b1.mono b0.size)
  clear b1 r0 b0
  have c0 : w1.cell? ⟨w.heap.size, 0, none⟩ = some (.int .u16 (st : Int)) := r1.cell 0
  have c1 : w1.cell? ⟨w.heap.size, 1, none⟩ = some (.int .u16 (re : Int)) := r1.cell 1
  have c2 : w1.cell? ⟨w.heap.size, 2, none⟩ = some (.int .u64 (nm : Int)) := r1.cell 2
  have c3 : w1.cell? ⟨w.heap.size, 3, none⟩ = some (.int .i64 (ix : Int)) := r1.cell 3
  have c4 : w1.cell? ⟨w.heap.size, 4, none⟩ = some (.bool la) := r1.cell 4
  have c5 : w1.cell? ⟨w.heap.size, 5, none⟩ = some (.string tx) := r1.cell 5
  go_wp2_with fail
  refine (CK.out _).mono ?_
  rintro e w2 ⟨rfl, b2⟩
  have r2 := r1.below b2 r1.lt
  have hb2 := hb1.trans (b2.mono hb1.size)
  clear b2 hb1 r1 c0 c1 c2 c3 c4 c5
  go_wp2_with fail
  refine (CN.out _).mono ?_
  rintro e w3 ⟨rfl, b3⟩
  have q3 : Row (w3.alloc (.cells Y.toArray 55 (0, 0))) w3.heap.size 55 Y := Row.new' rfl rfl
  have r3 := (r2.below b3 r2.lt).alloc (.cells Y.toArray 55 (0, 0))
  have hb3 := (hb2.trans (b3.mono hb2.size)).alloc (hb2.trans (b3.mono hb2.size)).size (.cells Y.toArray 55 (0, 0))
  clear b3 r2 hb2
  go_wp2_with (first
    | refine wpList_store_new rfl 55 (.tmp 11) (.tmp 46) rfl w3 zeroBox.toArray _ _ _ rfl rfl rfl hik HO.out HKA.out ?_)
  refine (CO.out _).mono ?_
  rintro e w4 ⟨rfl, rfl⟩
  go_wp2_with (first
    | refine wpList_load_row rfl 38 (.tmp 9) rfl w.heap.size rfl _ _ _ _ r3 Try.underlying38 rfl infoPart ?_)
  refine (CB.out _).mono ?_
  rintro e w5 ⟨rfl, b5⟩
  have r5 := r3.below b5 r3.lt
  have q5 := q3.below b5 q3.lt
  have hb5 := hb3.trans (b5.mono hb3.size)
  clear b5 r3 q3 hb3
  go_wp2_with (first
    | refine wpList_load_row rfl 55 (.tmp 11) rfl w3.heap.size rfl _ _ _ _ q5 Try.underlying55 rfl hik ?_)
  refine (CS.out _).mono ?_
  rintro e w6 ⟨rfl, b6⟩
  have r6 := r5.below b6 r5.lt
  have q6 := q5.below b6 q5.lt
  have hb6 := hb5.trans (b6.mono hb5.size)
  clear b6 r5 q5 hb5
  go_wp2_with fail
  refine (CD.out _).mono ?_
  rintro e w7 ⟨rfl, b7⟩
  have r7 := r6.below b7 r6.lt
  have q7 := q6.below b7 q6.lt
  have hb7 := hb6.trans (b7.mono hb6.size)
  clear b7 r6 q6 hb6
  go_wp2_with fail
  refine (CH.out _).mono ?_
  rintro e w8 ⟨rfl, b8⟩
  have r8 := r7.below b8 r7.lt
  have q8 := q7.below b8 q7.lt
  have hb8 := hb7.trans (b8.mono hb7.size)
  clear b8 r7 q7 hb7
  go_wp2_with fail
  refine (CX.out _).mono ?_
  rintro e w9 ⟨rfl, rfl⟩
  have r9 := r8
  have q9 := q8
  have hb9 := hb8
  clear r8 q8 hb8
  go_wp2_with fail
  refine (CA.out _).mono ?_
  rintro e wA ⟨rfl, bA⟩
  have rA := (r9.below bA r9.lt).alloc (.cells #[.int .u64 (id : Int), .int .u64 (nn : Int), .string ST] 25 (0, 0))
  have qA := (q9.below bA q9.lt).alloc (.cells #[.int .u64 (id : Int), .int .u64 (nn : Int), .string ST] 25 (0, 0))
  have hbA := (hb9.trans (bA.mono hb9.size)).alloc (hb9.trans (bA.mono hb9.size)).size (.cells #[.int .u64 (id : Int), .int .u64 (nn : Int), .string ST] 25 (0, 0))
  have dA : Row (wA.alloc (.cells #[.int .u64 (id : Int), .int .u64 (nn : Int), .string ST] 25 (0, 0))) wA.heap.size 25 [.int .u64 (id : Int), .int .u64 (nn : Int), .string ST] := Row.new' rfl rfl
  clear bA r9 q9 hb9
  go_wp2_with (first
    | refine wpList_load_row rfl 55 (.tmp 11) rfl w3.heap.size rfl _ _ _ _ qA Try.underlying55 rfl hik ?_)
  refine (CP.out _).mono ?_
  rintro e wB ⟨rfl, bB⟩
  have rB := rA.below bB rA.lt
  have dB := dA.below bB dA.lt
  have hbB := hbA.trans (bB.mono hbA.size)
  clear bB rA qA dA hbA
  go_wp2_with fail
  refine (CR.out _).mono ?_
  rintro e wC ⟨rfl, bC⟩
  have rC := (rB.below bC rB.lt).alloc (.cells #[.int .u16 (st : Int), .int .u16 (re : Int), .int .u64 (nm : Int), .int .i64 (ix : Int), .bool la, .string tx] 38 (0, 0))
  have dC := (dB.below bC dB.lt).alloc (.cells #[.int .u16 (st : Int), .int .u16 (re : Int), .int .u64 (nm : Int), .int .i64 (ix : Int), .bool la, .string tx] 38 (0, 0))
  have hbC := (hbB.trans (bC.mono hbB.size)).alloc (hbB.trans (bC.mono hbB.size)).size (.cells #[.int .u16 (st : Int), .int .u16 (re : Int), .int .u64 (nm : Int), .int .i64 (ix : Int), .bool la, .string tx] 38 (0, 0))
  have pC : Row (wC.alloc (.cells #[.int .u16 (st : Int), .int .u16 (re : Int), .int .u64 (nm : Int), .int .i64 (ix : Int), .bool la, .string tx] 38 (0, 0))) wC.heap.size 38 [.int .u16 (st : Int), .int .u16 (re : Int), .int .u64 (nm : Int), .int .i64 (ix : Int), .bool la, .string tx] := Row.new' rfl rfl
  clear bC rB dB hbB
  obtain ⟨wD, hwD⟩ : ∃ wD, wD = wC.alloc (.cells #[.int .u16 (st : Int), .int .u16 (re : Int), .int .u64 (nm : Int), .int .i64 (ix : Int), .bool la, .string tx] 38 (0, 0)) := ⟨_, rfl⟩
  rw [← hwD] at rC dC hbC pC
  have d0 : wD.cell? ⟨wA.heap.size, 0, none⟩ = some (.int .u64 (id : Int)) := dC.cell 0
  have d1 : wD.cell? ⟨wA.heap.size, 1, none⟩ = some (.int .u64 (nn : Int)) := dC.cell 1
  go_upto_region 14 with fail
  rw [← hwD]
  clear hwD
  go_wp2_with fail
  refine (CQ.out _).mono ?_
  rintro e wE ⟨rfl, rfl⟩
  have a0 : wE.cell? ⟨w.heap.size, 0, none⟩ = some (.int .u16 (st : Int)) := rC.cell 0
  have p0 : wE.cell? ⟨wC.heap.size, 0, none⟩ = some (.int .u16 (st : Int)) := pC.cell 0
  have a1 : wE.cell? ⟨w.heap.size, 1, none⟩ = some (.int .u16 (re : Int)) := rC.cell 1
  have p1 : wE.cell? ⟨wC.heap.size, 1, none⟩ = some (.int .u16 (re : Int)) := pC.cell 1
  have a2 : wE.cell? ⟨w.heap.size, 2, none⟩ = some (.int .u64 (nm : Int)) := rC.cell 2
  have p2 : wE.cell? ⟨wC.heap.size, 2, none⟩ = some (.int .u64 (nm : Int)) := pC.cell 2
  have a3 : wE.cell? ⟨w.heap.size, 3, none⟩ = some (.int .i64 (ix : Int)) := rC.cell 3
  have p3 : wE.cell? ⟨wC.heap.size, 3, none⟩ = some (.int .i64 (ix : Int)) := pC.cell 3
  have a4 : wE.cell? ⟨w.heap.size, 4, none⟩ = some (.bool la) := rC.cell 4
  have p4 : wE.cell? ⟨wC.heap.size, 4, none⟩ = some (.bool la) := pC.cell 4
  have a5 : wE.cell? ⟨w.heap.size, 5, none⟩ = some (.string tx) := rC.cell 5
  have p5 : wE.cell? ⟨wC.heap.size, 5, none⟩ = some (.string tx) := pC.cell 5
  go_wp2
  go_ret
  exact ⟨rfl, hbC⟩

theorem walk (a0 : ByteArray) (a1 : Int) (a2 : Int) (a3 : Bool) (st4 re4 nm4 : Nat) (ix4 : Int) (la4 : Bool) (tx4 : ByteArray) (w : World) (w0 : a0.size ≤ maxLen) (w1 : (Lit.int .u64 a1).wf = true) (w2 : (Lit.int .u64 a2).wf = true) (w4 : st4 < 65536 ∧ re4 < 65536 ∧ nm4 < 18446744073709551616 ∧ -9223372036854775808 ≤ ix4 ∧ ix4 ≤ 9223372036854775807 ∧ tx4.size ≤ maxLen) :
    Calls Try.prog 6 #[.string a0, .int .u64 a1, .int .u64 a2, .bool a3, .agg #[.int .u16 (st4 : Int), .int .u16 (re4 : Int), .int .u64 (nm4 : Int), .int .i64 ix4, .bool la4, .string tx4]] w fun e w' => e = .returned (.bool true) ∧ Below w.heap.size w w' := by
  obtain ⟨p1, q1⟩ := Go.bounds_u64 w1
  obtain ⟨p2, q2⟩ := Go.bounds_u64 w2
  obtain ⟨id, rfl⟩ := Int.eq_ofNat_of_zero_le p1
  obtain ⟨sq, rfl⟩ := Int.eq_ofNat_of_zero_le p2
  obtain ⟨h1, h2, h3, _, _, h4⟩ := w4
  have h4 : tx4.size ≤ 9223372036854775807 := h4
  by_cases g1 : (a0.size : Int) < 1
  · exact outA a0 id sq a3 st4 re4 nm4 ix4 la4 tx4 w g1 h1 h2 h3 h4 (by omega)
  · by_cases g2 : (64 : Int) < a0.size
    · exact outB a0 id sq a3 st4 re4 nm4 ix4 la4 tx4 w g1 g2 h1 h2 h3 h4 (by omega)
    · by_cases g3 : (9223372036854775807 : Int) < (sq : Int)
      · exact outC a0 id sq a3 st4 re4 nm4 ix4 la4 tx4 w g1 g2 g3 h1 h2 h3 h4 (by omega)
      · by_cases g4 : pFaultE ix4 tx4.size ≠ 0
        · exact outD a0 id sq a3 st4 re4 nm4 ix4 la4 tx4 w g1 g2 g3 g4 h1 h2 h3 h4 (by omega)
        · have g5 : pFaultE ix4 tx4.size = 0 := by simpa using g4
          unfold pFaultE at g5
          have g6 : ¬ (ix4 < 0 ∨ 31 < ix4) := fun h => by rw [if_pos h] at g5; omega
          rw [if_neg g6] at g5
          have g7 : ¬ 466 < tx4.size := fun h => by rw [if_pos h] at g5; omega
          obtain ⟨ix, rfl⟩ : ∃ ix : Nat, ix4 = (ix : Int) := ⟨ix4.toNat, by omega⟩
          exact core a0 id sq a3 st4 re4 nm4 ix la4 tx4 w g1 g2 g3 (by omega) (by omega) h1 h2 h3 h4 (by omega)

end WireSealedW
end Go.Proofs.Ytbkeodgiflfakaa
