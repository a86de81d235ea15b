/-
  Layer 7: SealBodies, the walk.
-/
import Derived.Test.YtjkaignfomlflaaGreatMod23
import Derived.OpenShut
namespace Go.Proofs.YtjkaignfomlflaaGreat.SealBodiesW
open Go.RowKit
set_option linter.unusedVariables false
set_option maxRecDepth 20000

/-- What the tail of the walk asks of a box and a key. -/
structure Tail (c : List Value) (kx : ByteArray) (id n : Nat) (body s T : ByteArray) (OL : ByteArray) (OE : Nat) : Prop where
  CS : ∀ wx, Calls Tryz.prog 10 #[.agg c.toArray, .int .u64 (id : Int), .int .u64 (n : Int), .string body] wx fun e w' => e = .returned (.string T) ∧ Below wx.heap.size wx w'
  CO : ∀ wx, Calls Tryz.prog 11 #[.agg c.toArray, .int .u64 (id : Int), .int .u64 (n : Int), .string T] wx fun e w' => e = .returned (.tuple #[.string body, .int .i64 0]) ∧ Below wx.heap.size wx w'
  CP : ∀ wx, Calls Tryz.prog 11 #[.agg c.toArray, .int .u64 (id : Int), .int .u64 (n : Int), .string s] wx fun e w' => e = .returned (.tuple #[.string OL, .int .i64 (OE : Int)]) ∧ Below wx.heap.size wx w'
  RO : ∀ wx, Calls Tryz.prog 12 #[.string kx, .int .u64 (id : Int), .int .u64 (n : Int), .string s] wx fun e w' => e = .returned (.tuple #[.string OL, .int .i64 (OE : Int)]) ∧ Below wx.heap.size wx w'
  RS : ∀ wx, Calls Tryz.prog 13 #[.string kx, .int .u64 (id : Int), .int .u64 (n : Int), .string body] wx fun e w' => e = .returned (.string T) ∧ Below wx.heap.size wx w'
  size : T.size = body.size + 16
  box : c.length = 17
  all : c.toArray.all (·.oneCell') = true

theorem toL_ofL (l : List UInt8) : (⟨l.toArray⟩ : ByteArray).data.toList = l := rfl

theorem tail_of (c : List Value) (kx : ByteArray) (hx : IsBox c kx.data.toList) (hc : c.toArray.all (·.oneCell') = true) (hk : kx.size ≤ 1000) (id n : Nat) (h1 : id ≤ 18446744073709551615) (h2 : n ≤ 18446744073709551615) (body s : ByteArray) (hb : body.size ≤ 100) (hs : s.size ≤ 116) :
    ∃ T OL OE, Tail c kx id n body s T OL OE := by
  refine ⟨⟨(Z7.sealL kx.data.toList id n body.data.toList).toArray⟩, ⟨(Z7.openL kx.data.toList id n s.data.toList).toArray⟩, Z7.openE kx.data.toList id n s.data.toList, fun wx => seal_any c _ hx id n body h1 h2 (by omega) wx, fun wx => ?_, fun wx => open_any c _ hx id n s h1 h2 (by omega) wx, fun wx => refOpen_any kx hk id n s h1 h2 hs wx, fun wx => refSeal_any kx hk id n body h1 h2 hb wx, ?_, hx.length, hc⟩
  · have := open_any c _ hx id n ⟨(Z7.sealL kx.data.toList id n body.data.toList).toArray⟩ h1 h2 (by rw [size_ofL, Z7.sealL_length, size_toL]; omega) wx
    rw [toL_ofL, Z7.openL_seal, Z7.openE_seal] at this
    rw [← bytes_of (x := body) rfl] at this
    exact this
  · rw [size_ofL, Z7.sealL_length, size_toL]

set_option maxRecDepth 20000 in
set_option maxHeartbeats 8000000 in
theorem core (a0 : ByteArray) (id n sq : Nat) (a4 : Bool) (a5 a6 : ByteArray) (w : World) (hk : a0.size ≤ 70) (h5 : a5.size ≤ 100) (h6 : a6.size ≤ 100) (h1 : id ≤ 18446744073709551615) (h2 : n ≤ 18446744073709551615) (h3 : sq ≤ 18446744073709551615) :
    Calls Tryz.prog 3 #[.string a0, .int .u64 (id : Int), .int .u64 (n : Int), .int .u64 (sq : Int), .bool a4, .string a5, .string a6] w fun e w' => e = .returned (.bool true) ∧ Below w.heap.size w w' := by
  have g1 : ¬ (100 : Int) < max (a5.size : Int) (a6.size : Int) := by omega
  have g1' : max (a5.size : Int) (a6.size : Int) ≤ 100 := by omega
  have g5 : (a5.size : Int) ≤ 100 := by omega
  have g6 : (a6.size : Int) ≤ 100 := by omega
  have g2 : ¬ (70 : Int) < a0.size := by omega
  have C0 := Lib.hid (awake7_any w)
  have CH : Hid (∀ wx, Calls Tryz.prog 15 #[.int .u64 (id : Int), .int .u64 (n : Int)] wx fun e w' => e = .returned (.string ⟨(C.blk id n).toArray⟩) ∧ Below wx.heap.size wx w') := fun wx => head_any id n h1 h2 wx
  have CRH : Hid (∀ wx, Calls Tryz.prog 16 #[.int .u64 (id : Int), .int .u64 (n : Int)] wx fun e w' => e = .returned (.string ⟨(C.blk id n).toArray⟩) ∧ Below wx.heap.size wx w') := fun wx => refHead_any id n h1 h2 wx
  have CZ : Hid (∀ wx, Calls Tryz.prog 14 #[.int .i64 (a5.size : Int)] wx fun e w' => e = .returned (.int .i64 ((a5.size : Int) + 16)) ∧ w' = wx) := fun wx => size_any a5.size (by omega) wx
  have HZL : Hid (zeroBox.length = 17) := zeroBox_length
  have hkk : a0.size ≤ 1000 := by omega
  generalize (⟨(C.blk id n).toArray⟩ : ByteArray) = hd at *
  go_enter Tryz.func3, Tryz.ntmps3
  go_wp2_with fail
  refine C0.out.mono ?_
  rintro e wa ⟨rfl, ba⟩
  clear C0
  by_cases hsp : 9223372036854775808 ≤ sq
  · have C1 := Lib.hid (nonce_spent sq a4 (by omega) wa)
    have k1 : (9223372036854775808 : Int) ≤ sq := by omega
    clear hsp
    go_wp2_with fail
    refine C1.out.mono ?_
    rintro e wa ⟨rfl, rfl⟩
    clear C1 g1 g1' g2
    rcases (show (1 ≤ a0.size ∧ a0.size ≤ 64) ∨ a0.size < 1 ∨ 64 < a0.size by omega) with hy | hy | hy
    · have CN : Hid (∀ wx, Calls Tryz.prog 9 #[.string a0] wx fun e w' => e = .returned (.tuple #[.agg (keyBox a0.data.toList).toArray, .int .i64 0]) ∧ Below wx.heap.size wx w') := fun wx => sealNew_yes a0 hy.1 hy.2 wx
      have j1 : ¬ (a0.size : Int) < 1 := by omega
      have j2 : ¬ (64 : Int) < a0.size := by omega
      obtain ⟨T, OL, OE, HT⟩ := tail_of (keyBox a0.data.toList) a0 (.inl rfl) (keyBox_all _) hkk id n h1 h2 a5 a6 h5 (by omega)
      generalize keyBox a0.data.toList = Y at *
      have HTT := Lib.hid HT
      have hik := info17c HT.box
      have hTs := HT.size
      have HO : Hid (zeroBox.toArray.size = Y.toArray.size) := by show _ = _; rw [List.size_toArray, List.size_toArray, HZL.out, HT.box]
      clear HT hy
      go_wp2_with fail
      refine (CN.out _).mono ?_
      rintro e w1 ⟨rfl, b1⟩
      have r1 : Row (w1.alloc (.cells Y.toArray 35 (0, 0))) w1.heap.size 35 Y := Row.new' rfl rfl
      have hb1 := (ba.trans (b1.mono ba.size)).alloc (ba.trans (b1.mono ba.size)).size (.cells Y.toArray 35 (0, 0))
      clear b1 ba CN
      go_wp2_with (first
        | refine wpList_store_new rfl 35 (.tmp 19) (.tmp 75) rfl w1 zeroBox.toArray _ _ _ rfl rfl rfl hik HO.out HTT.out.all ?_
        | refine wpList_load_row rfl 35 (.tmp 19) rfl w1.heap.size rfl _ _ _ _ r1 Tryz.underlying35 rfl hik ?_)
      refine (HTT.out.CS _).mono ?_
      rintro e w2 ⟨rfl, b2⟩
      have r2 := r1.below b2 r1.lt
      have hb2 := hb1.trans (b2.mono hb1.size)
      clear b2 r1 hb1
      go_wp2_with (first
        | refine wpList_load_row rfl 35 (.tmp 19) rfl w1.heap.size rfl _ _ _ _ r2 Tryz.underlying35 rfl hik ?_)
      refine (HTT.out.CO _).mono ?_
      rintro e w3 ⟨rfl, b3⟩
      have r3 := r2.below b3 r2.lt
      have hb3 := hb2.trans (b3.mono hb2.size)
      clear b3 r2 hb2
      go_wp2_with (first
        | refine wpList_load_row rfl 35 (.tmp 19) rfl w1.heap.size rfl _ _ _ _ r3 Tryz.underlying35 rfl hik ?_)
      refine (HTT.out.CP _).mono ?_
      rintro e w4 ⟨rfl, b4⟩
      have hb4 := hb3.trans (b4.mono hb3.size)
      clear b4 r3 hb3
      go_wp2_with fail
      refine (HTT.out.RO _).mono ?_
      rintro e w5 ⟨rfl, b5⟩
      have hb5 := hb4.trans (b5.mono hb4.size)
      clear b5 hb4
      go_wp2_with fail
      refine (HTT.out.RS _).mono ?_
      rintro e w6 ⟨rfl, b6⟩
      have hb6 := hb5.trans (b6.mono hb5.size)
      clear b6 hb5
      go_wp2_with fail
      refine (CZ.out _).mono ?_
      rintro e w6 ⟨rfl, rfl⟩
      go_wp2_with fail
      refine (CH.out _).mono ?_
      rintro e w7 ⟨rfl, b7⟩
      have hb7 := hb6.trans (b7.mono hb6.size)
      clear b7 hb6
      go_wp2_with fail
      refine (CRH.out _).mono ?_
      rintro e w8 ⟨rfl, b8⟩
      have hb8 := hb7.trans (b8.mono hb7.size)
      clear b8 hb7
      go_wp2
      go_ret
      exact ⟨rfl, hb8⟩
    · have j1 : (a0.size : Int) < 1 := by omega
      have CN : Hid (∀ wx, Calls Tryz.prog 9 #[.string a0] wx fun e w' => e = .returned (.tuple #[.agg zeroBox.toArray, .int .i64 2]) ∧ Below wx.heap.size wx w') := fun wx => sealNew_no a0 (by omega) wx
      obtain ⟨T, OL, OE, HT⟩ := tail_of zeroBox ⟨#[0]⟩ (.inr ⟨rfl, rfl⟩) zeroBox_all (by decide) id n h1 h2 a5 a6 h5 (by omega)
      obtain ⟨Y, hY⟩ : ∃ Y, Y = zeroBox := ⟨_, rfl⟩
      rw [← hY] at CN HT
      clear hY
      have HTT := Lib.hid HT
      have hik := info17c HT.box
      have hTs := HT.size
      have HO : Hid (zeroBox.toArray.size = Y.toArray.size) := by show _ = _; rw [List.size_toArray, List.size_toArray, HZL.out, HT.box]
      clear HT hy
      go_wp2_with fail
      refine (CN.out _).mono ?_
      rintro e w1 ⟨rfl, b1⟩
      have r1 : Row (w1.alloc (.cells Y.toArray 35 (0, 0))) w1.heap.size 35 Y := Row.new' rfl rfl
      have hb1 := (ba.trans (b1.mono ba.size)).alloc (ba.trans (b1.mono ba.size)).size (.cells Y.toArray 35 (0, 0))
      clear b1 ba CN
      go_wp2_with (first
        | refine wpList_store_new rfl 35 (.tmp 19) (.tmp 75) rfl w1 zeroBox.toArray _ _ _ rfl rfl rfl hik HO.out HTT.out.all ?_
        | refine wpList_load_row rfl 35 (.tmp 19) rfl w1.heap.size rfl _ _ _ _ r1 Tryz.underlying35 rfl hik ?_)
      refine (HTT.out.CS _).mono ?_
      rintro e w2 ⟨rfl, b2⟩
      have r2 := r1.below b2 r1.lt
      have hb2 := hb1.trans (b2.mono hb1.size)
      clear b2 r1 hb1
      go_wp2_with (first
        | refine wpList_load_row rfl 35 (.tmp 19) rfl w1.heap.size rfl _ _ _ _ r2 Tryz.underlying35 rfl hik ?_)
      refine (HTT.out.CO _).mono ?_
      rintro e w3 ⟨rfl, b3⟩
      have r3 := r2.below b3 r2.lt
      have hb3 := hb2.trans (b3.mono hb2.size)
      clear b3 r2 hb2
      go_wp2_with (first
        | refine wpList_load_row rfl 35 (.tmp 19) rfl w1.heap.size rfl _ _ _ _ r3 Tryz.underlying35 rfl hik ?_)
      refine (HTT.out.CP _).mono ?_
      rintro e w4 ⟨rfl, b4⟩
      have hb4 := hb3.trans (b4.mono hb3.size)
      clear b4 r3 hb3
      go_wp2_with fail
      refine (HTT.out.RO _).mono ?_
      rintro e w5 ⟨rfl, b5⟩
      have hb5 := hb4.trans (b5.mono hb4.size)
      clear b5 hb4
      go_wp2_with fail
      refine (HTT.out.RS _).mono ?_
      rintro e w6 ⟨rfl, b6⟩
      have hb6 := hb5.trans (b6.mono hb5.size)
      clear b6 hb5
      go_wp2_with fail
      refine (CZ.out _).mono ?_
      rintro e w6 ⟨rfl, rfl⟩
      go_wp2_with fail
      refine (CH.out _).mono ?_
      rintro e w7 ⟨rfl, b7⟩
      have hb7 := hb6.trans (b7.mono hb6.size)
      clear b7 hb6
      go_wp2_with fail
      refine (CRH.out _).mono ?_
      rintro e w8 ⟨rfl, b8⟩
      have hb8 := hb7.trans (b8.mono hb7.size)
      clear b8 hb7
      go_wp2
      go_ret
      exact ⟨rfl, hb8⟩
    · have j1 : ¬ (a0.size : Int) < 1 := by omega
      have j2 : (64 : Int) < a0.size := by omega
      have CN : Hid (∀ wx, Calls Tryz.prog 9 #[.string a0] wx fun e w' => e = .returned (.tuple #[.agg zeroBox.toArray, .int .i64 2]) ∧ Below wx.heap.size wx w') := fun wx => sealNew_no a0 (by omega) wx
      obtain ⟨T, OL, OE, HT⟩ := tail_of zeroBox ⟨#[0]⟩ (.inr ⟨rfl, rfl⟩) zeroBox_all (by decide) id n h1 h2 a5 a6 h5 (by omega)
      obtain ⟨Y, hY⟩ : ∃ Y, Y = zeroBox := ⟨_, rfl⟩
      rw [← hY] at CN HT
      clear hY
      have HTT := Lib.hid HT
      have hik := info17c HT.box
      have hTs := HT.size
      have HO : Hid (zeroBox.toArray.size = Y.toArray.size) := by show _ = _; rw [List.size_toArray, List.size_toArray, HZL.out, HT.box]
      clear HT hy
      go_wp2_with fail
      refine (CN.out _).mono ?_
      rintro e w1 ⟨rfl, b1⟩
      have r1 : Row (w1.alloc (.cells Y.toArray 35 (0, 0))) w1.heap.size 35 Y := Row.new' rfl rfl
      have hb1 := (ba.trans (b1.mono ba.size)).alloc (ba.trans (b1.mono ba.size)).size (.cells Y.toArray 35 (0, 0))
      clear b1 ba CN
      go_wp2_with (first
        | refine wpList_store_new rfl 35 (.tmp 19) (.tmp 75) rfl w1 zeroBox.toArray _ _ _ rfl rfl rfl hik HO.out HTT.out.all ?_
        | refine wpList_load_row rfl 35 (.tmp 19) rfl w1.heap.size rfl _ _ _ _ r1 Tryz.underlying35 rfl hik ?_)
      refine (HTT.out.CS _).mono ?_
      rintro e w2 ⟨rfl, b2⟩
      have r2 := r1.below b2 r1.lt
      have hb2 := hb1.trans (b2.mono hb1.size)
      clear b2 r1 hb1
      go_wp2_with (first
        | refine wpList_load_row rfl 35 (.tmp 19) rfl w1.heap.size rfl _ _ _ _ r2 Tryz.underlying35 rfl hik ?_)
      refine (HTT.out.CO _).mono ?_
      rintro e w3 ⟨rfl, b3⟩
      have r3 := r2.below b3 r2.lt
      have hb3 := hb2.trans (b3.mono hb2.size)
      clear b3 r2 hb2
      go_wp2_with (first
        | refine wpList_load_row rfl 35 (.tmp 19) rfl w1.heap.size rfl _ _ _ _ r3 Tryz.underlying35 rfl hik ?_)
      refine (HTT.out.CP _).mono ?_
      rintro e w4 ⟨rfl, b4⟩
      have hb4 := hb3.trans (b4.mono hb3.size)
      clear b4 r3 hb3
      go_wp2_with fail
      refine (HTT.out.RO _).mono ?_
      rintro e w5 ⟨rfl, b5⟩
      have hb5 := hb4.trans (b5.mono hb4.size)
      clear b5 hb4
      go_wp2_with fail
      refine (HTT.out.RS _).mono ?_
      rintro e w6 ⟨rfl, b6⟩
      have hb6 := hb5.trans (b6.mono hb5.size)
      clear b6 hb5
      go_wp2_with fail
      refine (CZ.out _).mono ?_
      rintro e w6 ⟨rfl, rfl⟩
      go_wp2_with fail
      refine (CH.out _).mono ?_
      rintro e w7 ⟨rfl, b7⟩
      have hb7 := hb6.trans (b7.mono hb6.size)
      clear b7 hb6
      go_wp2_with fail
      refine (CRH.out _).mono ?_
      rintro e w8 ⟨rfl, b8⟩
      have hb8 := hb7.trans (b8.mono hb7.size)
      clear b8 hb7
      go_wp2
      go_ret
      exact ⟨rfl, hb8⟩
  · obtain ⟨m, C1, C2⟩ : ∃ m : Nat, Hid (∀ wx, Calls Tryz.prog 7 #[.int .u64 (sq : Int), .bool a4] wx fun e w' => e = .returned (.tuple #[.int .u64 (m : Int), .int .i64 0]) ∧ w' = wx) ∧ Hid (∀ wx, Calls Tryz.prog 8 #[.int .u64 (m : Int)] wx fun e w' => e = .returned (.tuple #[.int .u64 (sq : Int), .bool a4]) ∧ w' = wx) := ⟨nonceN sq a4, fun wx => nonce_yes sq a4 (by omega) wx, fun wx => seq_of sq a4 (by omega) wx⟩
    have K1 : Hid (∀ _ : Unit, decide ((9223372036854775808 : Int) ≤ (sq : Int)) = false) := fun _ => by rw [decide_eq_false_iff_not]; omega
    clear hsp h3
    go_wp2_with fail
    refine (C1.out _).mono ?_
    rintro e wa ⟨rfl, rfl⟩
    have k1 := K1.out ()
    clear K1
    go_wp2_with fail
    refine (C2.out _).mono ?_
    rintro e wa ⟨rfl, rfl⟩
    clear C1 C2 g1 g1' g2 k1
    rcases (show (1 ≤ a0.size ∧ a0.size ≤ 64) ∨ a0.size < 1 ∨ 64 < a0.size by omega) with hy | hy | hy
    · have CN : Hid (∀ wx, Calls Tryz.prog 9 #[.string a0] wx fun e w' => e = .returned (.tuple #[.agg (keyBox a0.data.toList).toArray, .int .i64 0]) ∧ Below wx.heap.size wx w') := fun wx => sealNew_yes a0 hy.1 hy.2 wx
      have j1 : ¬ (a0.size : Int) < 1 := by omega
      have j2 : ¬ (64 : Int) < a0.size := by omega
      obtain ⟨T, OL, OE, HT⟩ := tail_of (keyBox a0.data.toList) a0 (.inl rfl) (keyBox_all _) hkk id n h1 h2 a5 a6 h5 (by omega)
      generalize keyBox a0.data.toList = Y at *
      have HTT := Lib.hid HT
      have hik := info17c HT.box
      have hTs := HT.size
      have HO : Hid (zeroBox.toArray.size = Y.toArray.size) := by show _ = _; rw [List.size_toArray, List.size_toArray, HZL.out, HT.box]
      clear HT hy
      go_wp2_with fail
      refine (CN.out _).mono ?_
      rintro e w1 ⟨rfl, b1⟩
      have r1 : Row (w1.alloc (.cells Y.toArray 35 (0, 0))) w1.heap.size 35 Y := Row.new' rfl rfl
      have hb1 := (ba.trans (b1.mono ba.size)).alloc (ba.trans (b1.mono ba.size)).size (.cells Y.toArray 35 (0, 0))
      clear b1 ba CN
      go_wp2_with (first
        | refine wpList_store_new rfl 35 (.tmp 19) (.tmp 75) rfl w1 zeroBox.toArray _ _ _ rfl rfl rfl hik HO.out HTT.out.all ?_
        | refine wpList_load_row rfl 35 (.tmp 19) rfl w1.heap.size rfl _ _ _ _ r1 Tryz.underlying35 rfl hik ?_)
      refine (HTT.out.CS _).mono ?_
      rintro e w2 ⟨rfl, b2⟩
      have r2 := r1.below b2 r1.lt
      have hb2 := hb1.trans (b2.mono hb1.size)
      clear b2 r1 hb1
      go_wp2_with (first
        | refine wpList_load_row rfl 35 (.tmp 19) rfl w1.heap.size rfl _ _ _ _ r2 Tryz.underlying35 rfl hik ?_)
      refine (HTT.out.CO _).mono ?_
      rintro e w3 ⟨rfl, b3⟩
      have r3 := r2.below b3 r2.lt
      have hb3 := hb2.trans (b3.mono hb2.size)
      clear b3 r2 hb2
      go_wp2_with (first
        | refine wpList_load_row rfl 35 (.tmp 19) rfl w1.heap.size rfl _ _ _ _ r3 Tryz.underlying35 rfl hik ?_)
      refine (HTT.out.CP _).mono ?_
      rintro e w4 ⟨rfl, b4⟩
      have hb4 := hb3.trans (b4.mono hb3.size)
      clear b4 r3 hb3
      go_wp2_with fail
      refine (HTT.out.RO _).mono ?_
      rintro e w5 ⟨rfl, b5⟩
      have hb5 := hb4.trans (b5.mono hb4.size)
      clear b5 hb4
      go_wp2_with fail
      refine (HTT.out.RS _).mono ?_
      rintro e w6 ⟨rfl, b6⟩
      have hb6 := hb5.trans (b6.mono hb5.size)
      clear b6 hb5
      go_wp2_with fail
      refine (CZ.out _).mono ?_
      rintro e w6 ⟨rfl, rfl⟩
      go_wp2_with fail
      refine (CH.out _).mono ?_
      rintro e w7 ⟨rfl, b7⟩
      have hb7 := hb6.trans (b7.mono hb6.size)
      clear b7 hb6
      go_wp2_with fail
      refine (CRH.out _).mono ?_
      rintro e w8 ⟨rfl, b8⟩
      have hb8 := hb7.trans (b8.mono hb7.size)
      clear b8 hb7
      go_wp2
      go_ret
      exact ⟨rfl, hb8⟩
    · have j1 : (a0.size : Int) < 1 := by omega
      have CN : Hid (∀ wx, Calls Tryz.prog 9 #[.string a0] wx fun e w' => e = .returned (.tuple #[.agg zeroBox.toArray, .int .i64 2]) ∧ Below wx.heap.size wx w') := fun wx => sealNew_no a0 (by omega) wx
      obtain ⟨T, OL, OE, HT⟩ := tail_of zeroBox ⟨#[0]⟩ (.inr ⟨rfl, rfl⟩) zeroBox_all (by decide) id n h1 h2 a5 a6 h5 (by omega)
      obtain ⟨Y, hY⟩ : ∃ Y, Y = zeroBox := ⟨_, rfl⟩
      rw [← hY] at CN HT
      clear hY
      have HTT := Lib.hid HT
      have hik := info17c HT.box
      have hTs := HT.size
      have HO : Hid (zeroBox.toArray.size = Y.toArray.size) := by show _ = _; rw [List.size_toArray, List.size_toArray, HZL.out, HT.box]
      clear HT hy
      go_wp2_with fail
      refine (CN.out _).mono ?_
      rintro e w1 ⟨rfl, b1⟩
      have r1 : Row (w1.alloc (.cells Y.toArray 35 (0, 0))) w1.heap.size 35 Y := Row.new' rfl rfl
      have hb1 := (ba.trans (b1.mono ba.size)).alloc (ba.trans (b1.mono ba.size)).size (.cells Y.toArray 35 (0, 0))
      clear b1 ba CN
      go_wp2_with (first
        | refine wpList_store_new rfl 35 (.tmp 19) (.tmp 75) rfl w1 zeroBox.toArray _ _ _ rfl rfl rfl hik HO.out HTT.out.all ?_
        | refine wpList_load_row rfl 35 (.tmp 19) rfl w1.heap.size rfl _ _ _ _ r1 Tryz.underlying35 rfl hik ?_)
      refine (HTT.out.CS _).mono ?_
      rintro e w2 ⟨rfl, b2⟩
      have r2 := r1.below b2 r1.lt
      have hb2 := hb1.trans (b2.mono hb1.size)
      clear b2 r1 hb1
      go_wp2_with (first
        | refine wpList_load_row rfl 35 (.tmp 19) rfl w1.heap.size rfl _ _ _ _ r2 Tryz.underlying35 rfl hik ?_)
      refine (HTT.out.CO _).mono ?_
      rintro e w3 ⟨rfl, b3⟩
      have r3 := r2.below b3 r2.lt
      have hb3 := hb2.trans (b3.mono hb2.size)
      clear b3 r2 hb2
      go_wp2_with (first
        | refine wpList_load_row rfl 35 (.tmp 19) rfl w1.heap.size rfl _ _ _ _ r3 Tryz.underlying35 rfl hik ?_)
      refine (HTT.out.CP _).mono ?_
      rintro e w4 ⟨rfl, b4⟩
      have hb4 := hb3.trans (b4.mono hb3.size)
      clear b4 r3 hb3
      go_wp2_with fail
      refine (HTT.out.RO _).mono ?_
      rintro e w5 ⟨rfl, b5⟩
      have hb5 := hb4.trans (b5.mono hb4.size)
      clear b5 hb4
      go_wp2_with fail
      refine (HTT.out.RS _).mono ?_
      rintro e w6 ⟨rfl, b6⟩
      have hb6 := hb5.trans (b6.mono hb5.size)
      clear b6 hb5
      go_wp2_with fail
      refine (CZ.out _).mono ?_
      rintro e w6 ⟨rfl, rfl⟩
      go_wp2_with fail
      refine (CH.out _).mono ?_
      rintro e w7 ⟨rfl, b7⟩
      have hb7 := hb6.trans (b7.mono hb6.size)
      clear b7 hb6
      go_wp2_with fail
      refine (CRH.out _).mono ?_
      rintro e w8 ⟨rfl, b8⟩
      have hb8 := hb7.trans (b8.mono hb7.size)
      clear b8 hb7
      go_wp2
      go_ret
      exact ⟨rfl, hb8⟩
    · have j1 : ¬ (a0.size : Int) < 1 := by omega
      have j2 : (64 : Int) < a0.size := by omega
      have CN : Hid (∀ wx, Calls Tryz.prog 9 #[.string a0] wx fun e w' => e = .returned (.tuple #[.agg zeroBox.toArray, .int .i64 2]) ∧ Below wx.heap.size wx w') := fun wx => sealNew_no a0 (by omega) wx
      obtain ⟨T, OL, OE, HT⟩ := tail_of zeroBox ⟨#[0]⟩ (.inr ⟨rfl, rfl⟩) zeroBox_all (by decide) id n h1 h2 a5 a6 h5 (by omega)
      obtain ⟨Y, hY⟩ : ∃ Y, Y = zeroBox := ⟨_, rfl⟩
      rw [← hY] at CN HT
      clear hY
      have HTT := Lib.hid HT
      have hik := info17c HT.box
      have hTs := HT.size
      have HO : Hid (zeroBox.toArray.size = Y.toArray.size) := by show _ = _; rw [List.size_toArray, List.size_toArray, HZL.out, HT.box]
      clear HT hy
      go_wp2_with fail
      refine (CN.out _).mono ?_
      rintro e w1 ⟨rfl, b1⟩
      have r1 : Row (w1.alloc (.cells Y.toArray 35 (0, 0))) w1.heap.size 35 Y := Row.new' rfl rfl
      have hb1 := (ba.trans (b1.mono ba.size)).alloc (ba.trans (b1.mono ba.size)).size (.cells Y.toArray 35 (0, 0))
      clear b1 ba CN
      go_wp2_with (first
        | refine wpList_store_new rfl 35 (.tmp 19) (.tmp 75) rfl w1 zeroBox.toArray _ _ _ rfl rfl rfl hik HO.out HTT.out.all ?_
        | refine wpList_load_row rfl 35 (.tmp 19) rfl w1.heap.size rfl _ _ _ _ r1 Tryz.underlying35 rfl hik ?_)
      refine (HTT.out.CS _).mono ?_
      rintro e w2 ⟨rfl, b2⟩
      have r2 := r1.below b2 r1.lt
      have hb2 := hb1.trans (b2.mono hb1.size)
      clear b2 r1 hb1
      go_wp2_with (first
        | refine wpList_load_row rfl 35 (.tmp 19) rfl w1.heap.size rfl _ _ _ _ r2 Tryz.underlying35 rfl hik ?_)
      refine (HTT.out.CO _).mono ?_
      rintro e w3 ⟨rfl, b3⟩
      have r3 := r2.below b3 r2.lt
      have hb3 := hb2.trans (b3.mono hb2.size)
      clear b3 r2 hb2
      go_wp2_with (first
        | refine wpList_load_row rfl 35 (.tmp 19) rfl w1.heap.size rfl _ _ _ _ r3 Tryz.underlying35 rfl hik ?_)
      refine (HTT.out.CP _).mono ?_
      rintro e w4 ⟨rfl, b4⟩
      have hb4 := hb3.trans (b4.mono hb3.size)
      clear b4 r3 hb3
      go_wp2_with fail
      refine (HTT.out.RO _).mono ?_
      rintro e w5 ⟨rfl, b5⟩
      have hb5 := hb4.trans (b5.mono hb4.size)
      clear b5 hb4
      go_wp2_with fail
      refine (HTT.out.RS _).mono ?_
      rintro e w6 ⟨rfl, b6⟩
      have hb6 := hb5.trans (b6.mono hb5.size)
      clear b6 hb5
      go_wp2_with fail
      refine (CZ.out _).mono ?_
      rintro e w6 ⟨rfl, rfl⟩
      go_wp2_with fail
      refine (CH.out _).mono ?_
      rintro e w7 ⟨rfl, b7⟩
      have hb7 := hb6.trans (b7.mono hb6.size)
      clear b7 hb6
      go_wp2_with fail
      refine (CRH.out _).mono ?_
      rintro e w8 ⟨rfl, b8⟩
      have hb8 := hb7.trans (b8.mono hb7.size)
      clear b8 hb7
      go_wp2
      go_ret
      exact ⟨rfl, hb8⟩

set_option maxRecDepth 20000 in
set_option maxHeartbeats 4000000 in
theorem walk (a0 : ByteArray) (a1 a2 a3 : Int) (a4 : Bool) (a5 a6 : ByteArray) (w : World) (w0 : a0.size ≤ maxLen) (w1 : (Lit.int .u64 a1).wf = true) (w2 : (Lit.int .u64 a2).wf = true) (w3 : (Lit.int .u64 a3).wf = true) (w5 : a5.size ≤ maxLen) (w6 : a6.size ≤ maxLen) :
    Calls Tryz.prog 3 #[.string a0, .int .u64 a1, .int .u64 a2, .int .u64 a3, .bool a4, .string a5, .string a6] w fun e w' => e = .returned (.bool true) ∧ Below w.heap.size w w' := by
  obtain ⟨p1, q1⟩ := bounds_u64 w1
  obtain ⟨p2, q2⟩ := bounds_u64 w2
  obtain ⟨p3, q3⟩ := bounds_u64 w3
  by_cases h : a0.size ≤ 70 ∧ a5.size ≤ 100 ∧ a6.size ≤ 100
  · have := core a0 a1.toNat a2.toNat a3.toNat a4 a5 a6 w h.1 h.2.1 h.2.2 (by omega) (by omega) (by omega)
    rw [Int.toNat_of_nonneg p1, Int.toNat_of_nonneg p2, Int.toNat_of_nonneg p3] at this
    exact this
  · have C0 := Lib.hid (awake7_any w)
    clear w0 w1 w2 w3 w5 w6 p1 q1 p2 q2 p3 q3
    go_enter Tryz.func3, Tryz.ntmps3
    go_wp2_with fail
    refine C0.out.mono ?_
    rintro e wa ⟨rfl, ba⟩
    clear C0
    by_cases h1 : (100 : Int) < max (a5.size : Int) (a6.size : Int)
    · clear h
      go_wp2
      go_ret
      exact ⟨rfl, ba⟩
    · have h2 : (70 : Int) < a0.size := by omega
      clear h
      go_wp2
      go_ret
      exact ⟨rfl, ba⟩

end Go.Proofs.YtjkaignfomlflaaGreat.SealBodiesW
