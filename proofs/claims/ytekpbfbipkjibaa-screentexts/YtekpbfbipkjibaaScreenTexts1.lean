/-
  ScreenTexts: a size that may be.
-/
import Derived.Test.YtekpbfbipkjibaaNAwake
import Derived.Test.YtekpbfbipkjibaaNRefT
import Derived.Test.YtekpbfbipkjibaaNRefP
import Derived.Test.YtekpbfbipkjibaaNRefQ
import Derived.Test.YtekpbfbipkjibaaNParse
import Derived.OpenShut
namespace Go.Proofs.Ytekpbfbipkjibaa
open Go.RowKit
set_option linter.unusedVariables false
set_option maxRecDepth 20000
namespace ScreenTextsW

theorem refParse_no (t : ByteArray) (h : 4 ≤ t.size) (hs : t.size ≤ 100000) (wd ht x y : Nat) (e0 : (t[0]'(by omega)).toNat = wd) (e1 : (t[1]'(by omega)).toNat = ht) (e2 : (t[2]'(by omega)).toNat = x) (e3 : (t[3]'(by omega)).toNat = y) (hok : okB wd ht x y (t.data.toList.drop 4) = false) (w : World) :
    Calls Try.prog 19 #[.string t] w fun e w' => e = .returned (.tuple #[.agg #[.int .i64 0, .int .i64 0, .int .i64 0, .int .i64 0, .slice none 0 0], .bool false]) ∧ Below w.heap.size w w' := by
  have hl : t.data.toList.length = t.size := by simp
  by_cases h1 : wd < 1
  · exact refParse_noA t h hs wd ht x y e0 e1 e2 e3 h1 w
  by_cases h2 : 80 < wd
  · exact refParse_noB t h hs wd ht x y e0 e1 e2 e3 h1 h2 w
  by_cases h3 : ht < 1
  · exact refParse_noC t h hs wd ht x y e0 e1 e2 e3 h1 h2 h3 w
  by_cases h4 : 24 < ht
  · exact refParse_noD t h hs wd ht x y e0 e1 e2 e3 h1 h2 h3 h4 w
  by_cases h5 : t.size = 4 + wd * ht
  · by_cases h6 : wd ≤ x
    · exact refParse_noF t h hs wd ht x y e0 e1 e2 e3 h1 h2 h3 h4 h5 h6 w
    by_cases h7 : ht ≤ y
    · exact refParse_noG t h hs wd ht x y e0 e1 e2 e3 h1 h2 h3 h4 h5 h6 h7 w
    · refine refParse_noH t h hs wd ht x y e0 e1 e2 e3 h1 h2 h3 h4 h5 h6 h7 ?_ w
      have hlen : (t.data.toList.drop 4).length = wd * ht := by rw [List.length_drop, hl]; omega
      unfold okB at hok
      rw [hlen] at hok
      simpa [show 1 ≤ wd by omega, show wd ≤ 80 by omega, show 1 ≤ ht by omega, show ht ≤ 24 by omega, show x < wd by omega, show y < ht by omega] using hok
  · exact refParse_noE t h hs wd ht x y e0 e1 e2 e3 h1 h2 h3 h4 h5 w

theorem ofDrop (t : ByteArray) : t.extract 4 t.size = ⟨(t.data.toList.drop 4).toArray⟩ := by
  apply ByteArray.ext
  apply Array.ext'
  rw [drop4]
theorem whole_text (t : ByteArray) (h : 4 ≤ t.size) : (⟨(hd4 (t[0]'(by omega)).toNat (t[1]'(by omega)).toNat (t[2]'(by omega)).toNat (t[3]'(by omega)).toNat ++ t.data.toList.drop 4).toArray⟩ : ByteArray) = t := by
  have hl : t.data.toList.length = t.size := by simp
  have g : ∀ (i : Nat) (h1 : i < t.size) (h2 : i < t.data.toList.length), UInt8.ofNat (t[i]'h1).toNat = t.data.toList[i]'h2 := fun i h1 h2 => by
    rw [show (t[i]'h1) = t.data.toList[i]'h2 from rfl]
    simp
  apply ByteArray.ext
  apply Array.ext'
  unfold hd4
  rw [g 0 _ (by omega), g 1 _ (by omega), g 2 _ (by omega), g 3 _ (by omega)]
  have e : t.data.toList = t.data.toList[0]'(by omega) :: t.data.toList[1]'(by omega) :: t.data.toList[2]'(by omega) :: t.data.toList[3]'(by omega) :: t.data.toList.drop 4 := by
    rw [List.getElem_cons_drop, List.getElem_cons_drop, List.getElem_cons_drop, List.getElem_cons_drop, List.drop_zero]
  exact e.symm

set_option maxHeartbeats 16000000 in
theorem coreSN (wd ht : Nat) (a2 a3 : ByteArray) (w : World) (h1 : 1 ≤ wd) (h2 : wd ≤ 80) (h3 : 1 ≤ ht) (h4 : ht ≤ 24) (ha : a2.size ≤ 2000) (hb : a3.size ≤ 2000) (PN : Hid (∀ wx, Calls Try.prog 16 #[.string a3] wx fun e w' => e = .returned (.tuple #[.agg #[.int .i64 0, .int .i64 0, .int .i64 0, .int .i64 0, .string ⟨#[]⟩], .int .i64 4]) ∧ Below wx.heap.size wx w')) (RN : Hid (∀ wx, Calls Try.prog 19 #[.string a3] wx fun e w' => e = .returned (.tuple #[.agg #[.int .i64 0, .int .i64 0, .int .i64 0, .int .i64 0, .slice none 0 0], .bool false]) ∧ Below wx.heap.size wx w')) :
    Calls Try.prog 4 #[.int .i64 wd, .int .i64 ht, .string a2, .string a3] w fun e w' => e = .returned (.bool true) ∧ Below w.heap.size w w' := by
  have hn19 : wd * ht ≤ 80 * 24 := Nat.mul_le_mul h2 h4
  obtain ⟨B0, hB0⟩ : ∃ B0 : ByteArray, B0 = ⟨(List.replicate (wd * ht) (32 : UInt8)).toArray⟩ := ⟨_, rfl⟩
  have C0 : Hid (∀ wx, Calls Try.prog 10 #[.int .i64 wd, .int .i64 ht] wx fun e w' => e = .returned (.tuple #[.agg #[.int .i64 wd, .int .i64 ht, .int .i64 0, .int .i64 0, .string B0], .int .i64 0]) ∧ Below wx.heap.size wx w') := fun wx => by
    rw [hB0]; exact scrNew_yes wd ht h1 h2 h3 h4 wx
  have OKn : N11.Ok wd ht (N11.new wd ht) := N11.new_ok h1 h3
  have OK := N11.put_ok a2.data.toList OKn
  have CP : Hid (∀ wx, Calls Try.prog 12 #[.agg #[.int .i64 wd, .int .i64 ht, .int .i64 0, .int .i64 0, .string B0], .string a2] wx fun e w' => e = .returned (.agg #[.int .i64 wd, .int .i64 ht, .int .i64 (N11.put wd ht (N11.new wd ht) a2.data.toList).x, .int .i64 (N11.put wd ht (N11.new wd ht) a2.data.toList).y, .string ⟨(N11.put wd ht (N11.new wd ht) a2.data.toList).c.toArray⟩]) ∧ Below wx.heap.size wx w') := fun wx => by
    have := put_any wd ht (N11.new wd ht) a2 wx h2 h4 OKn (by omega)
    rw [hB0]; exact this
  have CRN : Hid (∀ wx, Calls Try.prog 14 #[.int .i64 wd, .int .i64 ht] wx fun e w' => ∃ gq cap, e = .returned (.agg #[.int .i64 wd, .int .i64 ht, .int .i64 0, .int .i64 0, .slice (some ⟨gq, 0, none⟩) ht cap]) ∧ w'.ownsRow wx.heap.size 9 1 (.slice (some ⟨gq, 0, none⟩) ht cap) ht (txt (N11.rows wd ht (List.replicate (wd * ht) 32))) ∧ Below wx.heap.size wx w') := fun wx => by
    rw [N11.rows_new]; exact refNew_any wd ht h1 h2 h3 h4 wx
  obtain ⟨x, y, c, hst⟩ : ∃ x y c, N11.put wd ht (N11.new wd ht) a2.data.toList = ⟨x, y, c⟩ := ⟨_, _, _, rfl⟩
  have CRP : Hid (∀ (gn capn : Nat) wx, wx.ownsRow 0 9 1 (.slice (some ⟨gn, 0, none⟩) ht capn) ht (txt (N11.rows wd ht (List.replicate (wd * ht) 32))) → Calls Try.prog 13 #[.agg #[.int .i64 wd, .int .i64 ht, .int .i64 0, .int .i64 0, .slice (some ⟨gn, 0, none⟩) ht capn], .string a2] wx fun e w' => ∃ gq cap, e = .returned (.agg #[.int .i64 wd, .int .i64 ht, .int .i64 x, .int .i64 y, .slice (some ⟨gq, 0, none⟩) ht cap]) ∧ w'.ownsRow 0 9 1 (.slice (some ⟨gq, 0, none⟩) ht cap) ht (txt (N11.rows wd ht c)) ∧ Below wx.heap.size wx w') := fun gn capn wx hx => by
    have := refPut_any wd ht (N11.new wd ht) a2 wx gn capn h1 h2 h3 h4 OKn (by omega) hx
    rw [hst] at this
    exact this
  rw [hst] at CP OK
  have hxw : x < wd := OK.x
  have hyh : y < ht := OK.y
  have hcl : c.length = wd * ht := OK.c
  obtain ⟨C1, hC1⟩ : ∃ C1 : ByteArray, C1 = ⟨c.toArray⟩ := ⟨_, rfl⟩
  rw [← hC1] at CP
  obtain ⟨TX, hTX⟩ : ∃ TX : ByteArray, TX = ⟨(hd4 wd ht x y ++ c).toArray⟩ := ⟨_, rfl⟩
  have hTl : TX.data.toList = hd4 wd ht x y ++ c := by rw [hTX]
  have hTs : TX.size = 4 + wd * ht := by rw [hTX]; show (hd4 wd ht x y ++ c).toArray.size = _; simp [hd4]; omega
  have CT : Hid (∀ wx, Calls Try.prog 17 #[.agg #[.int .i64 wd, .int .i64 ht, .int .i64 x, .int .i64 y, .string C1]] wx fun e w' => e = .returned (.string TX) ∧ Below wx.heap.size wx w') := fun wx => by
    rw [hC1, hTX]; exact text_any wd ht x y c wx (by omega) (by omega) (by omega) (by omega) (by omega)
  have CRT : Hid (∀ (gq cap : Nat) wx, wx.ownsRow 0 9 1 (.slice (some ⟨gq, 0, none⟩) ht cap) ht (txt (N11.rows wd ht c)) → Calls Try.prog 18 #[.agg #[.int .i64 wd, .int .i64 ht, .int .i64 x, .int .i64 y, .slice (some ⟨gq, 0, none⟩) ht cap]] wx fun e w' => e = .returned (.string TX) ∧ Below wx.heap.size wx w') := fun gq cap wx hx => by
    rw [hTX]; exact refText_any wd ht x y gq cap c wx h2 h4 (by omega) (by omega) hcl hx
  have hdrop : TX.data.toList.drop 4 = c := by rw [hTl]; rfl
  have CPT : Hid (∀ wx, Calls Try.prog 16 #[.string TX] wx fun e w' => e = .returned (.tuple #[.agg #[.int .i64 wd, .int .i64 ht, .int .i64 x, .int .i64 y, .string C1], .int .i64 0]) ∧ Below wx.heap.size wx w') := fun wx => by
    have hb : ∀ (i n : Nat) (h1 : i < TX.size), n < 256 → (hd4 wd ht x y ++ c)[i]? = some (UInt8.ofNat n) → (TX[i]'h1).toNat = n := fun i n h1 hn hi => by
      have h2' : i < TX.data.toList.length := by simpa using h1
      have e1 : TX.data.toList[i]? = some (UInt8.ofNat n) := by rw [hTl]; exact hi
      rw [List.getElem?_eq_getElem h2'] at e1
      have e2 := Option.some.inj e1
      rw [show (TX[i]'h1) = TX.data.toList[i]'h2' from rfl, e2, UInt8.toNat_ofNat']
      omega
    have := parse_yes TX (by omega) (by omega) wd ht x y (hb 0 wd (by omega) (by omega) rfl) (hb 1 ht (by omega) (by omega) rfl) (hb 2 x (by omega) (by omega) rfl) (hb 3 y (by omega) (by omega) rfl) (by rw [hdrop]; exact okB_ok.2 ⟨h2, h4, h1, h3, OK⟩) wx
    rw [ofDrop, hdrop, ← hC1] at this
    exact this
  have s1 : ¬ (2000 : Int) < (a2.size : Int) := by omega
  have s2 : ¬ (2000 : Int) < (a3.size : Int) := by omega
  clear hn19 hB0 OKn OK hst hxw hyh hcl hC1 hTX hTl hTs hdrop
  go_enter Try.func4, Try.ntmps4
  go_wp2_with fail
  refine (awake11_any _).mono ?_
  rintro e wa ⟨rfl, bl⟩
  go_wp2_with fail
  refine (C0.out _).mono ?_
  rintro e w1 ⟨rfl, b1⟩
  have bl := bl.trans (b1.mono bl.size)
  have hgs := bl.size
  clear b1
  have r9 : Row (w1.alloc (.cells #[.int .i64 wd, .int .i64 ht, .int .i64 0, .int .i64 0, .string B0] 25 (0, 0))) w1.heap.size 25 [.int .i64 wd, .int .i64 ht, .int .i64 0, .int .i64 0, .string B0] := Row.new' rfl rfl
  have bl := bl.alloc bl.size (.cells #[.int .i64 wd, .int .i64 ht, .int .i64 0, .int .i64 0, .string B0] 25 (0, 0))
  go_wp2_with fail
  have hg : w.heap.size ≤ w1.heap.size := hgs
  generalize w1.heap.size = g at *
  generalize w1.alloc (.cells #[.int .i64 wd, .int .i64 ht, .int .i64 0, .int .i64 0, .string B0] 25 (0, 0)) = w2 at *
  refine (CP.out _).mono ?_
  rintro e w3 ⟨rfl, b3⟩
  have r9 := r9.below b3 r9.lt
  have hgl : w.heap.size ≤ g := hg
  have bl := bl.trans (b3.mono bl.size)
  have r9b := r9.setRow [.int .i64 wd, .int .i64 ht, .int .i64 x, .int .i64 y, .string C1]
  have blb := below_row bl hgl (List.toArray [.int .i64 wd, .int .i64 ht, .int .i64 x, .int .i64 y, .string C1])
  clear b3 bl
  go_wp2_with (first | refine wpList_store_row rfl 25 (.tmp 9) (.tmp 37) rfl g _ rfl rfl _ _ r9 infoScr rfl (by simp [Value.oneCell']) ?_ | refine wpList_rowG (by rfl) 25 (.tmp 9) rfl g rfl _ _ _ r9b Try.underlying25 rfl infoScr ?_)
  generalize w3.setRow g (List.toArray [.int .i64 wd, .int .i64 ht, .int .i64 x, .int .i64 y, .string C1]) = w4 at *
  refine (CT.out _).mono ?_
  rintro e w5 ⟨rfl, b5⟩
  have r9 := r9b.below b5 r9b.lt
  have bl := blb.trans (b5.mono blb.size)
  clear b5 r9b blb
  go_wp2_with fail
  refine (CPT.out _).mono ?_
  rintro e w6 ⟨rfl, b6⟩
  have r9 := r9.below b6 r9.lt
  have bl := bl.trans (b6.mono bl.size)
  clear b6
  have r9 := r9.alloc (.cells #[.int .i64 wd, .int .i64 ht, .int .i64 x, .int .i64 y, .string C1] 25 (0, 0))
  have r11 : Row (w6.alloc (.cells #[.int .i64 wd, .int .i64 ht, .int .i64 x, .int .i64 y, .string C1] 25 (0, 0))) w6.heap.size 25 [.int .i64 wd, .int .i64 ht, .int .i64 x, .int .i64 y, .string C1] := Row.new' rfl rfl
  have bl := bl.alloc bl.size (.cells #[.int .i64 wd, .int .i64 ht, .int .i64 x, .int .i64 y, .string C1] 25 (0, 0))
  go_wp2_with (first | refine wpList_rowG (by rfl) 25 (.tmp 11) rfl w6.heap.size rfl _ _ _ r11 Try.underlying25 rfl infoScr ?_ | refine wpList_rowG (by rfl) 25 (.tmp 9) rfl g rfl _ _ _ r9 Try.underlying25 rfl infoScr ?_)
  refine (same_yes _ _ _ _ _ _).mono ?_
  rintro e w8 ⟨rfl, b8⟩
  have r9 := r9.below b8 r9.lt
  have bl := bl.trans (b8.mono bl.size)
  clear b8 r11
  go_wp2_with (first | refine wpList_rowG (by rfl) 25 (.tmp 9) rfl g rfl _ _ _ r9 Try.underlying25 rfl infoScr ?_)
  refine (CT.out _).mono ?_
  rintro e w9 ⟨rfl, b9⟩
  have bl := bl.trans (b9.mono bl.size)
  clear b9 r9
  go_wp2_with fail
  refine (CRN.out _).mono ?_
  rintro e w10 ⟨gn, capn, rfl, hoN, b10⟩
  have bl := bl.trans (b10.mono bl.size)
  have hoN := own_monoN hoN (Nat.zero_le _)
  clear b10
  go_wp2_with fail
  refine (CRP.out gn capn _ (by exact hoN)).mono ?_
  rintro e w11 ⟨gq, cap, rfl, hoQ, b11⟩
  have bl := bl.trans (b11.mono bl.size)
  clear b11 hoN
  go_wp2_with fail
  refine (CRT.out gq cap _ (by exact hoQ)).mono ?_
  rintro e w12 ⟨rfl, b12⟩
  have bl := bl.trans (b12.mono bl.size)
  clear b12 hoQ
  go_wp2_with fail
  refine (PN.out _).mono ?_
  rintro e u1 ⟨rfl, b1⟩
  have bl := bl.trans (b1.mono bl.size)
  clear b1
  have r13 : Row (u1.alloc (.cells #[.int .i64 0, .int .i64 0, .int .i64 0, .int .i64 0, .string ⟨#[]⟩] 25 (0, 0))) u1.heap.size 25 [.int .i64 0, .int .i64 0, .int .i64 0, .int .i64 0, .string ⟨#[]⟩] := Row.new' rfl rfl
  have bl := bl.alloc bl.size (.cells #[.int .i64 0, .int .i64 0, .int .i64 0, .int .i64 0, .string ⟨#[]⟩] 25 (0, 0))
  go_wp2_with fail
  generalize hu2 : u1.alloc (.cells #[.int .i64 0, .int .i64 0, .int .i64 0, .int .i64 0, .string ⟨#[]⟩] 25 (0, 0)) = u2 at *
  generalize hg13 : u1.heap.size = g13 at *
  clear hu2 hg13
  refine (RN.out _).mono ?_
  rintro e u3 ⟨rfl, b3⟩
  have r13 := (r13.below b3 r13.lt).alloc (.cells #[.int .i64 0, .int .i64 0, .int .i64 0, .int .i64 0, .slice none 0 0] 33 (0, 0))
  have bl := bl.trans (b3.mono bl.size)
  have bl := bl.alloc bl.size (.cells #[.int .i64 0, .int .i64 0, .int .i64 0, .int .i64 0, .slice none 0 0] 33 (0, 0))
  clear b3
  go_wp2_with (first | refine wpList_rowG (by rfl) 25 (.tmp 13) rfl g13 rfl _ _ _ r13 Try.underlying25 rfl infoScr ?_)
  refine (same_yes _ _ _ _ _ _).mono ?_
  rintro e u4 ⟨rfl, b4⟩
  have bl := bl.trans (b4.mono bl.size)
  clear b4 r13
  go_wp2
  go_ret
  exact ⟨rfl, bl⟩

set_option maxHeartbeats 16000000 in
theorem coreSY (wd ht : Nat) (a2 a3 : ByteArray) (w : World) (h1 : 1 ≤ wd) (h2 : wd ≤ 80) (h3 : 1 ≤ ht) (h4 : ht ≤ 24) (ha : a2.size ≤ 2000) (hb : a3.size ≤ 2000) (wp hp xp yp : Nat) (CP1 : ByteArray) (cp : List UInt8) (PY : Hid (∀ wx, Calls Try.prog 16 #[.string a3] wx fun e w' => e = .returned (.tuple #[.agg #[.int .i64 wp, .int .i64 hp, .int .i64 xp, .int .i64 yp, .string CP1], .int .i64 0]) ∧ Below wx.heap.size wx w')) (RY : Hid (∀ wx, Calls Try.prog 19 #[.string a3] wx fun e w' => ∃ gp capp, e = .returned (.tuple #[.agg #[.int .i64 wp, .int .i64 hp, .int .i64 xp, .int .i64 yp, .slice (some ⟨gp, 0, none⟩) hp capp], .bool true]) ∧ w'.ownsRow 0 9 1 (.slice (some ⟨gp, 0, none⟩) hp capp) hp (txt (N11.rows wp hp cp)) ∧ Below wx.heap.size wx w')) (IY : Hid (∀ (gp capp : Nat) wx, wx.ownsRow 0 9 1 (.slice (some ⟨gp, 0, none⟩) hp capp) hp (txt (N11.rows wp hp cp)) → Calls Try.prog 15 #[.agg #[.int .i64 wp, .int .i64 hp, .int .i64 xp, .int .i64 yp, .string CP1], .agg #[.int .i64 wp, .int .i64 hp, .int .i64 xp, .int .i64 yp, .slice (some ⟨gp, 0, none⟩) hp capp]] wx fun e w' => e = .returned (.bool true) ∧ Below wx.heap.size wx w')) (TY : Hid (∀ wx, Calls Try.prog 17 #[.agg #[.int .i64 wp, .int .i64 hp, .int .i64 xp, .int .i64 yp, .string CP1]] wx fun e w' => e = .returned (.string a3) ∧ Below wx.heap.size wx w')) :
    Calls Try.prog 4 #[.int .i64 wd, .int .i64 ht, .string a2, .string a3] w fun e w' => e = .returned (.bool true) ∧ Below w.heap.size w w' := by
  have hn19 : wd * ht ≤ 80 * 24 := Nat.mul_le_mul h2 h4
  obtain ⟨B0, hB0⟩ : ∃ B0 : ByteArray, B0 = ⟨(List.replicate (wd * ht) (32 : UInt8)).toArray⟩ := ⟨_, rfl⟩
  have C0 : Hid (∀ wx, Calls Try.prog 10 #[.int .i64 wd, .int .i64 ht] wx fun e w' => e = .returned (.tuple #[.agg #[.int .i64 wd, .int .i64 ht, .int .i64 0, .int .i64 0, .string B0], .int .i64 0]) ∧ Below wx.heap.size wx w') := fun wx => by
    rw [hB0]; exact scrNew_yes wd ht h1 h2 h3 h4 wx
  have OKn : N11.Ok wd ht (N11.new wd ht) := N11.new_ok h1 h3
  have OK := N11.put_ok a2.data.toList OKn
  have CP : Hid (∀ wx, Calls Try.prog 12 #[.agg #[.int .i64 wd, .int .i64 ht, .int .i64 0, .int .i64 0, .string B0], .string a2] wx fun e w' => e = .returned (.agg #[.int .i64 wd, .int .i64 ht, .int .i64 (N11.put wd ht (N11.new wd ht) a2.data.toList).x, .int .i64 (N11.put wd ht (N11.new wd ht) a2.data.toList).y, .string ⟨(N11.put wd ht (N11.new wd ht) a2.data.toList).c.toArray⟩]) ∧ Below wx.heap.size wx w') := fun wx => by
    have := put_any wd ht (N11.new wd ht) a2 wx h2 h4 OKn (by omega)
    rw [hB0]; exact this
  have CRN : Hid (∀ wx, Calls Try.prog 14 #[.int .i64 wd, .int .i64 ht] wx fun e w' => ∃ gq cap, e = .returned (.agg #[.int .i64 wd, .int .i64 ht, .int .i64 0, .int .i64 0, .slice (some ⟨gq, 0, none⟩) ht cap]) ∧ w'.ownsRow wx.heap.size 9 1 (.slice (some ⟨gq, 0, none⟩) ht cap) ht (txt (N11.rows wd ht (List.replicate (wd * ht) 32))) ∧ Below wx.heap.size wx w') := fun wx => by
    rw [N11.rows_new]; exact refNew_any wd ht h1 h2 h3 h4 wx
  obtain ⟨x, y, c, hst⟩ : ∃ x y c, N11.put wd ht (N11.new wd ht) a2.data.toList = ⟨x, y, c⟩ := ⟨_, _, _, rfl⟩
  have CRP : Hid (∀ (gn capn : Nat) wx, wx.ownsRow 0 9 1 (.slice (some ⟨gn, 0, none⟩) ht capn) ht (txt (N11.rows wd ht (List.replicate (wd * ht) 32))) → Calls Try.prog 13 #[.agg #[.int .i64 wd, .int .i64 ht, .int .i64 0, .int .i64 0, .slice (some ⟨gn, 0, none⟩) ht capn], .string a2] wx fun e w' => ∃ gq cap, e = .returned (.agg #[.int .i64 wd, .int .i64 ht, .int .i64 x, .int .i64 y, .slice (some ⟨gq, 0, none⟩) ht cap]) ∧ w'.ownsRow 0 9 1 (.slice (some ⟨gq, 0, none⟩) ht cap) ht (txt (N11.rows wd ht c)) ∧ Below wx.heap.size wx w') := fun gn capn wx hx => by
    have := refPut_any wd ht (N11.new wd ht) a2 wx gn capn h1 h2 h3 h4 OKn (by omega) hx
    rw [hst] at this
    exact this
  rw [hst] at CP OK
  have hxw : x < wd := OK.x
  have hyh : y < ht := OK.y
  have hcl : c.length = wd * ht := OK.c
  obtain ⟨C1, hC1⟩ : ∃ C1 : ByteArray, C1 = ⟨c.toArray⟩ := ⟨_, rfl⟩
  rw [← hC1] at CP
  obtain ⟨TX, hTX⟩ : ∃ TX : ByteArray, TX = ⟨(hd4 wd ht x y ++ c).toArray⟩ := ⟨_, rfl⟩
  have hTl : TX.data.toList = hd4 wd ht x y ++ c := by rw [hTX]
  have hTs : TX.size = 4 + wd * ht := by rw [hTX]; show (hd4 wd ht x y ++ c).toArray.size = _; simp [hd4]; omega
  have CT : Hid (∀ wx, Calls Try.prog 17 #[.agg #[.int .i64 wd, .int .i64 ht, .int .i64 x, .int .i64 y, .string C1]] wx fun e w' => e = .returned (.string TX) ∧ Below wx.heap.size wx w') := fun wx => by
    rw [hC1, hTX]; exact text_any wd ht x y c wx (by omega) (by omega) (by omega) (by omega) (by omega)
  have CRT : Hid (∀ (gq cap : Nat) wx, wx.ownsRow 0 9 1 (.slice (some ⟨gq, 0, none⟩) ht cap) ht (txt (N11.rows wd ht c)) → Calls Try.prog 18 #[.agg #[.int .i64 wd, .int .i64 ht, .int .i64 x, .int .i64 y, .slice (some ⟨gq, 0, none⟩) ht cap]] wx fun e w' => e = .returned (.string TX) ∧ Below wx.heap.size wx w') := fun gq cap wx hx => by
    rw [hTX]; exact refText_any wd ht x y gq cap c wx h2 h4 (by omega) (by omega) hcl hx
  have hdrop : TX.data.toList.drop 4 = c := by rw [hTl]; rfl
  have CPT : Hid (∀ wx, Calls Try.prog 16 #[.string TX] wx fun e w' => e = .returned (.tuple #[.agg #[.int .i64 wd, .int .i64 ht, .int .i64 x, .int .i64 y, .string C1], .int .i64 0]) ∧ Below wx.heap.size wx w') := fun wx => by
    have hb : ∀ (i n : Nat) (h1 : i < TX.size), n < 256 → (hd4 wd ht x y ++ c)[i]? = some (UInt8.ofNat n) → (TX[i]'h1).toNat = n := fun i n h1 hn hi => by
      have h2' : i < TX.data.toList.length := by simpa using h1
      have e1 : TX.data.toList[i]? = some (UInt8.ofNat n) := by rw [hTl]; exact hi
      rw [List.getElem?_eq_getElem h2'] at e1
      have e2 := Option.some.inj e1
      rw [show (TX[i]'h1) = TX.data.toList[i]'h2' from rfl, e2, UInt8.toNat_ofNat']
      omega
    have := parse_yes TX (by omega) (by omega) wd ht x y (hb 0 wd (by omega) (by omega) rfl) (hb 1 ht (by omega) (by omega) rfl) (hb 2 x (by omega) (by omega) rfl) (hb 3 y (by omega) (by omega) rfl) (by rw [hdrop]; exact okB_ok.2 ⟨h2, h4, h1, h3, OK⟩) wx
    rw [ofDrop, hdrop, ← hC1] at this
    exact this
  have s1 : ¬ (2000 : Int) < (a2.size : Int) := by omega
  have s2 : ¬ (2000 : Int) < (a3.size : Int) := by omega
  clear hn19 hB0 OKn OK hst hxw hyh hcl hC1 hTX hTl hTs hdrop
  go_enter Try.func4, Try.ntmps4
  go_wp2_with fail
  refine (awake11_any _).mono ?_
  rintro e wa ⟨rfl, bl⟩
  go_wp2_with fail
  refine (C0.out _).mono ?_
  rintro e w1 ⟨rfl, b1⟩
  have bl := bl.trans (b1.mono bl.size)
  have hgs := bl.size
  clear b1
  have r9 : Row (w1.alloc (.cells #[.int .i64 wd, .int .i64 ht, .int .i64 0, .int .i64 0, .string B0] 25 (0, 0))) w1.heap.size 25 [.int .i64 wd, .int .i64 ht, .int .i64 0, .int .i64 0, .string B0] := Row.new' rfl rfl
  have bl := bl.alloc bl.size (.cells #[.int .i64 wd, .int .i64 ht, .int .i64 0, .int .i64 0, .string B0] 25 (0, 0))
  go_wp2_with fail
  have hg : w.heap.size ≤ w1.heap.size := hgs
  generalize w1.heap.size = g at *
  generalize w1.alloc (.cells #[.int .i64 wd, .int .i64 ht, .int .i64 0, .int .i64 0, .string B0] 25 (0, 0)) = w2 at *
  refine (CP.out _).mono ?_
  rintro e w3 ⟨rfl, b3⟩
  have r9 := r9.below b3 r9.lt
  have hgl : w.heap.size ≤ g := hg
  have bl := bl.trans (b3.mono bl.size)
  have r9b := r9.setRow [.int .i64 wd, .int .i64 ht, .int .i64 x, .int .i64 y, .string C1]
  have blb := below_row bl hgl (List.toArray [.int .i64 wd, .int .i64 ht, .int .i64 x, .int .i64 y, .string C1])
  clear b3 bl
  go_wp2_with (first | refine wpList_store_row rfl 25 (.tmp 9) (.tmp 37) rfl g _ rfl rfl _ _ r9 infoScr rfl (by simp [Value.oneCell']) ?_ | refine wpList_rowG (by rfl) 25 (.tmp 9) rfl g rfl _ _ _ r9b Try.underlying25 rfl infoScr ?_)
  generalize w3.setRow g (List.toArray [.int .i64 wd, .int .i64 ht, .int .i64 x, .int .i64 y, .string C1]) = w4 at *
  refine (CT.out _).mono ?_
  rintro e w5 ⟨rfl, b5⟩
  have r9 := r9b.below b5 r9b.lt
  have bl := blb.trans (b5.mono blb.size)
  clear b5 r9b blb
  go_wp2_with fail
  refine (CPT.out _).mono ?_
  rintro e w6 ⟨rfl, b6⟩
  have r9 := r9.below b6 r9.lt
  have bl := bl.trans (b6.mono bl.size)
  clear b6
  have r9 := r9.alloc (.cells #[.int .i64 wd, .int .i64 ht, .int .i64 x, .int .i64 y, .string C1] 25 (0, 0))
  have r11 : Row (w6.alloc (.cells #[.int .i64 wd, .int .i64 ht, .int .i64 x, .int .i64 y, .string C1] 25 (0, 0))) w6.heap.size 25 [.int .i64 wd, .int .i64 ht, .int .i64 x, .int .i64 y, .string C1] := Row.new' rfl rfl
  have bl := bl.alloc bl.size (.cells #[.int .i64 wd, .int .i64 ht, .int .i64 x, .int .i64 y, .string C1] 25 (0, 0))
  go_wp2_with (first | refine wpList_rowG (by rfl) 25 (.tmp 11) rfl w6.heap.size rfl _ _ _ r11 Try.underlying25 rfl infoScr ?_ | refine wpList_rowG (by rfl) 25 (.tmp 9) rfl g rfl _ _ _ r9 Try.underlying25 rfl infoScr ?_)
  refine (same_yes _ _ _ _ _ _).mono ?_
  rintro e w8 ⟨rfl, b8⟩
  have r9 := r9.below b8 r9.lt
  have bl := bl.trans (b8.mono bl.size)
  clear b8 r11
  go_wp2_with (first | refine wpList_rowG (by rfl) 25 (.tmp 9) rfl g rfl _ _ _ r9 Try.underlying25 rfl infoScr ?_)
  refine (CT.out _).mono ?_
  rintro e w9 ⟨rfl, b9⟩
  have bl := bl.trans (b9.mono bl.size)
  clear b9 r9
  go_wp2_with fail
  refine (CRN.out _).mono ?_
  rintro e w10 ⟨gn, capn, rfl, hoN, b10⟩
  have bl := bl.trans (b10.mono bl.size)
  have hoN := own_monoN hoN (Nat.zero_le _)
  clear b10
  go_wp2_with fail
  refine (CRP.out gn capn _ (by exact hoN)).mono ?_
  rintro e w11 ⟨gq, cap, rfl, hoQ, b11⟩
  have bl := bl.trans (b11.mono bl.size)
  clear b11 hoN
  go_wp2_with fail
  refine (CRT.out gq cap _ (by exact hoQ)).mono ?_
  rintro e w12 ⟨rfl, b12⟩
  have bl := bl.trans (b12.mono bl.size)
  clear b12 hoQ
  go_wp2_with fail
  refine (PY.out _).mono ?_
  rintro e u1 ⟨rfl, b1⟩
  have bl := bl.trans (b1.mono bl.size)
  clear b1
  have r13 : Row (u1.alloc (.cells #[.int .i64 wp, .int .i64 hp, .int .i64 xp, .int .i64 yp, .string CP1] 25 (0, 0))) u1.heap.size 25 [.int .i64 wp, .int .i64 hp, .int .i64 xp, .int .i64 yp, .string CP1] := Row.new' rfl rfl
  have bl := bl.alloc bl.size (.cells #[.int .i64 wp, .int .i64 hp, .int .i64 xp, .int .i64 yp, .string CP1] 25 (0, 0))
  go_wp2_with fail
  generalize hu2 : u1.alloc (.cells #[.int .i64 wp, .int .i64 hp, .int .i64 xp, .int .i64 yp, .string CP1] 25 (0, 0)) = u2 at *
  generalize hg13 : u1.heap.size = g13 at *
  clear hu2 hg13
  refine (RY.out _).mono ?_
  rintro e u3 ⟨gp, capp, rfl, hoP, b3⟩
  have r13 := (r13.below b3 r13.lt).alloc (.cells #[.int .i64 wp, .int .i64 hp, .int .i64 xp, .int .i64 yp, .slice (some ⟨gp, 0, none⟩) hp capp] 33 (0, 0))
  have bl := bl.trans (b3.mono bl.size)
  have hoP := hoP.alloc (.cells #[.int .i64 wp, .int .i64 hp, .int .i64 xp, .int .i64 yp, .slice (some ⟨gp, 0, none⟩) hp capp] 33 (0, 0))
  clear b3
  have r15 : Row (u3.alloc (.cells #[.int .i64 wp, .int .i64 hp, .int .i64 xp, .int .i64 yp, .slice (some ⟨gp, 0, none⟩) hp capp] 33 (0, 0))) u3.heap.size 33 [.int .i64 wp, .int .i64 hp, .int .i64 xp, .int .i64 yp, .slice (some ⟨gp, 0, none⟩) hp capp] := Row.new' rfl rfl
  have bl := bl.alloc bl.size (.cells #[.int .i64 wp, .int .i64 hp, .int .i64 xp, .int .i64 yp, .slice (some ⟨gp, 0, none⟩) hp capp] 33 (0, 0))
  go_wp2_with (first | refine wpList_rowG (by rfl) 25 (.tmp 13) rfl g13 rfl _ _ _ r13 Try.underlying25 rfl infoScr ?_ | refine wpList_rowG (by rfl) 33 (.tmp 15) rfl u3.heap.size rfl _ _ _ r15 Try.underlying33 rfl infoRS ?_)
  refine (IY.out gp capp _ (by exact hoP)).mono ?_
  rintro e u4 ⟨rfl, b4⟩
  have r13 := r13.below b4 r13.lt
  have bl := bl.trans (b4.mono bl.size)
  clear b4 hoP r15
  go_wp2_with (first | refine wpList_rowG (by rfl) 25 (.tmp 13) rfl g13 rfl _ _ _ r13 Try.underlying25 rfl infoScr ?_)
  refine (TY.out _).mono ?_
  rintro e u5 ⟨rfl, b5⟩
  have bl := bl.trans (b5.mono bl.size)
  clear b5 r13
  go_wp2
  go_ret
  exact ⟨rfl, bl⟩

end ScreenTextsW
end Go.Proofs.Ytekpbfbipkjibaa
