/-
  ScreenTexts: the walk.
-/
import Derived.Test.YtekpbfbipkjibaaNAwake
import Derived.Test.YtekpbfbipkjibaaNRefT
import Derived.Test.YtekpbfbipkjibaaNRefP
import Derived.Test.YtekpbfbipkjibaaNRefQ
import Derived.Test.YtekpbfbipkjibaaNParse
import Derived.Test.YtekpbfbipkjibaaScreenTexts1
import Derived.OpenShut
namespace Go.Proofs.Ytekpbfbipkjibaa
open Go.RowKit
set_option linter.unusedVariables false
set_option maxRecDepth 20000
namespace ScreenTextsW

theorem refYes (t : ByteArray) (h : 4 ≤ t.size) (hs : t.size ≤ 100000) (hok : okB (t[0]'(by omega)).toNat (t[1]'(by omega)).toNat (t[2]'(by omega)).toNat (t[3]'(by omega)).toNat (t.data.toList.drop 4) = true) (w : World) :
    Calls Try.prog 19 #[.string t] w fun e w' => ∃ gp capp, e = .returned (.tuple #[.agg #[.int .i64 (t[0]'(by omega)).toNat, .int .i64 (t[1]'(by omega)).toNat, .int .i64 (t[2]'(by omega)).toNat, .int .i64 (t[3]'(by omega)).toNat, .slice (some ⟨gp, 0, none⟩) (t[1]'(by omega)).toNat capp], .bool true]) ∧ w'.ownsRow 0 9 1 (.slice (some ⟨gp, 0, none⟩) (t[1]'(by omega)).toNat capp) (t[1]'(by omega)).toNat (txt (N11.rows (t[0]'(by omega)).toNat (t[1]'(by omega)).toNat (t.data.toList.drop 4))) ∧ Below w.heap.size w w' := by
  obtain ⟨k1, k2, k3, k4, ko⟩ := okB_ok.1 hok
  have kx : (t[2]'(by omega)).toNat < (t[0]'(by omega)).toNat := ko.x
  have ky : (t[3]'(by omega)).toNat < (t[1]'(by omega)).toNat := ko.y
  have kc : (t.data.toList.drop 4).length = (t[0]'(by omega)).toNat * (t[1]'(by omega)).toNat := ko.c
  have hl : t.data.toList.length = t.size := by simp
  rw [List.length_drop, hl] at kc
  exact refParse_yes t h hs _ _ _ _ rfl rfl rfl rfl (by omega) (by omega) (by omega) (by omega) (by omega) (by omega) (by omega) (List.all_eq_true.2 ko.s) w
theorem isYes (t : ByteArray) (h : 4 ≤ t.size) (hok : okB (t[0]'(by omega)).toNat (t[1]'(by omega)).toNat (t[2]'(by omega)).toNat (t[3]'(by omega)).toNat (t.data.toList.drop 4) = true) (gp capp : Nat) (w : World) (ho : w.ownsRow 0 9 1 (.slice (some ⟨gp, 0, none⟩) (t[1]'(by omega)).toNat capp) (t[1]'(by omega)).toNat (txt (N11.rows (t[0]'(by omega)).toNat (t[1]'(by omega)).toNat (t.data.toList.drop 4)))) :
    Calls Try.prog 15 #[.agg #[.int .i64 (t[0]'(by omega)).toNat, .int .i64 (t[1]'(by omega)).toNat, .int .i64 (t[2]'(by omega)).toNat, .int .i64 (t[3]'(by omega)).toNat, .string (t.extract 4 t.size)], .agg #[.int .i64 (t[0]'(by omega)).toNat, .int .i64 (t[1]'(by omega)).toNat, .int .i64 (t[2]'(by omega)).toNat, .int .i64 (t[3]'(by omega)).toNat, .slice (some ⟨gp, 0, none⟩) (t[1]'(by omega)).toNat capp]] w fun e w' => e = .returned (.bool true) ∧ Below w.heap.size w w' := by
  obtain ⟨k1, k2, k3, k4, ko⟩ := okB_ok.1 hok
  rw [ofDrop]
  exact is_any _ _ _ _ gp capp _ w k1 k4 k2 ko.c ho
theorem textYes (t : ByteArray) (h : 4 ≤ t.size) (hok : okB (t[0]'(by omega)).toNat (t[1]'(by omega)).toNat (t[2]'(by omega)).toNat (t[3]'(by omega)).toNat (t.data.toList.drop 4) = true) (w : World) :
    Calls Try.prog 17 #[.agg #[.int .i64 (t[0]'(by omega)).toNat, .int .i64 (t[1]'(by omega)).toNat, .int .i64 (t[2]'(by omega)).toNat, .int .i64 (t[3]'(by omega)).toNat, .string (t.extract 4 t.size)]] w fun e w' => e = .returned (.string t) ∧ Below w.heap.size w w' := by
  obtain ⟨k1, k2, k3, k4, ko⟩ := okB_ok.1 hok
  have kc : (t.data.toList.drop 4).length = (t[0]'(by omega)).toNat * (t[1]'(by omega)).toNat := ko.c
  have hn : (t[0]'(by omega)).toNat * (t[1]'(by omega)).toNat ≤ 80 * 24 := Nat.mul_le_mul k1 k2
  have := text_any (t[0]'(by omega)).toNat (t[1]'(by omega)).toNat (t[2]'(by omega)).toNat (t[3]'(by omega)).toNat (t.data.toList.drop 4) w (UInt8.toNat_lt _) (UInt8.toNat_lt _) (UInt8.toNat_lt _) (UInt8.toNat_lt _) (by omega)
  rw [whole_text t h] at this
  rw [ofDrop]
  exact this

set_option maxHeartbeats 16000000 in
theorem coreUN (a0 a1 : Int) (a2 a3 : ByteArray) (w : World) (hu : (decide (1 ≤ a0) && decide (a0 ≤ 80) && decide (1 ≤ a1) && decide (a1 ≤ 24)) = false) (ha : a2.size ≤ 2000) (hb : a3.size ≤ 2000) (PN : Hid (∀ wx, Calls Try.prog 16 #[.string a3] wx fun e w' => e = .returned (.tuple #[.agg #[.int .i64 0, .int .i64 0, .int .i64 0, .int .i64 0, .string ⟨#[]⟩], .int .i64 4]) ∧ Below wx.heap.size wx w')) (RN : Hid (∀ wx, Calls Try.prog 19 #[.string a3] wx fun e w' => e = .returned (.tuple #[.agg #[.int .i64 0, .int .i64 0, .int .i64 0, .int .i64 0, .slice none 0 0], .bool false]) ∧ Below wx.heap.size wx w')) :
    Calls Try.prog 4 #[.int .i64 a0, .int .i64 a1, .string a2, .string a3] w fun e w' => e = .returned (.bool true) ∧ Below w.heap.size w w' := by
  have C0 := Lib.hid (scrNew_no a0 a1 hu)
  have s1 : ¬ (2000 : Int) < (a2.size : Int) := by omega
  have s2 : ¬ (2000 : Int) < (a3.size : Int) := by omega
  clear hu
  go_enter Try.func4, Try.ntmps4
  go_wp2_with fail
  refine (awake11_any _).mono ?_
  rintro e wa ⟨rfl, bl⟩
  go_wp2_with fail
  refine (C0.out _).mono ?_
  rintro e w1 ⟨rfl, b1⟩
  have bl := bl.trans (b1.mono bl.size)
  clear b1
  have bl := bl.alloc bl.size (.cells #[.int .i64 0, .int .i64 0, .int .i64 0, .int .i64 0, .string ⟨#[]⟩] 25 (0, 0))
  go_wp2_with fail
  generalize w1.alloc (.cells #[.int .i64 0, .int .i64 0, .int .i64 0, .int .i64 0, .string ⟨#[]⟩] 25 (0, 0)) = w12 at *
  refine (PN.out _).mono ?_
  rintro e u1 ⟨rfl, b1⟩
  have bl := bl.trans (b1.mono bl.size)
  clear b1
  have r13 : Row (u1.alloc (.cells #[.int .i64 0, .int .i64 0, .int .i64 0, .int .i64 0, .string ⟨#[]⟩] 25 (0, 0))) u1.heap.size 25 [.int .i64 0, .int .i64 0, .int .i64 0, .int .i64 0, .string ⟨#[]⟩] := Row.new' rfl rfl
  have bl := bl.alloc bl.size (.cells #[.int .i64 0, .int .i64 0, .int .i64 0, .int .i64 0, .string ⟨#[]⟩] 25 (0, 0))
  go_wp2_with fail
  generalize hu2 : u1.alloc (.cells #[.int .i64 0, .int .i64 0, .int .i64 0, .int .i64 0, .string ⟨#[]⟩] 25 (0, 0)) = u2 at *
  generalize hg13 : u1.heap.size = g13 at *
  clear hu2 hg13
  refine (RN.out _).mono ?_
  rintro e u3 ⟨rfl, b3⟩
  have r13 := (r13.below b3 r13.lt).alloc (.cells #[.int .i64 0, .int .i64 0, .int .i64 0, .int .i64 0, .slice none 0 0] 33 (0, 0))
  have bl := bl.trans (b3.mono bl.size)
  have bl := bl.alloc bl.size (.cells #[.int .i64 0, .int .i64 0, .int .i64 0, .int .i64 0, .slice none 0 0] 33 (0, 0))
  clear b3
  go_wp2_with (first | refine wpList_rowG (by rfl) 25 (.tmp 13) rfl g13 rfl _ _ _ r13 Try.underlying25 rfl infoScr ?_)
  refine (same_yes _ _ _ _ _ _).mono ?_
  rintro e u4 ⟨rfl, b4⟩
  have bl := bl.trans (b4.mono bl.size)
  clear b4 r13
  go_wp2
  go_ret
  exact ⟨rfl, bl⟩

set_option maxHeartbeats 16000000 in
theorem coreUY (a0 a1 : Int) (a2 a3 : ByteArray) (w : World) (hu : (decide (1 ≤ a0) && decide (a0 ≤ 80) && decide (1 ≤ a1) && decide (a1 ≤ 24)) = false) (ha : a2.size ≤ 2000) (hb : a3.size ≤ 2000) (wp hp xp yp : Nat) (CP1 : ByteArray) (cp : List UInt8) (PY : Hid (∀ wx, Calls Try.prog 16 #[.string a3] wx fun e w' => e = .returned (.tuple #[.agg #[.int .i64 wp, .int .i64 hp, .int .i64 xp, .int .i64 yp, .string CP1], .int .i64 0]) ∧ Below wx.heap.size wx w')) (RY : Hid (∀ wx, Calls Try.prog 19 #[.string a3] wx fun e w' => ∃ gp capp, e = .returned (.tuple #[.agg #[.int .i64 wp, .int .i64 hp, .int .i64 xp, .int .i64 yp, .slice (some ⟨gp, 0, none⟩) hp capp], .bool true]) ∧ w'.ownsRow 0 9 1 (.slice (some ⟨gp, 0, none⟩) hp capp) hp (txt (N11.rows wp hp cp)) ∧ Below wx.heap.size wx w')) (IY : Hid (∀ (gp capp : Nat) wx, wx.ownsRow 0 9 1 (.slice (some ⟨gp, 0, none⟩) hp capp) hp (txt (N11.rows wp hp cp)) → Calls Try.prog 15 #[.agg #[.int .i64 wp, .int .i64 hp, .int .i64 xp, .int .i64 yp, .string CP1], .agg #[.int .i64 wp, .int .i64 hp, .int .i64 xp, .int .i64 yp, .slice (some ⟨gp, 0, none⟩) hp capp]] wx fun e w' => e = .returned (.bool true) ∧ Below wx.heap.size wx w')) (TY : Hid (∀ wx, Calls Try.prog 17 #[.agg #[.int .i64 wp, .int .i64 hp, .int .i64 xp, .int .i64 yp, .string CP1]] wx fun e w' => e = .returned (.string a3) ∧ Below wx.heap.size wx w')) :
    Calls Try.prog 4 #[.int .i64 a0, .int .i64 a1, .string a2, .string a3] w fun e w' => e = .returned (.bool true) ∧ Below w.heap.size w w' := by
  have C0 := Lib.hid (scrNew_no a0 a1 hu)
  have s1 : ¬ (2000 : Int) < (a2.size : Int) := by omega
  have s2 : ¬ (2000 : Int) < (a3.size : Int) := by omega
  clear hu
  go_enter Try.func4, Try.ntmps4
  go_wp2_with fail
  refine (awake11_any _).mono ?_
  rintro e wa ⟨rfl, bl⟩
  go_wp2_with fail
  refine (C0.out _).mono ?_
  rintro e w1 ⟨rfl, b1⟩
  have bl := bl.trans (b1.mono bl.size)
  clear b1
  have bl := bl.alloc bl.size (.cells #[.int .i64 0, .int .i64 0, .int .i64 0, .int .i64 0, .string ⟨#[]⟩] 25 (0, 0))
  go_wp2_with fail
  generalize w1.alloc (.cells #[.int .i64 0, .int .i64 0, .int .i64 0, .int .i64 0, .string ⟨#[]⟩] 25 (0, 0)) = w12 at *
  refine (PY.out _).mono ?_
  rintro e u1 ⟨rfl, b1⟩
  have bl := bl.trans (b1.mono bl.size)
  clear b1
  have r13 : Row (u1.alloc (.cells #[.int .i64 wp, .int .i64 hp, .int .i64 xp, .int .i64 yp, .string CP1] 25 (0, 0))) u1.heap.size 25 [.int .i64 wp, .int .i64 hp, .int .i64 xp, .int .i64 yp, .string CP1] := Row.new' rfl rfl
  have bl := bl.alloc bl.size (.cells #[.int .i64 wp, .int .i64 hp, .int .i64 xp, .int .i64 yp, .string CP1] 25 (0, 0))
  go_wp2_with fail
  generalize hu2 : u1.alloc (.cells #[.int .i64 wp, .int .i64 hp, .int .i64 xp, .int .i64 yp, .string CP1] 25 (0, 0)) = u2 at *
  generalize hg13 : u1.heap.size = g13 at *
  clear hu2 hg13
  refine (RY.out _).mono ?_
  rintro e u3 ⟨gp, capp, rfl, hoP, b3⟩
  have r13 := (r13.below b3 r13.lt).alloc (.cells #[.int .i64 wp, .int .i64 hp, .int .i64 xp, .int .i64 yp, .slice (some ⟨gp, 0, none⟩) hp capp] 33 (0, 0))
  have bl := bl.trans (b3.mono bl.size)
  have hoP := hoP.alloc (.cells #[.int .i64 wp, .int .i64 hp, .int .i64 xp, .int .i64 yp, .slice (some ⟨gp, 0, none⟩) hp capp] 33 (0, 0))
  clear b3
  have r15 : Row (u3.alloc (.cells #[.int .i64 wp, .int .i64 hp, .int .i64 xp, .int .i64 yp, .slice (some ⟨gp, 0, none⟩) hp capp] 33 (0, 0))) u3.heap.size 33 [.int .i64 wp, .int .i64 hp, .int .i64 xp, .int .i64 yp, .slice (some ⟨gp, 0, none⟩) hp capp] := Row.new' rfl rfl
  have bl := bl.alloc bl.size (.cells #[.int .i64 wp, .int .i64 hp, .int .i64 xp, .int .i64 yp, .slice (some ⟨gp, 0, none⟩) hp capp] 33 (0, 0))
  go_wp2_with (first | refine wpList_rowG (by rfl) 25 (.tmp 13) rfl g13 rfl _ _ _ r13 Try.underlying25 rfl infoScr ?_ | refine wpList_rowG (by rfl) 33 (.tmp 15) rfl u3.heap.size rfl _ _ _ r15 Try.underlying33 rfl infoRS ?_)
  refine (IY.out gp capp _ (by exact hoP)).mono ?_
  rintro e u4 ⟨rfl, b4⟩
  have r13 := r13.below b4 r13.lt
  have bl := bl.trans (b4.mono bl.size)
  clear b4 hoP r15
  go_wp2_with (first | refine wpList_rowG (by rfl) 25 (.tmp 13) rfl g13 rfl _ _ _ r13 Try.underlying25 rfl infoScr ?_)
  refine (TY.out _).mono ?_
  rintro e u5 ⟨rfl, b5⟩
  have bl := bl.trans (b5.mono bl.size)
  clear b5 r13
  go_wp2
  go_ret
  exact ⟨rfl, bl⟩

set_option maxHeartbeats 2000000 in
theorem longA (a0 a1 : Int) (a2 a3 : ByteArray) (w : World) (ha : 2000 < a2.size) :
    Calls Try.prog 4 #[.int .i64 a0, .int .i64 a1, .string a2, .string a3] w fun e w' => e = .returned (.bool true) ∧ Below w.heap.size w w' := by
  have s1 : (2000 : Int) < (a2.size : Int) := by omega
  go_enter Try.func4, Try.ntmps4
  go_wp2_with fail
  refine (awake11_any _).mono ?_
  rintro e wa ⟨rfl, bl⟩
  go_wp2
  go_ret
  exact ⟨rfl, bl⟩

set_option maxHeartbeats 2000000 in
theorem longB (a0 a1 : Int) (a2 a3 : ByteArray) (w : World) (ha : ¬ 2000 < a2.size) (hb : 2000 < a3.size) :
    Calls Try.prog 4 #[.int .i64 a0, .int .i64 a1, .string a2, .string a3] w fun e w' => e = .returned (.bool true) ∧ Below w.heap.size w w' := by
  have s1 : ¬ (2000 : Int) < (a2.size : Int) := by omega
  have s2 : (2000 : Int) < (a3.size : Int) := by omega
  go_enter Try.func4, Try.ntmps4
  go_wp2_with fail
  refine (awake11_any _).mono ?_
  rintro e wa ⟨rfl, bl⟩
  go_wp2
  go_ret
  exact ⟨rfl, bl⟩

theorem walk (a0 : Int) (a1 : Int) (a2 : ByteArray) (a3 : ByteArray) (w : World) (w0 : (Lit.int .i64 a0).wf = true) (w1 : (Lit.int .i64 a1).wf = true) (w2 : a2.size ≤ maxLen) (w3 : a3.size ≤ maxLen) :
    Calls Try.prog 4 #[.int .i64 a0, .int .i64 a1, .string a2, .string a3] w fun e w' => e = .returned (.bool true) ∧ Below w.heap.size w w' := by
  by_cases ha : 2000 < a2.size
  · exact longA a0 a1 a2 a3 w ha
  by_cases hb : 2000 < a3.size
  · exact longB a0 a1 a2 a3 w ha hb
  by_cases hu : (decide (1 ≤ a0) && decide (a0 ≤ 80) && decide (1 ≤ a1) && decide (a1 ≤ 24)) = true
  · have h' := hu
    simp only [Bool.and_eq_true, decide_eq_true_eq] at h'
    obtain ⟨⟨⟨t1, t2⟩, t3⟩, t4⟩ := h'
    obtain ⟨wd, rfl⟩ := Int.eq_ofNat_of_zero_le (show 0 ≤ a0 by omega)
    obtain ⟨ht, rfl⟩ := Int.eq_ofNat_of_zero_le (show 0 ≤ a1 by omega)
    by_cases h4 : 4 ≤ a3.size
    · by_cases hok : okB (a3[0]'(by omega)).toNat (a3[1]'(by omega)).toNat (a3[2]'(by omega)).toNat (a3[3]'(by omega)).toNat (a3.data.toList.drop 4) = true
      · obtain ⟨k1, k2, k3, k4, ko⟩ := okB_ok.1 hok
        have kx : _ < _ := ko.x
        have ky : _ < _ := ko.y
        exact coreSY wd ht a2 a3 w (by omega) (by omega) (by omega) (by omega) (by omega) (by omega) _ _ _ _ (a3.extract 4 a3.size) (a3.data.toList.drop 4) (parse_yes a3 h4 (by omega) _ _ _ _ rfl rfl rfl rfl hok)
          (refYes a3 h4 (by omega) hok) (isYes a3 h4 hok) (textYes a3 h4 hok)
      · have hok' : okB (a3[0]'(by omega)).toNat (a3[1]'(by omega)).toNat (a3[2]'(by omega)).toNat (a3[3]'(by omega)).toNat (a3.data.toList.drop 4) = false := by simpa using hok
        exact coreSN wd ht a2 a3 w (by omega) (by omega) (by omega) (by omega) (by omega) (by omega) (parse_no a3 h4 (by omega) _ _ _ _ rfl rfl rfl rfl hok') (refParse_no a3 h4 (by omega) _ _ _ _ rfl rfl rfl rfl hok')
    · exact coreSN wd ht a2 a3 w (by omega) (by omega) (by omega) (by omega) (by omega) (by omega) (parse_short a3 (by omega)) (refParse_short a3 (by omega))
  · have hu' : (decide (1 ≤ a0) && decide (a0 ≤ 80) && decide (1 ≤ a1) && decide (a1 ≤ 24)) = false := by simpa using hu
    by_cases h4 : 4 ≤ a3.size
    · by_cases hok : okB (a3[0]'(by omega)).toNat (a3[1]'(by omega)).toNat (a3[2]'(by omega)).toNat (a3[3]'(by omega)).toNat (a3.data.toList.drop 4) = true
      · exact coreUY a0 a1 a2 a3 w hu' (by omega) (by omega) _ _ _ _ (a3.extract 4 a3.size) (a3.data.toList.drop 4) (parse_yes a3 h4 (by omega) _ _ _ _ rfl rfl rfl rfl hok)
          (refYes a3 h4 (by omega) hok) (isYes a3 h4 hok) (textYes a3 h4 hok)
      · have hok' : okB (a3[0]'(by omega)).toNat (a3[1]'(by omega)).toNat (a3[2]'(by omega)).toNat (a3[3]'(by omega)).toNat (a3.data.toList.drop 4) = false := by simpa using hok
        exact coreUN a0 a1 a2 a3 w hu' (by omega) (by omega) (parse_no a3 h4 (by omega) _ _ _ _ rfl rfl rfl rfl hok') (refParse_no a3 h4 (by omega) _ _ _ _ rfl rfl rfl rfl hok')
    · exact coreUN a0 a1 a2 a3 w hu' (by omega) (by omega) (parse_short a3 (by omega)) (refParse_short a3 (by omega))

end ScreenTextsW
end Go.Proofs.Ytekpbfbipkjibaa
