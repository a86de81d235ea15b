/-
  Layer 4: the document's own Sum. (Written by mkref4.py.)
-/
import Derived.Test.YtmpmgkdcbbefpaaHAwake
import Derived.Test.YtmpmgkdcbbefpaaRText3
namespace Go.Proofs.Ytmpmgkdcbbefpaa
open Go.RowKit
set_option linter.unusedVariables false

theorem make64b (w : World) : (Instr.makeSlice 30 (.int .i64 64) (.int .i64 64)).run Try.prog w = .ok (.slice (some ⟨w.heap.size, 0, none⟩) 64 64) (w.alloc (.cells (W.cellsOf (List.replicate 64 0)).toArray 5 (0, 0))) := by kernel_rfl

/-- What lies in a fresh row behind k bytes. -/
def maskRow (b : List UInt8) (p : UInt8) (k : Nat) : List UInt8 := H.over (b.take k) p ++ List.replicate (64 - k) 0
theorem maskRow_length (b : List UInt8) (hb : b.length = 64) (p : UInt8) (k : Nat) (hk : k ≤ 64) : (maskRow b p k).length = 64 := by simp [maskRow, H.over_length, hb]; omega
theorem maskRow_step (b : List UInt8) (hb : b.length = 64) (p : UInt8) (k : Nat) (h : k < 64) (c : UInt8) (hc : b[k]? = some c) : (maskRow b p k).set k (c ^^^ p) = maskRow b p (k + 1) := by
  have hl : (H.over (b.take k) p).length = k := by rw [H.over_length, List.length_take]; omega
  have h2 : b[k] = c := by rw [List.getElem?_eq_getElem (by omega)] at hc; exact Option.some.inj hc
  unfold maskRow
  rw [List.set_append_right _ _ (by omega), hl, Nat.sub_self, show 64 - k = (64 - (k + 1)) + 1 from by omega, List.replicate_succ, List.set_cons_zero, List.take_succ_eq_append_getElem (i := k) (by omega), h2]
  simp only [H.over, List.map_append, List.append_assoc, List.map_cons, List.map_nil, List.cons_append, List.nil_append]
theorem maskRow_full (b : List UInt8) (hb : b.length = 64) (p : UInt8) : maskRow b p 64 = H.over b p := by simp [maskRow, List.take_of_length_le, hb]

theorem add_bytes (a b : ByteArray) : (a ++ b).data.toList = a.data.toList ++ b.data.toList := by simp
theorem size_is (s : ByteArray) : s.size = s.data.toList.length := by simp
theorem refText_at (s : ByteArray) (l : List UInt8) (hd : s.data.toList = l) (hs : s.size ≤ 1000000) (w : World) :
    Calls Try.prog 15 #[.string s] w fun e w' => e = .returned (.string ⟨(S.sumL l).toArray⟩) ∧ Below w.heap.size w w' := by
  subst hd; exact refText_any s hs w

set_option maxHeartbeats 4000000 in
theorem refSum_any (key s : ByteArray) (hk : key.size ≤ 100000) (hs : s.size ≤ 500000) (w : World) :
    Calls Try.prog 28 #[.string key, .string s] w fun e w' => e = .returned (.string ⟨(H.hmacL key.data.toList s.data.toList).toArray⟩) ∧ Below w.heap.size w w' := by
  obtain ⟨b, hb⟩ : ∃ b, b = H.keyL key.data.toList := ⟨_, rfl⟩
  have hbl : b.length = 64 := by rw [hb]; exact H.keyL_length _
  have HH : Hid (H.hmacL key.data.toList s.data.toList = S.sumL (H.over b 92 ++ S.sumL (H.over b 54 ++ s.data.toList))) := by rw [hb]; rfl
  have HBL := Lib.hid hbl
  have HB := Lib.hid hb
  have mk := make64b
  have hkl : key.data.toList.length = key.size := by simp
  have HKL := Lib.hid hkl
  clear hbl hb hkl
  by_cases hlong : 64 < key.size
  · have hsh : H.short key.data.toList = S.sumL key.data.toList := by unfold H.short; rw [if_pos (by rw [HKL.out]; exact hlong)]
    go_enter Try.func28, Try.ntmps28
    go_wp2_with fail
    refine (refText_any key (by omega) _).mono ?_
    rintro e w0 ⟨rfl, b0⟩
    obtain ⟨kx, hkx⟩ : ∃ kx : ByteArray, kx = ⟨(S.sumL key.data.toList).toArray⟩ := ⟨_, rfl⟩
    have hkd : kx.data.toList = H.short key.data.toList := by rw [hkx, hsh]
    have hk64 : kx.size ≤ 64 := by rw [size_is, hkd]; exact H.short_length _
    rw [← hkx]
    have HKD := Lib.hid hkd
    clear hsh hkx hkd
    have hkb : ∀ i, i < 64 → b[i]? = some (if h : i < kx.size then kx[i] else 0) := by
      intro i hi
      rw [HB.out]
      unfold H.keyL
      rw [← HKD.out]
      by_cases h : i < kx.size
      · rw [List.getElem?_append_left (by rw [← size_is]; exact h), dif_pos h, List.getElem?_eq_getElem (by rw [← size_is]; exact h)]; rfl
      · rw [List.getElem?_append_right (by rw [← size_is]; omega), dif_neg h, List.getElem?_replicate, if_pos (by rw [← size_is]; omega)]
    have HKB := Lib.hid hkb
    have z0 := b0.size
    obtain ⟨ga, hga⟩ : ∃ ga, ga = w0.heap.size := ⟨_, rfl⟩
    have zg : w.heap.size ≤ ga := by rw [hga]; exact z0
    clear hkb z0
    go_wp2
    go_region
    · have ri0 : Row ((w0.alloc (.cells (W.cellsOf (List.replicate 64 0)).toArray 5 (0, 0))).alloc (.cells (W.cellsOf (List.replicate 64 0)).toArray 5 (0, 0))) ga 5 (W.cellsOf (maskRow b 54 0)) := by first | exact (Row.new' rfl hga).alloc _ | exact Row.new' rfl (by simp [hga])
      have ro0 : Row ((w0.alloc (.cells (W.cellsOf (List.replicate 64 0)).toArray 5 (0, 0))).alloc (.cells (W.cellsOf (List.replicate 64 0)).toArray 5 (0, 0))) (ga + 1) 5 (W.cellsOf (maskRow b 92 0)) := by first | exact (Row.new' rfl hga).alloc _ | exact Row.new' rfl (by simp [hga])
      have bb0 := (b0.alloc b0.size (.cells (W.cellsOf (List.replicate 64 0)).toArray 5 (0, 0))).alloc (by have := b0.size; simp <;> omega) (.cells (W.cellsOf (List.replicate 64 0)).toArray 5 (0, 0))
      go_wp2
      rw [← hga]
      clear hga b0
      go_loopw [7, 8] (fun iv _ wx => ∃ i : Nat, i ≤ 64 ∧ iv = .int .i64 i ∧ Row wx ga 5 (W.cellsOf (maskRow b 54 i)) ∧ Row wx (ga + 1) 5 (W.cellsOf (maskRow b 92 i)) ∧ Below w.heap.size w wx) (fun iv _ _ => 64 - (intOf iv).toNat)
      case atStart => exact ⟨0, Nat.zero_le _, rfl, ri0, ro0, (by first | exact bb0 | exact bb0.drew)⟩
      case round =>
        clear ri0 ro0 bb0
        obtain ⟨i, hi, rfl, ri, ro, hb⟩ := hrel
        by_cases hlt : i < 64
        · have ci := (ri.cell i).trans (cellsOf_at (by rw [maskRow_length b HBL.out 54 i hi]; exact hlt))
          have co := (ro.cell i).trans (cellsOf_at (by rw [maskRow_length b HBL.out 92 i hi]; exact hlt))
          have fi := ri.frozen i
          have fo := ro.frozen i
          have hat := HKB.out i hlt
          have bi : (i : Int) < 64 := by omega
          by_cases hin : i < kx.size
          · rw [dif_pos hin] at hat
            have ri' := ri.set i (.int .u8 ((kx[i] ^^^ 54).toNat : Int))
            rw [cellsOf_put, maskRow_step b HBL.out 54 i hlt _ hat] at ri'
            have ro' := ro.set i (.int .u8 ((kx[i] ^^^ 92).toNat : Int))
            rw [cellsOf_put, maskRow_step b HBL.out 92 i hlt _ hat] at ro'
            have h1 := kx[i].toNat_lt
            have hx1 : bits .xor .u8 (kx[i].toNat : Int) 54 = ((kx[i] ^^^ 54).toNat : Int) := by
              rw [show (54 : Int) = ((54 : Nat) : Int) from rfl, u8_xor_nat _ _ h1 (by decide), UInt8.toNat_xor]; rfl
            have hx2 : bits .xor .u8 (kx[i].toNat : Int) 92 = ((kx[i] ^^^ 92).toNat : Int) := by
              rw [show (92 : Int) = ((92 : Nat) : Int) from rfl, u8_xor_nat _ _ h1 (by decide), UInt8.toNat_xor]; rfl
            have ro'' : Row (wr.setCell ⟨ga, i, none⟩ (.int .u8 ((kx[i] ^^^ 54).toNat : Int))) (ga + 1) 5 _ := ro.other (by omega) _
            have fo2 := ro''.frozen i
            have co2 := (ro''.cell i).trans (cellsOf_at (by rw [maskRow_length b HBL.out 92 i hi]; exact hlt))
            have ro3 := ro''.set i (.int .u8 ((kx[i] ^^^ 92).toNat : Int))
            rw [cellsOf_put, maskRow_step b HBL.out 92 i hlt _ hat] at ro3
            have ri3 := ri'.other (k := (ga + 1)) (i := i) (by omega) (.int .u8 ((kx[i] ^^^ 92).toNat : Int))
            have hin' : (i : Int) < (kx.size : Int) := by omega
            clear hat ro' ro''
            generalize kx[i] ^^^ 54 = y1 at *
            generalize kx[i] ^^^ 92 = y2 at *
            go_wp2
            go_roundw
            case rel => exact ⟨i + 1, by omega, by go_num, ri3, ro3, (hb.setCell (by simp; omega) _).setCell (by simp; omega) _⟩
            case measure => simp [intOf]; omega
          · rw [dif_neg hin] at hat
            have ri' := ri.set i (.int .u8 (((0 : UInt8) ^^^ 54).toNat : Int))
            rw [cellsOf_put, maskRow_step b HBL.out 54 i hlt _ hat] at ri'
            have hx1 : bits .xor .u8 0 54 = 54 := by kernel_rfl
            have hx2 : bits .xor .u8 0 92 = 92 := by kernel_rfl
            have ro'' : Row (wr.setCell ⟨ga, i, none⟩ (.int .u8 54)) (ga + 1) 5 _ := ro.other (by omega) _
            have fo2 := ro''.frozen i
            have co2 := (ro''.cell i).trans (cellsOf_at (by rw [maskRow_length b HBL.out 92 i hi]; exact hlt))
            have ro3 := ro''.set i (.int .u8 (((0 : UInt8) ^^^ 92).toNat : Int))
            rw [cellsOf_put, maskRow_step b HBL.out 92 i hlt _ hat] at ro3
            have ri3 := ri'.other (k := (ga + 1)) (i := i) (by omega) (.int .u8 (((0 : UInt8) ^^^ 92).toNat : Int))
            have hin' : ¬ (i : Int) < (kx.size : Int) := by omega
            clear hat ro''
            go_wp2
            go_roundw
            case rel => exact ⟨i + 1, by omega, by go_num, ri3, ro3, (hb.setCell (by simp; omega) _).setCell (by simp; omega) _⟩
            case measure => simp [intOf]; omega
        · obtain rfl : i = 64 := by omega
          rw [maskRow_full b HBL.out] at ri ro
          obtain ⟨xi, hxi⟩ : ∃ xi : ByteArray, xi = ⟨(H.over b 54).toArray⟩ := ⟨_, rfl⟩
          obtain ⟨xo, hxo⟩ : ∃ xo : ByteArray, xo = ⟨(H.over b 92).toArray⟩ := ⟨_, rfl⟩
          have li : xi.size = 64 := by rw [size_is, hxi]; show (H.over b 54).length = 64; rw [H.over_length, HBL.out]
          have lo : xo.size = 64 := by rw [size_is, hxo]; show (H.over b 92).length = 64; rw [H.over_length, HBL.out]
          have ci := rowBack (n := 64) (by rw [H.over_length, HBL.out]) ri
          have co := rowBack (n := 64) (by rw [H.over_length, HBL.out]) ro
          rw [← hxi] at ci
          rw [← hxo] at co
          have DI : Hid (xi.data.toList = H.over b 54) := by show xi.data.toList = _; rw [hxi]
          have DO : Hid (xo.data.toList = H.over b 92) := by show xo.data.toList = _; rw [hxo]
          obtain ⟨t1, ht1⟩ : ∃ t1 : ByteArray, t1 = ⟨(S.sumL (H.over b 54 ++ s.data.toList)).toArray⟩ := ⟨_, rfl⟩
          have lt1 : t1.size = 32 := by rw [ht1]; exact sum_size _
          have hadd1 := fun wx => run_string_add_sum (P := Try.prog) wx xi s (by omega)
          have hadd2 := fun wx => run_string_add_sum (P := Try.prog) wx xo t1 (by omega)
          obtain ⟨u1, hu1⟩ : ∃ u1, u1 = xi ++ s := ⟨_, rfl⟩
          obtain ⟨u2, hu2⟩ : ∃ u2, u2 = xo ++ t1 := ⟨_, rfl⟩
          have C1 : Hid (∀ w, Calls Try.prog 15 #[.string u1] w fun e w' => e = .returned (.string t1) ∧ Below w.heap.size w w') := by
            intro w
            rw [ht1]
            exact refText_at u1 _ (by rw [hu1, add_bytes, DI.out]) (by rw [hu1, ByteArray.size_append]; omega) w
          have C2 : Hid (∀ w, Calls Try.prog 15 #[.string u2] w fun e w' => e = .returned (.string ⟨(H.hmacL key.data.toList s.data.toList).toArray⟩) ∧ Below w.heap.size w w') := by
            intro w
            rw [HH.out]
            exact refText_at u2 _ (by rw [hu2, add_bytes, DO.out, ht1]) (by rw [hu2, ByteArray.size_append]; omega) w
          rw [← hu1] at hadd1
          rw [← hu2] at hadd2
          have CI : Hid (∀ w, Row w ga 5 (W.cellsOf (H.over b 54)) → (convert 30 9 (.slice (some ⟨ga, 0, none⟩) 64 64)).run Try.prog w = .ok (.string xi) w) := by
            intro w h
            rw [hxi]
            exact rowBack (n := 64) (by rw [H.over_length, HBL.out]) h
          have CO : Hid (∀ w, Row w (ga + 1) 5 (W.cellsOf (H.over b 92)) → (convert 30 9 (.slice (some ⟨(ga + 1), 0, none⟩) 64 64)).run Try.prog w = .ok (.string xo) w) := by
            intro w h
            rw [hxo]
            exact rowBack (n := 64) (by rw [H.over_length, HBL.out]) h
          clear hxi hxo li lo hu1 hu2 ht1 lt1 DI DO HBL HB HKB HKD ci co
          have hbn := hb
          go_wp2_with fail
          go_region_held3 (fun w' => (convert 30 9 (.slice (some ⟨ga, 0, none⟩) 64 64)).run Try.prog w' = .ok (.string xi) w' ∧ (convert 30 9 (.slice (some ⟨(ga + 1), 0, none⟩) 64 64)).run Try.prog w' = .ok (.string xo) w' ∧ Row w' ga 5 (W.cellsOf (H.over b 54)) ∧ Row w' (ga + 1) 5 (W.cellsOf (H.over b 92))) (first | exact ⟨CI.out _ (by assumption), CO.out _ (by assumption), by assumption, by assumption⟩ | exact CI.out _ (by assumption) | exact CO.out _ (by assumption) | assumption) (first
            | (go_at_call_of 15 (Value.string u1); refine (C1.out _).mono ?_; rintro e w5 ⟨rfl, b5⟩; have hb5 := hbn; have ri5 := ri; have ro5 := ro; have hbn : Below w.heap.size w w5 := hb5.drew.trans (b5.mono hb5.size); have ri : Row w5 ga 5 (W.cellsOf (H.over b 54)) := (Row.drew ri5).below b5 ri5.lt; have ro : Row w5 (ga + 1) 5 (W.cellsOf (H.over b 92)) := (Row.drew ro5).below b5 ro5.lt; clear b5 hb5 ri5 ro5)
            | (go_at_call 15; refine (C2.out _).mono ?_; rintro e w5 ⟨rfl, b5⟩; have hb5 := hbn; have ri5 := ri; have ro5 := ro; have hbn : Below w.heap.size w w5 := hb5.trans (b5.mono hb5.size); have ri : Row w5 ga 5 (W.cellsOf (H.over b 54)) := ri5.below b5 ri5.lt; have ro : Row w5 (ga + 1) 5 (W.cellsOf (H.over b 92)) := ro5.below b5 ro5.lt; clear b5 hb5 ri5 ro5))
          go_wp2
          go_ret
          exact ⟨rfl, hbn⟩
    · have ri0 : Row ((w0.alloc (.cells (W.cellsOf (List.replicate 64 0)).toArray 5 (0, 0))).alloc (.cells (W.cellsOf (List.replicate 64 0)).toArray 5 (0, 0))) (ga + 1) 5 (W.cellsOf (maskRow b 54 0)) := by first | exact (Row.new' rfl hga).alloc _ | exact Row.new' rfl (by simp [hga])
      have ro0 : Row ((w0.alloc (.cells (W.cellsOf (List.replicate 64 0)).toArray 5 (0, 0))).alloc (.cells (W.cellsOf (List.replicate 64 0)).toArray 5 (0, 0))) ga 5 (W.cellsOf (maskRow b 92 0)) := by first | exact (Row.new' rfl hga).alloc _ | exact Row.new' rfl (by simp [hga])
      have bb0 := (b0.alloc b0.size (.cells (W.cellsOf (List.replicate 64 0)).toArray 5 (0, 0))).alloc (by have := b0.size; simp <;> omega) (.cells (W.cellsOf (List.replicate 64 0)).toArray 5 (0, 0))
      go_wp2
      rw [← hga]
      clear hga b0
      go_loopw [7, 8] (fun iv _ wx => ∃ i : Nat, i ≤ 64 ∧ iv = .int .i64 i ∧ Row wx (ga + 1) 5 (W.cellsOf (maskRow b 54 i)) ∧ Row wx ga 5 (W.cellsOf (maskRow b 92 i)) ∧ Below w.heap.size w wx) (fun iv _ _ => 64 - (intOf iv).toNat)
      case atStart => exact ⟨0, Nat.zero_le _, rfl, ri0, ro0, (by first | exact bb0 | exact bb0.drew)⟩
      case round =>
        clear ri0 ro0 bb0
        obtain ⟨i, hi, rfl, ri, ro, hb⟩ := hrel
        by_cases hlt : i < 64
        · have ci := (ri.cell i).trans (cellsOf_at (by rw [maskRow_length b HBL.out 54 i hi]; exact hlt))
          have co := (ro.cell i).trans (cellsOf_at (by rw [maskRow_length b HBL.out 92 i hi]; exact hlt))
          have fi := ri.frozen i
          have fo := ro.frozen i
          have hat := HKB.out i hlt
          have bi : (i : Int) < 64 := by omega
          by_cases hin : i < kx.size
          · rw [dif_pos hin] at hat
            have ri' := ri.set i (.int .u8 ((kx[i] ^^^ 54).toNat : Int))
            rw [cellsOf_put, maskRow_step b HBL.out 54 i hlt _ hat] at ri'
            have ro' := ro.set i (.int .u8 ((kx[i] ^^^ 92).toNat : Int))
            rw [cellsOf_put, maskRow_step b HBL.out 92 i hlt _ hat] at ro'
            have h1 := kx[i].toNat_lt
            have hx1 : bits .xor .u8 (kx[i].toNat : Int) 54 = ((kx[i] ^^^ 54).toNat : Int) := by
              rw [show (54 : Int) = ((54 : Nat) : Int) from rfl, u8_xor_nat _ _ h1 (by decide), UInt8.toNat_xor]; rfl
            have hx2 : bits .xor .u8 (kx[i].toNat : Int) 92 = ((kx[i] ^^^ 92).toNat : Int) := by
              rw [show (92 : Int) = ((92 : Nat) : Int) from rfl, u8_xor_nat _ _ h1 (by decide), UInt8.toNat_xor]; rfl
            have ro'' : Row (wr.setCell ⟨(ga + 1), i, none⟩ (.int .u8 ((kx[i] ^^^ 54).toNat : Int))) ga 5 _ := ro.other (by omega) _
            have fo2 := ro''.frozen i
            have co2 := (ro''.cell i).trans (cellsOf_at (by rw [maskRow_length b HBL.out 92 i hi]; exact hlt))
            have ro3 := ro''.set i (.int .u8 ((kx[i] ^^^ 92).toNat : Int))
            rw [cellsOf_put, maskRow_step b HBL.out 92 i hlt _ hat] at ro3
            have ri3 := ri'.other (k := ga) (i := i) (by omega) (.int .u8 ((kx[i] ^^^ 92).toNat : Int))
            have hin' : (i : Int) < (kx.size : Int) := by omega
            clear hat ro' ro''
            generalize kx[i] ^^^ 54 = y1 at *
            generalize kx[i] ^^^ 92 = y2 at *
            go_wp2
            go_roundw
            case rel => exact ⟨i + 1, by omega, by go_num, ri3, ro3, (hb.setCell (by simp; omega) _).setCell (by simp; omega) _⟩
            case measure => simp [intOf]; omega
          · rw [dif_neg hin] at hat
            have ri' := ri.set i (.int .u8 (((0 : UInt8) ^^^ 54).toNat : Int))
            rw [cellsOf_put, maskRow_step b HBL.out 54 i hlt _ hat] at ri'
            have hx1 : bits .xor .u8 0 54 = 54 := by kernel_rfl
            have hx2 : bits .xor .u8 0 92 = 92 := by kernel_rfl
            have ro'' : Row (wr.setCell ⟨(ga + 1), i, none⟩ (.int .u8 54)) ga 5 _ := ro.other (by omega) _
            have fo2 := ro''.frozen i
            have co2 := (ro''.cell i).trans (cellsOf_at (by rw [maskRow_length b HBL.out 92 i hi]; exact hlt))
            have ro3 := ro''.set i (.int .u8 (((0 : UInt8) ^^^ 92).toNat : Int))
            rw [cellsOf_put, maskRow_step b HBL.out 92 i hlt _ hat] at ro3
            have ri3 := ri'.other (k := ga) (i := i) (by omega) (.int .u8 (((0 : UInt8) ^^^ 92).toNat : Int))
            have hin' : ¬ (i : Int) < (kx.size : Int) := by omega
            clear hat ro''
            go_wp2
            go_roundw
            case rel => exact ⟨i + 1, by omega, by go_num, ri3, ro3, (hb.setCell (by simp; omega) _).setCell (by simp; omega) _⟩
            case measure => simp [intOf]; omega
        · obtain rfl : i = 64 := by omega
          rw [maskRow_full b HBL.out] at ri ro
          obtain ⟨xi, hxi⟩ : ∃ xi : ByteArray, xi = ⟨(H.over b 54).toArray⟩ := ⟨_, rfl⟩
          obtain ⟨xo, hxo⟩ : ∃ xo : ByteArray, xo = ⟨(H.over b 92).toArray⟩ := ⟨_, rfl⟩
          have li : xi.size = 64 := by rw [size_is, hxi]; show (H.over b 54).length = 64; rw [H.over_length, HBL.out]
          have lo : xo.size = 64 := by rw [size_is, hxo]; show (H.over b 92).length = 64; rw [H.over_length, HBL.out]
          have ci := rowBack (n := 64) (by rw [H.over_length, HBL.out]) ri
          have co := rowBack (n := 64) (by rw [H.over_length, HBL.out]) ro
          rw [← hxi] at ci
          rw [← hxo] at co
          have DI : Hid (xi.data.toList = H.over b 54) := by show xi.data.toList = _; rw [hxi]
          have DO : Hid (xo.data.toList = H.over b 92) := by show xo.data.toList = _; rw [hxo]
          obtain ⟨t1, ht1⟩ : ∃ t1 : ByteArray, t1 = ⟨(S.sumL (H.over b 54 ++ s.data.toList)).toArray⟩ := ⟨_, rfl⟩
          have lt1 : t1.size = 32 := by rw [ht1]; exact sum_size _
          have hadd1 := fun wx => run_string_add_sum (P := Try.prog) wx xi s (by omega)
          have hadd2 := fun wx => run_string_add_sum (P := Try.prog) wx xo t1 (by omega)
          obtain ⟨u1, hu1⟩ : ∃ u1, u1 = xi ++ s := ⟨_, rfl⟩
          obtain ⟨u2, hu2⟩ : ∃ u2, u2 = xo ++ t1 := ⟨_, rfl⟩
          have C1 : Hid (∀ w, Calls Try.prog 15 #[.string u1] w fun e w' => e = .returned (.string t1) ∧ Below w.heap.size w w') := by
            intro w
            rw [ht1]
            exact refText_at u1 _ (by rw [hu1, add_bytes, DI.out]) (by rw [hu1, ByteArray.size_append]; omega) w
          have C2 : Hid (∀ w, Calls Try.prog 15 #[.string u2] w fun e w' => e = .returned (.string ⟨(H.hmacL key.data.toList s.data.toList).toArray⟩) ∧ Below w.heap.size w w') := by
            intro w
            rw [HH.out]
            exact refText_at u2 _ (by rw [hu2, add_bytes, DO.out, ht1]) (by rw [hu2, ByteArray.size_append]; omega) w
          rw [← hu1] at hadd1
          rw [← hu2] at hadd2
          have CI : Hid (∀ w, Row w (ga + 1) 5 (W.cellsOf (H.over b 54)) → (convert 30 9 (.slice (some ⟨(ga + 1), 0, none⟩) 64 64)).run Try.prog w = .ok (.string xi) w) := by
            intro w h
            rw [hxi]
            exact rowBack (n := 64) (by rw [H.over_length, HBL.out]) h
          have CO : Hid (∀ w, Row w ga 5 (W.cellsOf (H.over b 92)) → (convert 30 9 (.slice (some ⟨ga, 0, none⟩) 64 64)).run Try.prog w = .ok (.string xo) w) := by
            intro w h
            rw [hxo]
            exact rowBack (n := 64) (by rw [H.over_length, HBL.out]) h
          clear hxi hxo li lo hu1 hu2 ht1 lt1 DI DO HBL HB HKB HKD ci co
          have hbn := hb
          go_wp2_with fail
          go_region_held3 (fun w' => (convert 30 9 (.slice (some ⟨(ga + 1), 0, none⟩) 64 64)).run Try.prog w' = .ok (.string xi) w' ∧ (convert 30 9 (.slice (some ⟨ga, 0, none⟩) 64 64)).run Try.prog w' = .ok (.string xo) w' ∧ Row w' (ga + 1) 5 (W.cellsOf (H.over b 54)) ∧ Row w' ga 5 (W.cellsOf (H.over b 92))) (first | exact ⟨CI.out _ (by assumption), CO.out _ (by assumption), by assumption, by assumption⟩ | exact CI.out _ (by assumption) | exact CO.out _ (by assumption) | assumption) (first
            | (go_at_call_of 15 (Value.string u1); refine (C1.out _).mono ?_; rintro e w5 ⟨rfl, b5⟩; have hb5 := hbn; have ri5 := ri; have ro5 := ro; have hbn : Below w.heap.size w w5 := hb5.drew.trans (b5.mono hb5.size); have ri : Row w5 (ga + 1) 5 (W.cellsOf (H.over b 54)) := (Row.drew ri5).below b5 ri5.lt; have ro : Row w5 ga 5 (W.cellsOf (H.over b 92)) := (Row.drew ro5).below b5 ro5.lt; clear b5 hb5 ri5 ro5)
            | (go_at_call 15; refine (C2.out _).mono ?_; rintro e w5 ⟨rfl, b5⟩; have hb5 := hbn; have ri5 := ri; have ro5 := ro; have hbn : Below w.heap.size w w5 := hb5.trans (b5.mono hb5.size); have ri : Row w5 (ga + 1) 5 (W.cellsOf (H.over b 54)) := ri5.below b5 ri5.lt; have ro : Row w5 ga 5 (W.cellsOf (H.over b 92)) := ro5.below b5 ro5.lt; clear b5 hb5 ri5 ro5))
          go_wp2
          go_ret
          exact ⟨rfl, hbn⟩
  · have hsh : H.short key.data.toList = key.data.toList := by unfold H.short; rw [if_neg (by rw [HKL.out]; exact hlong)]
    go_enter Try.func28, Try.ntmps28
    have b0 : Below w.heap.size w w := Below.refl _ _
    have hk64 : key.size ≤ 64 := by omega
    have HKD : Hid (key.data.toList = H.short key.data.toList) := hsh.symm
    clear hsh
    have hkb : ∀ i, i < 64 → b[i]? = some (if h : i < key.size then key[i] else 0) := by
      intro i hi
      rw [HB.out]
      unfold H.keyL
      rw [← HKD.out]
      by_cases h : i < key.size
      · rw [List.getElem?_append_left (by rw [← size_is]; exact h), dif_pos h, List.getElem?_eq_getElem (by rw [← size_is]; exact h)]; rfl
      · rw [List.getElem?_append_right (by rw [← size_is]; omega), dif_neg h, List.getElem?_replicate, if_pos (by rw [← size_is]; omega)]
    have HKB := Lib.hid hkb
    have z0 := b0.size
    obtain ⟨ga, hga⟩ : ∃ ga, ga = w.heap.size := ⟨_, rfl⟩
    have zg : w.heap.size ≤ ga := by rw [hga]; exact z0
    clear hkb z0
    go_wp2
    go_region
    · have ri0 : Row ((w.alloc (.cells (W.cellsOf (List.replicate 64 0)).toArray 5 (0, 0))).alloc (.cells (W.cellsOf (List.replicate 64 0)).toArray 5 (0, 0))) ga 5 (W.cellsOf (maskRow b 54 0)) := by first | exact (Row.new' rfl hga).alloc _ | exact Row.new' rfl (by simp [hga])
      have ro0 : Row ((w.alloc (.cells (W.cellsOf (List.replicate 64 0)).toArray 5 (0, 0))).alloc (.cells (W.cellsOf (List.replicate 64 0)).toArray 5 (0, 0))) (ga + 1) 5 (W.cellsOf (maskRow b 92 0)) := by first | exact (Row.new' rfl hga).alloc _ | exact Row.new' rfl (by simp [hga])
      have bb0 := (b0.alloc b0.size (.cells (W.cellsOf (List.replicate 64 0)).toArray 5 (0, 0))).alloc (by have := b0.size; simp <;> omega) (.cells (W.cellsOf (List.replicate 64 0)).toArray 5 (0, 0))
      go_wp2
      rw [← hga]
      clear hga b0
      go_loopw [7, 8] (fun iv _ wx => ∃ i : Nat, i ≤ 64 ∧ iv = .int .i64 i ∧ Row wx ga 5 (W.cellsOf (maskRow b 54 i)) ∧ Row wx (ga + 1) 5 (W.cellsOf (maskRow b 92 i)) ∧ Below w.heap.size w wx) (fun iv _ _ => 64 - (intOf iv).toNat)
      case atStart => exact ⟨0, Nat.zero_le _, rfl, ri0, ro0, (by first | exact bb0 | exact bb0.drew)⟩
      case round =>
        clear ri0 ro0 bb0
        obtain ⟨i, hi, rfl, ri, ro, hb⟩ := hrel
        by_cases hlt : i < 64
        · have ci := (ri.cell i).trans (cellsOf_at (by rw [maskRow_length b HBL.out 54 i hi]; exact hlt))
          have co := (ro.cell i).trans (cellsOf_at (by rw [maskRow_length b HBL.out 92 i hi]; exact hlt))
          have fi := ri.frozen i
          have fo := ro.frozen i
          have hat := HKB.out i hlt
          have bi : (i : Int) < 64 := by omega
          by_cases hin : i < key.size
          · rw [dif_pos hin] at hat
            have ri' := ri.set i (.int .u8 ((key[i] ^^^ 54).toNat : Int))
            rw [cellsOf_put, maskRow_step b HBL.out 54 i hlt _ hat] at ri'
            have ro' := ro.set i (.int .u8 ((key[i] ^^^ 92).toNat : Int))
            rw [cellsOf_put, maskRow_step b HBL.out 92 i hlt _ hat] at ro'
            have h1 := key[i].toNat_lt
            have hx1 : bits .xor .u8 (key[i].toNat : Int) 54 = ((key[i] ^^^ 54).toNat : Int) := by
              rw [show (54 : Int) = ((54 : Nat) : Int) from rfl, u8_xor_nat _ _ h1 (by decide), UInt8.toNat_xor]; rfl
            have hx2 : bits .xor .u8 (key[i].toNat : Int) 92 = ((key[i] ^^^ 92).toNat : Int) := by
              rw [show (92 : Int) = ((92 : Nat) : Int) from rfl, u8_xor_nat _ _ h1 (by decide), UInt8.toNat_xor]; rfl
            have ro'' : Row (wr.setCell ⟨ga, i, none⟩ (.int .u8 ((key[i] ^^^ 54).toNat : Int))) (ga + 1) 5 _ := ro.other (by omega) _
            have fo2 := ro''.frozen i
            have co2 := (ro''.cell i).trans (cellsOf_at (by rw [maskRow_length b HBL.out 92 i hi]; exact hlt))
            have ro3 := ro''.set i (.int .u8 ((key[i] ^^^ 92).toNat : Int))
            rw [cellsOf_put, maskRow_step b HBL.out 92 i hlt _ hat] at ro3
            have ri3 := ri'.other (k := (ga + 1)) (i := i) (by omega) (.int .u8 ((key[i] ^^^ 92).toNat : Int))
            have hin' : (i : Int) < (key.size : Int) := by omega
            clear hat ro' ro''
            generalize key[i] ^^^ 54 = y1 at *
            generalize key[i] ^^^ 92 = y2 at *
            go_wp2
            go_roundw
            case rel => exact ⟨i + 1, by omega, by go_num, ri3, ro3, (hb.setCell (by simp; omega) _).setCell (by simp; omega) _⟩
            case measure => simp [intOf]; omega
          · rw [dif_neg hin] at hat
            have ri' := ri.set i (.int .u8 (((0 : UInt8) ^^^ 54).toNat : Int))
            rw [cellsOf_put, maskRow_step b HBL.out 54 i hlt _ hat] at ri'
            have hx1 : bits .xor .u8 0 54 = 54 := by kernel_rfl
            have hx2 : bits .xor .u8 0 92 = 92 := by kernel_rfl
            have ro'' : Row (wr.setCell ⟨ga, i, none⟩ (.int .u8 54)) (ga + 1) 5 _ := ro.other (by omega) _
            have fo2 := ro''.frozen i
            have co2 := (ro''.cell i).trans (cellsOf_at (by rw [maskRow_length b HBL.out 92 i hi]; exact hlt))
            have ro3 := ro''.set i (.int .u8 (((0 : UInt8) ^^^ 92).toNat : Int))
            rw [cellsOf_put, maskRow_step b HBL.out 92 i hlt _ hat] at ro3
            have ri3 := ri'.other (k := (ga + 1)) (i := i) (by omega) (.int .u8 (((0 : UInt8) ^^^ 92).toNat : Int))
            have hin' : ¬ (i : Int) < (key.size : Int) := by omega
            clear hat ro''
            go_wp2
            go_roundw
            case rel => exact ⟨i + 1, by omega, by go_num, ri3, ro3, (hb.setCell (by simp; omega) _).setCell (by simp; omega) _⟩
            case measure => simp [intOf]; omega
        · obtain rfl : i = 64 := by omega
          rw [maskRow_full b HBL.out] at ri ro
          obtain ⟨xi, hxi⟩ : ∃ xi : ByteArray, xi = ⟨(H.over b 54).toArray⟩ := ⟨_, rfl⟩
          obtain ⟨xo, hxo⟩ : ∃ xo : ByteArray, xo = ⟨(H.over b 92).toArray⟩ := ⟨_, rfl⟩
          have li : xi.size = 64 := by rw [size_is, hxi]; show (H.over b 54).length = 64; rw [H.over_length, HBL.out]
          have lo : xo.size = 64 := by rw [size_is, hxo]; show (H.over b 92).length = 64; rw [H.over_length, HBL.out]
          have ci := rowBack (n := 64) (by rw [H.over_length, HBL.out]) ri
          have co := rowBack (n := 64) (by rw [H.over_length, HBL.out]) ro
          rw [← hxi] at ci
          rw [← hxo] at co
          have DI : Hid (xi.data.toList = H.over b 54) := by show xi.data.toList = _; rw [hxi]
          have DO : Hid (xo.data.toList = H.over b 92) := by show xo.data.toList = _; rw [hxo]
          obtain ⟨t1, ht1⟩ : ∃ t1 : ByteArray, t1 = ⟨(S.sumL (H.over b 54 ++ s.data.toList)).toArray⟩ := ⟨_, rfl⟩
          have lt1 : t1.size = 32 := by rw [ht1]; exact sum_size _
          have hadd1 := fun wx => run_string_add_sum (P := Try.prog) wx xi s (by omega)
          have hadd2 := fun wx => run_string_add_sum (P := Try.prog) wx xo t1 (by omega)
          obtain ⟨u1, hu1⟩ : ∃ u1, u1 = xi ++ s := ⟨_, rfl⟩
          obtain ⟨u2, hu2⟩ : ∃ u2, u2 = xo ++ t1 := ⟨_, rfl⟩
          have C1 : Hid (∀ w, Calls Try.prog 15 #[.string u1] w fun e w' => e = .returned (.string t1) ∧ Below w.heap.size w w') := by
            intro w
            rw [ht1]
            exact refText_at u1 _ (by rw [hu1, add_bytes, DI.out]) (by rw [hu1, ByteArray.size_append]; omega) w
          have C2 : Hid (∀ w, Calls Try.prog 15 #[.string u2] w fun e w' => e = .returned (.string ⟨(H.hmacL key.data.toList s.data.toList).toArray⟩) ∧ Below w.heap.size w w') := by
            intro w
            rw [HH.out]
            exact refText_at u2 _ (by rw [hu2, add_bytes, DO.out, ht1]) (by rw [hu2, ByteArray.size_append]; omega) w
          rw [← hu1] at hadd1
          rw [← hu2] at hadd2
          have CI : Hid (∀ w, Row w ga 5 (W.cellsOf (H.over b 54)) → (convert 30 9 (.slice (some ⟨ga, 0, none⟩) 64 64)).run Try.prog w = .ok (.string xi) w) := by
            intro w h
            rw [hxi]
            exact rowBack (n := 64) (by rw [H.over_length, HBL.out]) h
          have CO : Hid (∀ w, Row w (ga + 1) 5 (W.cellsOf (H.over b 92)) → (convert 30 9 (.slice (some ⟨(ga + 1), 0, none⟩) 64 64)).run Try.prog w = .ok (.string xo) w) := by
            intro w h
            rw [hxo]
            exact rowBack (n := 64) (by rw [H.over_length, HBL.out]) h
          clear hxi hxo li lo hu1 hu2 ht1 lt1 DI DO HBL HB HKB HKD ci co
          have hbn := hb
          go_wp2_with fail
          go_region_held3 (fun w' => (convert 30 9 (.slice (some ⟨ga, 0, none⟩) 64 64)).run Try.prog w' = .ok (.string xi) w' ∧ (convert 30 9 (.slice (some ⟨(ga + 1), 0, none⟩) 64 64)).run Try.prog w' = .ok (.string xo) w' ∧ Row w' ga 5 (W.cellsOf (H.over b 54)) ∧ Row w' (ga + 1) 5 (W.cellsOf (H.over b 92))) (first | exact ⟨CI.out _ (by assumption), CO.out _ (by assumption), by assumption, by assumption⟩ | exact CI.out _ (by assumption) | exact CO.out _ (by assumption) | assumption) (first
            | (go_at_call_of 15 (Value.string u1); refine (C1.out _).mono ?_; rintro e w5 ⟨rfl, b5⟩; have hb5 := hbn; have ri5 := ri; have ro5 := ro; have hbn : Below w.heap.size w w5 := hb5.drew.trans (b5.mono hb5.size); have ri : Row w5 ga 5 (W.cellsOf (H.over b 54)) := (Row.drew ri5).below b5 ri5.lt; have ro : Row w5 (ga + 1) 5 (W.cellsOf (H.over b 92)) := (Row.drew ro5).below b5 ro5.lt; clear b5 hb5 ri5 ro5)
            | (go_at_call 15; refine (C2.out _).mono ?_; rintro e w5 ⟨rfl, b5⟩; have hb5 := hbn; have ri5 := ri; have ro5 := ro; have hbn : Below w.heap.size w w5 := hb5.trans (b5.mono hb5.size); have ri : Row w5 ga 5 (W.cellsOf (H.over b 54)) := ri5.below b5 ri5.lt; have ro : Row w5 (ga + 1) 5 (W.cellsOf (H.over b 92)) := ro5.below b5 ro5.lt; clear b5 hb5 ri5 ro5))
          go_wp2
          go_ret
          exact ⟨rfl, hbn⟩
    · have ri0 : Row ((w.alloc (.cells (W.cellsOf (List.replicate 64 0)).toArray 5 (0, 0))).alloc (.cells (W.cellsOf (List.replicate 64 0)).toArray 5 (0, 0))) (ga + 1) 5 (W.cellsOf (maskRow b 54 0)) := by first | exact (Row.new' rfl hga).alloc _ | exact Row.new' rfl (by simp [hga])
      have ro0 : Row ((w.alloc (.cells (W.cellsOf (List.replicate 64 0)).toArray 5 (0, 0))).alloc (.cells (W.cellsOf (List.replicate 64 0)).toArray 5 (0, 0))) ga 5 (W.cellsOf (maskRow b 92 0)) := by first | exact (Row.new' rfl hga).alloc _ | exact Row.new' rfl (by simp [hga])
      have bb0 := (b0.alloc b0.size (.cells (W.cellsOf (List.replicate 64 0)).toArray 5 (0, 0))).alloc (by have := b0.size; simp <;> omega) (.cells (W.cellsOf (List.replicate 64 0)).toArray 5 (0, 0))
      go_wp2
      rw [← hga]
      clear hga b0
      go_loopw [7, 8] (fun iv _ wx => ∃ i : Nat, i ≤ 64 ∧ iv = .int .i64 i ∧ Row wx (ga + 1) 5 (W.cellsOf (maskRow b 54 i)) ∧ Row wx ga 5 (W.cellsOf (maskRow b 92 i)) ∧ Below w.heap.size w wx) (fun iv _ _ => 64 - (intOf iv).toNat)
      case atStart => exact ⟨0, Nat.zero_le _, rfl, ri0, ro0, (by first | exact bb0 | exact bb0.drew)⟩
      case round =>
        clear ri0 ro0 bb0
        obtain ⟨i, hi, rfl, ri, ro, hb⟩ := hrel
        by_cases hlt : i < 64
        · have ci := (ri.cell i).trans (cellsOf_at (by rw [maskRow_length b HBL.out 54 i hi]; exact hlt))
          have co := (ro.cell i).trans (cellsOf_at (by rw [maskRow_length b HBL.out 92 i hi]; exact hlt))
          have fi := ri.frozen i
          have fo := ro.frozen i
          have hat := HKB.out i hlt
          have bi : (i : Int) < 64 := by omega
          by_cases hin : i < key.size
          · rw [dif_pos hin] at hat
            have ri' := ri.set i (.int .u8 ((key[i] ^^^ 54).toNat : Int))
            rw [cellsOf_put, maskRow_step b HBL.out 54 i hlt _ hat] at ri'
            have ro' := ro.set i (.int .u8 ((key[i] ^^^ 92).toNat : Int))
            rw [cellsOf_put, maskRow_step b HBL.out 92 i hlt _ hat] at ro'
            have h1 := key[i].toNat_lt
            have hx1 : bits .xor .u8 (key[i].toNat : Int) 54 = ((key[i] ^^^ 54).toNat : Int) := by
              rw [show (54 : Int) = ((54 : Nat) : Int) from rfl, u8_xor_nat _ _ h1 (by decide), UInt8.toNat_xor]; rfl
            have hx2 : bits .xor .u8 (key[i].toNat : Int) 92 = ((key[i] ^^^ 92).toNat : Int) := by
              rw [show (92 : Int) = ((92 : Nat) : Int) from rfl, u8_xor_nat _ _ h1 (by decide), UInt8.toNat_xor]; rfl
            have ro'' : Row (wr.setCell ⟨(ga + 1), i, none⟩ (.int .u8 ((key[i] ^^^ 54).toNat : Int))) ga 5 _ := ro.other (by omega) _
            have fo2 := ro''.frozen i
            have co2 := (ro''.cell i).trans (cellsOf_at (by rw [maskRow_length b HBL.out 92 i hi]; exact hlt))
            have ro3 := ro''.set i (.int .u8 ((key[i] ^^^ 92).toNat : Int))
            rw [cellsOf_put, maskRow_step b HBL.out 92 i hlt _ hat] at ro3
            have ri3 := ri'.other (k := ga) (i := i) (by omega) (.int .u8 ((key[i] ^^^ 92).toNat : Int))
            have hin' : (i : Int) < (key.size : Int) := by omega
            clear hat ro' ro''
            generalize key[i] ^^^ 54 = y1 at *
            generalize key[i] ^^^ 92 = y2 at *
            go_wp2
            go_roundw
            case rel => exact ⟨i + 1, by omega, by go_num, ri3, ro3, (hb.setCell (by simp; omega) _).setCell (by simp; omega) _⟩
            case measure => simp [intOf]; omega
          · rw [dif_neg hin] at hat
            have ri' := ri.set i (.int .u8 (((0 : UInt8) ^^^ 54).toNat : Int))
            rw [cellsOf_put, maskRow_step b HBL.out 54 i hlt _ hat] at ri'
            have hx1 : bits .xor .u8 0 54 = 54 := by kernel_rfl
            have hx2 : bits .xor .u8 0 92 = 92 := by kernel_rfl
            have ro'' : Row (wr.setCell ⟨(ga + 1), i, none⟩ (.int .u8 54)) ga 5 _ := ro.other (by omega) _
            have fo2 := ro''.frozen i
            have co2 := (ro''.cell i).trans (cellsOf_at (by rw [maskRow_length b HBL.out 92 i hi]; exact hlt))
            have ro3 := ro''.set i (.int .u8 (((0 : UInt8) ^^^ 92).toNat : Int))
            rw [cellsOf_put, maskRow_step b HBL.out 92 i hlt _ hat] at ro3
            have ri3 := ri'.other (k := ga) (i := i) (by omega) (.int .u8 (((0 : UInt8) ^^^ 92).toNat : Int))
            have hin' : ¬ (i : Int) < (key.size : Int) := by omega
            clear hat ro''
            go_wp2
            go_roundw
            case rel => exact ⟨i + 1, by omega, by go_num, ri3, ro3, (hb.setCell (by simp; omega) _).setCell (by simp; omega) _⟩
            case measure => simp [intOf]; omega
        · obtain rfl : i = 64 := by omega
          rw [maskRow_full b HBL.out] at ri ro
          obtain ⟨xi, hxi⟩ : ∃ xi : ByteArray, xi = ⟨(H.over b 54).toArray⟩ := ⟨_, rfl⟩
          obtain ⟨xo, hxo⟩ : ∃ xo : ByteArray, xo = ⟨(H.over b 92).toArray⟩ := ⟨_, rfl⟩
          have li : xi.size = 64 := by rw [size_is, hxi]; show (H.over b 54).length = 64; rw [H.over_length, HBL.out]
          have lo : xo.size = 64 := by rw [size_is, hxo]; show (H.over b 92).length = 64; rw [H.over_length, HBL.out]
          have ci := rowBack (n := 64) (by rw [H.over_length, HBL.out]) ri
          have co := rowBack (n := 64) (by rw [H.over_length, HBL.out]) ro
          rw [← hxi] at ci
          rw [← hxo] at co
          have DI : Hid (xi.data.toList = H.over b 54) := by show xi.data.toList = _; rw [hxi]
          have DO : Hid (xo.data.toList = H.over b 92) := by show xo.data.toList = _; rw [hxo]
          obtain ⟨t1, ht1⟩ : ∃ t1 : ByteArray, t1 = ⟨(S.sumL (H.over b 54 ++ s.data.toList)).toArray⟩ := ⟨_, rfl⟩
          have lt1 : t1.size = 32 := by rw [ht1]; exact sum_size _
          have hadd1 := fun wx => run_string_add_sum (P := Try.prog) wx xi s (by omega)
          have hadd2 := fun wx => run_string_add_sum (P := Try.prog) wx xo t1 (by omega)
          obtain ⟨u1, hu1⟩ : ∃ u1, u1 = xi ++ s := ⟨_, rfl⟩
          obtain ⟨u2, hu2⟩ : ∃ u2, u2 = xo ++ t1 := ⟨_, rfl⟩
          have C1 : Hid (∀ w, Calls Try.prog 15 #[.string u1] w fun e w' => e = .returned (.string t1) ∧ Below w.heap.size w w') := by
            intro w
            rw [ht1]
            exact refText_at u1 _ (by rw [hu1, add_bytes, DI.out]) (by rw [hu1, ByteArray.size_append]; omega) w
          have C2 : Hid (∀ w, Calls Try.prog 15 #[.string u2] w fun e w' => e = .returned (.string ⟨(H.hmacL key.data.toList s.data.toList).toArray⟩) ∧ Below w.heap.size w w') := by
            intro w
            rw [HH.out]
            exact refText_at u2 _ (by rw [hu2, add_bytes, DO.out, ht1]) (by rw [hu2, ByteArray.size_append]; omega) w
          rw [← hu1] at hadd1
          rw [← hu2] at hadd2
          have CI : Hid (∀ w, Row w (ga + 1) 5 (W.cellsOf (H.over b 54)) → (convert 30 9 (.slice (some ⟨(ga + 1), 0, none⟩) 64 64)).run Try.prog w = .ok (.string xi) w) := by
            intro w h
            rw [hxi]
            exact rowBack (n := 64) (by rw [H.over_length, HBL.out]) h
          have CO : Hid (∀ w, Row w ga 5 (W.cellsOf (H.over b 92)) → (convert 30 9 (.slice (some ⟨ga, 0, none⟩) 64 64)).run Try.prog w = .ok (.string xo) w) := by
            intro w h
            rw [hxo]
            exact rowBack (n := 64) (by rw [H.over_length, HBL.out]) h
          clear hxi hxo li lo hu1 hu2 ht1 lt1 DI DO HBL HB HKB HKD ci co
          have hbn := hb
          go_wp2_with fail
          go_region_held3 (fun w' => (convert 30 9 (.slice (some ⟨(ga + 1), 0, none⟩) 64 64)).run Try.prog w' = .ok (.string xi) w' ∧ (convert 30 9 (.slice (some ⟨ga, 0, none⟩) 64 64)).run Try.prog w' = .ok (.string xo) w' ∧ Row w' (ga + 1) 5 (W.cellsOf (H.over b 54)) ∧ Row w' ga 5 (W.cellsOf (H.over b 92))) (first | exact ⟨CI.out _ (by assumption), CO.out _ (by assumption), by assumption, by assumption⟩ | exact CI.out _ (by assumption) | exact CO.out _ (by assumption) | assumption) (first
            | (go_at_call_of 15 (Value.string u1); refine (C1.out _).mono ?_; rintro e w5 ⟨rfl, b5⟩; have hb5 := hbn; have ri5 := ri; have ro5 := ro; have hbn : Below w.heap.size w w5 := hb5.drew.trans (b5.mono hb5.size); have ri : Row w5 (ga + 1) 5 (W.cellsOf (H.over b 54)) := (Row.drew ri5).below b5 ri5.lt; have ro : Row w5 ga 5 (W.cellsOf (H.over b 92)) := (Row.drew ro5).below b5 ro5.lt; clear b5 hb5 ri5 ro5)
            | (go_at_call 15; refine (C2.out _).mono ?_; rintro e w5 ⟨rfl, b5⟩; have hb5 := hbn; have ri5 := ri; have ro5 := ro; have hbn : Below w.heap.size w w5 := hb5.trans (b5.mono hb5.size); have ri : Row w5 (ga + 1) 5 (W.cellsOf (H.over b 54)) := ri5.below b5 ri5.lt; have ro : Row w5 ga 5 (W.cellsOf (H.over b 92)) := ro5.below b5 ro5.lt; clear b5 hb5 ri5 ro5))
          go_wp2
          go_ret
          exact ⟨rfl, hbn⟩

end Go.Proofs.Ytmpmgkdcbbefpaa
