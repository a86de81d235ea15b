/-
  ScreenScrolls: the walk.
-/
import Derived.Test.YtekpbfbipkjibaaNAwake
import Derived.Test.YtekpbfbipkjibaaNScrollPlain
import Derived.Test.YtekpbfbipkjibaaSTake
import Derived.OpenShut
namespace Go.Proofs.Ytekpbfbipkjibaa
open Go.RowKit
set_option linter.unusedVariables false
set_option maxRecDepth 20000
namespace ScreenScrollsW

set_option maxHeartbeats 8000000 in
theorem core (wd ht : Nat) (a2 a3 : ByteArray) (w : World) (h1 : 1 ≤ wd) (h2 : wd ≤ 80) (h3 : 1 ≤ ht) (h4 : ht ≤ 24) (hs : a2.size ≤ 500) (hl : a3.size < wd) :
    Calls Try.prog 6 #[.int .i64 wd, .int .i64 ht, .string a2, .string a3] w fun e w' => e = .returned (.bool true) ∧ Below w.heap.size w w' := by
  obtain ⟨n, hn⟩ : ∃ n, n = wd * ht := ⟨_, rfl⟩
  have hn19 : n ≤ 1920 := by rw [hn]; exact Nat.mul_le_mul h2 h4
  obtain ⟨B0, hB0⟩ : ∃ B0 : ByteArray, B0 = ⟨(List.replicate n (32 : UInt8)).toArray⟩ := ⟨_, rfl⟩
  have hB0s : B0.size = n := by rw [hB0]; show (List.replicate n (32 : UInt8)).toArray.size = n; simp
  have C0 : Hid (∀ wx, Calls Try.prog 10 #[.int .i64 wd, .int .i64 ht] wx fun e w' => e = .returned (.tuple #[.agg #[.int .i64 wd, .int .i64 ht, .int .i64 0, .int .i64 0, .string B0], .int .i64 0]) ∧ Below wx.heap.size wx w') := fun wx => by
    rw [hB0, hn]; exact scrNew_yes wd ht h1 h2 h3 h4 wx
  have OKn : N11.Ok wd ht (N11.new wd ht) := N11.new_ok h1 h3
  have OK := N11.put_ok a2.data.toList OKn
  have BL := N11.bl_put a2.data.toList OKn (N11.bl_new wd ht _)
  have CP : Hid (∀ wx, Calls Try.prog 12 #[.agg #[.int .i64 wd, .int .i64 ht, .int .i64 0, .int .i64 0, .string B0], .string a2] wx fun e w' => e = .returned (.agg #[.int .i64 wd, .int .i64 ht, .int .i64 (N11.put wd ht (N11.new wd ht) a2.data.toList).x, .int .i64 (N11.put wd ht (N11.new wd ht) a2.data.toList).y, .string ⟨(N11.put wd ht (N11.new wd ht) a2.data.toList).c.toArray⟩]) ∧ Below wx.heap.size wx w') := fun wx => by
    have := put_any wd ht (N11.new wd ht) a2 wx h2 h4 OKn (by omega)
    rw [hB0, hn]; exact this
  obtain ⟨x, y, c, hst⟩ : ∃ x y c, N11.put wd ht (N11.new wd ht) a2.data.toList = ⟨x, y, c⟩ := ⟨_, _, _, rfl⟩
  rw [hst] at CP OK BL
  obtain ⟨C1, hC1⟩ : ∃ C1 : ByteArray, C1 = ⟨c.toArray⟩ := ⟨_, rfl⟩
  rw [← hC1] at CP
  have HOK := Lib.hid OK
  have HBL : Hid (N11.Bl wd ht (y + 1) c) := BL
  have HC1 := Lib.hid hC1
  have HB := Lib.hid hB0
  have HN := Lib.hid hn
  have hln : a3.data.toList.length = a3.size := by simp
  obtain ⟨x2, y2, c2, hd⟩ : ∃ x2 y2 c2, N11.down wd ht ⟨x, y, c⟩ = ⟨x2, y2, c2⟩ := ⟨_, _, _, rfl⟩
  have OK2 := N11.step_ok OK 10
  rw [N11.step_lf, hd] at OK2
  have hx20 : x2 = 0 := by
    have := hd
    unfold N11.down at this
    split at this <;> exact (N11.St.mk.inj this).1.symm
  subst hx20
  obtain ⟨C2, hC2⟩ : ∃ C2 : ByteArray, C2 = ⟨c2.toArray⟩ := ⟨_, rfl⟩
  have LFa : Hid (∀ wx, Calls Try.prog 12 #[.agg #[.int .i64 wd, .int .i64 ht, .int .i64 x, .int .i64 y, .string C1], .string ⟨#[10]⟩] wx fun e w' => e = .returned (.agg #[.int .i64 wd, .int .i64 ht, .int .i64 0, .int .i64 y2, .string C2]) ∧ Below wx.heap.size wx w') := fun wx => by
    have := put_any wd ht ⟨x, y, c⟩ ⟨#[10]⟩ wx h2 h4 OK (by decide)
    rw [show N11.put wd ht ⟨x, y, c⟩ (⟨#[10]⟩ : ByteArray).data.toList = ⟨0, y2, c2⟩ from (N11.step_lf _).trans hd] at this
    rw [hC1, hC2]; exact this
  have CU : Hid (∀ wx, Calls Try.prog 20 #[.agg #[.int .i64 wd, .int .i64 ht, .int .i64 0, .int .i64 y2, .string C2]] wx fun e w' => e = .returned (.tuple #[.int .i64 0, .int .i64 y2]) ∧ Below wx.heap.size wx w') := fun wx => cursor_any _ _ _ _ _ wx
  have C4s : Hid (∀ wx, Calls Try.prog 21 #[.agg #[.int .i64 wd, .int .i64 ht, .int .i64 0, .int .i64 0, .string B0]] wx fun e w' => e = .returned (.string B0) ∧ Below wx.heap.size wx w') := fun wx => cells_any _ _ _ _ _ (by omega) wx
  have C4g : Hid (∀ (xg yg : Nat) wx, Calls Try.prog 21 #[.agg #[.int .i64 wd, .int .i64 ht, .int .i64 xg, .int .i64 yg, .string B0]] wx fun e w' => e = .returned (.string B0) ∧ Below wx.heap.size wx w') := fun xg yg wx => cells_any _ _ _ _ _ (by omega) wx
  obtain ⟨C3, hC3⟩ : ∃ C3 : ByteArray, C3 = ⟨(N11.over c2 (y2 * wd) a3.data.toList).toArray⟩ := ⟨_, rfl⟩
  have CB : Hid ((∀ b ∈ a3.data.toList, N11.shown b = true) → ∀ wx, Calls Try.prog 12 #[.agg #[.int .i64 wd, .int .i64 ht, .int .i64 x, .int .i64 y, .string C1], .string (⟨#[10]⟩ ++ a3)] wx fun e w' => e = .returned (.agg #[.int .i64 wd, .int .i64 ht, .int .i64 (a3.size : Int), .int .i64 y2, .string C3]) ∧ Below wx.heap.size wx w') := fun hsl wx => by
    have := put_any wd ht ⟨x, y, c⟩ (⟨#[10]⟩ ++ a3) wx h2 h4 OK (by rw [ByteArray.size_append]; show 1 + a3.size ≤ _; omega)
    have hp : N11.put wd ht ⟨x, y, c⟩ (⟨#[10]⟩ ++ a3 : ByteArray).data.toList = ⟨a3.size, y2, N11.over c2 (y2 * wd) a3.data.toList⟩ := by
      rw [show (⟨#[10]⟩ ++ a3 : ByteArray).data.toList = [10] ++ a3.data.toList from by simp [ByteArray.data_append], N11.put_append, show N11.put wd ht ⟨x, y, c⟩ [10] = ⟨0, y2, c2⟩ from (N11.step_lf _).trans hd, N11.put_fits OK2.c OK2.y hsl (by rw [hln]; exact hl), hln]
    rw [hp] at this
    rw [hC1, hC3]; exact this
  have OK3 : Hid ((∀ b ∈ a3.data.toList, N11.shown b = true) → (N11.over c2 (y2 * wd) a3.data.toList).length = wd * ht) := fun hsl => by
    have := (N11.put_ok a3.data.toList OK2).c
    rw [N11.put_fits OK2.c OK2.y hsl (by rw [hln]; exact hl)] at this
    exact this
  have RWC : Hid ((∀ b ∈ a3.data.toList, N11.shown b = true) → ∀ wx, Calls Try.prog 22 #[.agg #[.int .i64 wd, .int .i64 ht, .int .i64 (a3.size : Int), .int .i64 y2, .string C3]] wx fun e w' => e = .returned (.slice (some ⟨wx.heap.size + 1, 0, none⟩) ht ht) ∧ w'.ownsRow wx.heap.size 9 1 (.slice (some ⟨wx.heap.size + 1, 0, none⟩) ht ht) ht (txt (N11.rows wd ht (N11.over c2 (y2 * wd) a3.data.toList))) ∧ Below wx.heap.size wx w') := fun hsl wx => by
    rw [hC3]; exact rows_any wd ht _ _ _ h2 h4 (OK3.out hsl) wx
  have CUb : Hid (∀ wx, Calls Try.prog 20 #[.agg #[.int .i64 wd, .int .i64 ht, .int .i64 (a3.size : Int), .int .i64 y2, .string C3]] wx fun e w' => e = .returned (.tuple #[.int .i64 (a3.size : Int), .int .i64 y2]) ∧ Below wx.heap.size wx w') := fun wx => cursor_any _ _ _ _ _ wx
  obtain ⟨RWx, hRW⟩ : ∃ RWx : ByteArray, RWx = ⟨(N11.row wd (N11.over c2 (y2 * wd) a3.data.toList) y2).toArray⟩ := ⟨_, rfl⟩
  have hRX : RWx.extract 0 a3.size = a3 := by
    have := N11.row_over (l := a3.data.toList) OK2.c OK2.y (by rw [hln]; exact hl)
    rw [hln] at this
    rw [hRW]
    apply ByteArray.ext
    apply Array.ext'
    rw [ByteArray.data_extract, Array.toList_extract, List.extract_eq_take_drop, Nat.sub_zero, List.drop_zero]
    exact this
  have hRS : a3.size ≤ RWx.size := by
    have := congrArg ByteArray.size hRX
    rw [ByteArray.size_extract] at this
    omega
  have HRW := Lib.hid hRW
  have HY2 : Hid (y2 < ht) := OK2.y
  have hy2n : y2 < ht := OK2.y
  have hy2 : (y2 : Int) < (ht : Int) := by omega
  have q1 : ¬ (RWx.size : Int) < (a3.size : Int) := by omega
  have t5 : ¬ (500 : Int) < (a2.size : Int) := by omega
  have t6 : ¬ (wd : Int) ≤ (a3.size : Int) := by omega
  have t7 : a3.size ≤ 9223372036854775807 := by omega
  clear hs hn hB0 hB0s OKn OK BL hst hC1 hln hd OK2 hC2 hC3 hRW
  go_enter Try.func6, Try.ntmps6
  go_wp2_with fail
  refine (awake11_any _).mono ?_
  rintro e wa ⟨rfl, ba⟩
  go_wp2_with fail
  refine (C0.out _).mono ?_
  rintro e w2 ⟨rfl, b2⟩
  have bb2 := ba.trans (b2.mono ba.size)
  have rg : Row (w2.alloc (.cells #[.int .i64 wd, .int .i64 ht, .int .i64 0, .int .i64 0, .string B0] 25 (0, 0))) w2.heap.size 25 [.int .i64 wd, .int .i64 ht, .int .i64 0, .int .i64 0, .string B0] := Row.new' rfl rfl
  have bb3 := bb2.alloc bb2.size (.cells #[.int .i64 wd, .int .i64 ht, .int .i64 0, .int .i64 0, .string B0] 25 (0, 0))
  have hwg := bb2.size
  clear b2 bb2 ba
  go_wp2
  generalize w2.heap.size = g at *
  generalize w2.alloc (.cells #[.int .i64 wd, .int .i64 ht, .int .i64 0, .int .i64 0, .string B0] 25 (0, 0)) = w3 at *
  go_loopw [11, 43] (fun _ iv wr => ∃ i : Nat, i ≤ a3.size ∧ iv = .int .i64 i ∧ Hid (∀ j, j < i → N11.shown (a3.data.toList.getD j 0) = true) ∧ wr = w3) (fun _ iv _ => a3.size - (intOf iv).toNat)
  case atStart => exact ⟨0, Nat.zero_le _, rfl, fun j hj => by omega, rfl⟩
  case round =>
    obtain ⟨i, hi, rfl, HSH, rfl⟩ := hrel
    by_cases hlt : i < a3.size
    · have hs : (i : Int) < a3.size := by omega
      have hat : a3.data.toList.getD i 0 = a3[i] := by
        have h' : i < a3.data.toList.length := by simpa using hlt
        rw [List.getD_eq_getElem?_getD, List.getElem?_eq_getElem h']; rfl
      by_cases u1 : a3[i].toNat < 32
      · have v1 : (a3[i].toNat : Int) < 32 := by omega
        clear hat
        go_wp2
        go_ret
        exact ⟨rfl, bb3⟩
      · have v1 : ¬ (a3[i].toNat : Int) < 32 := by omega
        by_cases u2 : 126 < a3[i].toNat
        · have v2 : (126 : Int) < (a3[i].toNat : Int) := by omega
          clear hat
          go_wp2
          go_ret
          exact ⟨rfl, bb3⟩
        · have v2 : ¬ (126 : Int) < (a3[i].toNat : Int) := by omega
          have HSH' : Hid (∀ j, j < i + 1 → N11.shown (a3.data.toList.getD j 0) = true) := fun j hj => by
            by_cases hji : j < i
            · exact HSH.out j hji
            · obtain rfl : j = i := by omega
              rw [hat]; unfold N11.shown; simp; omega
          clear hat HSH
          go_wp2
          go_roundw
          case rel => exact ⟨i + 1, by omega, by go_num, HSH', by first | rfl | trivial⟩
          case measure => simp [intOf]; omega
    · obtain rfl : i = a3.size := by omega
      have HSL : Hid (∀ b ∈ a3.data.toList, N11.shown b = true) := fun b hb => by
        obtain ⟨j, hj, rfl⟩ := List.getElem_of_mem hb
        have := HSH.out j (by simpa using hj)
        rwa [List.getD_eq_getElem?_getD, List.getElem?_eq_getElem hj] at this
      clear HSH
      go_wp2_with (first | refine wpList_load_row rfl 25 (.tmp 9) rfl g rfl _ _ _ _ rg Try.underlying25 rfl infoScr ?_)
      refine (CP.out _).mono ?_
      rintro e w4 ⟨rfl, b4⟩
      have rg4 := (rg.below b4 rg.lt).alloc (.cells #[.int .i64 wd, .int .i64 ht, .int .i64 x, .int .i64 y, .string C1] 25 (0, 0))
      have hgga := (rg.below b4 rg.lt).lt
      have bb4 := bb3.trans (b4.mono bb3.size)
      have ra4 : Row (w4.alloc (.cells #[.int .i64 wd, .int .i64 ht, .int .i64 x, .int .i64 y, .string C1] 25 (0, 0))) w4.heap.size 25 [.int .i64 wd, .int .i64 ht, .int .i64 x, .int .i64 y, .string C1] := Row.new' rfl rfl
      have bb5 := bb4.alloc bb4.size (.cells #[.int .i64 wd, .int .i64 ht, .int .i64 x, .int .i64 y, .string C1] 25 (0, 0))
      clear rg bb3 b4 bb4
      have rg5 := rg4.alloc (.cells #[.int .i64 wd, .int .i64 ht, .int .i64 x, .int .i64 y, .string C1] 25 (0, 0))
      have rg5' : Row ((w4.alloc (.cells #[.int .i64 wd, .int .i64 ht, .int .i64 x, .int .i64 y, .string C1] 25 (0, 0))).alloc (.cells #[.int .i64 wd, .int .i64 ht, .int .i64 x, .int .i64 y, .string C1] 25 (0, 0))) (w4.heap.size + 1) 25 [.int .i64 wd, .int .i64 ht, .int .i64 x, .int .i64 y, .string C1] := Row.new' rfl (by simp)
      have ra5 := ra4.alloc (.cells #[.int .i64 wd, .int .i64 ht, .int .i64 x, .int .i64 y, .string C1] 25 (0, 0))
      have bb6 := bb5.alloc bb5.size (.cells #[.int .i64 wd, .int .i64 ht, .int .i64 x, .int .i64 y, .string C1] 25 (0, 0))
      have ra4' := ra4
      clear rg4 bb5
      go_wp2_with (first | refine wpList_load_row rfl 25 (.tmp 12) rfl w4.heap.size rfl _ _ _ _ ra4' Try.underlying25 rfl infoScr ?_)
      clear ra4 ra4'
      generalize w4.heap.size = ga at *
      generalize (w4.alloc (.cells #[.int .i64 wd, .int .i64 ht, .int .i64 x, .int .i64 y, .string C1] 25 (0, 0))).alloc (.cells #[.int .i64 wd, .int .i64 ht, .int .i64 x, .int .i64 y, .string C1] 25 (0, 0)) = w5 at *
      go_loopw [62] (fun iv wr => ∃ (i xg yg K : Nat) (cg : List UInt8) (Cg : ByteArray), i ≤ ht ∧ iv = .int .i64 i ∧ Hid (N11.Ok wd ht ⟨xg, yg, cg⟩ ∧ N11.Bl wd ht K cg ∧ K + i = yg + 1 ∧ Cg = ⟨cg.toArray⟩) ∧ Row wr g 25 [.int .i64 wd, .int .i64 ht, .int .i64 0, .int .i64 0, .string B0] ∧ Row wr ga 25 [.int .i64 wd, .int .i64 ht, .int .i64 x, .int .i64 y, .string C1] ∧ Row wr (ga + 1) 25 [.int .i64 wd, .int .i64 ht, .int .i64 xg, .int .i64 yg, .string Cg] ∧ Below w.heap.size w wr) (fun iv _ => ht - (intOf iv).toNat)
      case atStart => exact ⟨0, x, y, y + 1, c, C1, Nat.zero_le _, rfl, ⟨HOK.out, HBL.out, by omega, HC1.out⟩, rg5, ra5, rg5', bb6⟩
      case round =>
        clear rg5 ra5 rg5' bb6
        obtain ⟨i, xg, yg, K, cg, Cg, hi, rfl, HG, rg, ra, rgg, bba⟩ := hrel
        by_cases hlt : i < ht
        · have hs : (i : Int) < ht := by omega
          obtain ⟨gok, gbl, gk, gc⟩ := HG.out
          obtain ⟨K2, nbl, nk⟩ := N11.lf_step gok gbl gk hlt
          have nok := N11.step_ok gok 10
          rw [N11.step_lf] at nok
          have CL : Hid (∀ wx, Calls Try.prog 12 #[.agg #[.int .i64 wd, .int .i64 ht, .int .i64 xg, .int .i64 yg, .string Cg], .string ⟨#[10]⟩] wx fun e w' => e = .returned (.agg #[.int .i64 wd, .int .i64 ht, .int .i64 (N11.down wd ht ⟨xg, yg, cg⟩).x, .int .i64 (N11.down wd ht ⟨xg, yg, cg⟩).y, .string ⟨(N11.down wd ht ⟨xg, yg, cg⟩).c.toArray⟩]) ∧ Below wx.heap.size wx w') := fun wx => by
            have := put_any wd ht ⟨xg, yg, cg⟩ ⟨#[10]⟩ wx h2 h4 gok (by decide)
            rw [show N11.put wd ht ⟨xg, yg, cg⟩ (⟨#[10]⟩ : ByteArray).data.toList = N11.down wd ht ⟨xg, yg, cg⟩ from N11.step_lf _] at this
            rw [gc]; exact this
          obtain ⟨x3, y3, c3, h3'⟩ : ∃ x3 y3 c3, N11.down wd ht ⟨xg, yg, cg⟩ = ⟨x3, y3, c3⟩ := ⟨_, _, _, rfl⟩
          rw [h3'] at CL nok nbl nk
          obtain ⟨C3, hC3⟩ : ∃ C3 : ByteArray, C3 = ⟨c3.toArray⟩ := ⟨_, rfl⟩
          have HG2 : Hid (N11.Ok wd ht ⟨x3, y3, c3⟩ ∧ N11.Bl wd ht K2 c3 ∧ K2 + (i + 1) = y3 + 1 ∧ C3 = ⟨c3.toArray⟩) := ⟨nok, nbl, nk, hC3⟩
          rw [← hC3] at CL
          clear HG gok gbl gk gc nok nbl nk h3' hC3
          go_wp2_with (first | refine wpList_load_row rfl 25 (.tmp 13) rfl (ga + 1) rfl _ _ _ _ rgg Try.underlying25 rfl infoScr ?_)
          refine (CL.out _).mono ?_
          rintro e w6 ⟨rfl, b6⟩
          have rg6 := rg.below b6 rg.lt
          have ra6 := ra.below b6 ra.lt
          have rgg6 := rgg.below b6 rgg.lt
          have bb6 := bba.trans (b6.mono bba.size)
          have rg7 := rg6.setRow_other (k := ga + 1) (by omega) (List.toArray [.int .i64 wd, .int .i64 ht, .int .i64 x3, .int .i64 y3, .string C3])
          have ra7 := ra6.setRow_other (k := ga + 1) (by omega) (List.toArray [.int .i64 wd, .int .i64 ht, .int .i64 x3, .int .i64 y3, .string C3])
          have rgg7 := rgg6.setRow [.int .i64 wd, .int .i64 ht, .int .i64 x3, .int .i64 y3, .string C3]
          have bb7 := below_row bb6 (show w.heap.size ≤ ga + 1 by omega) (List.toArray [.int .i64 wd, .int .i64 ht, .int .i64 x3, .int .i64 y3, .string C3])
          clear rg ra rgg bba rg6 ra6 bb6 b6
          go_wp2_with (first | refine wpList_store_row rfl 25 (.tmp 13) (.tmp 65) rfl (ga + 1) _ rfl rfl _ _ rgg6 infoScr rfl (by simp [Value.oneCell']) ?_)
          go_roundw
          case rel => exact ⟨i + 1, x3, y3, K2, c3, C3, by omega, by go_num, HG2, rg7, ra7, rgg7, bb7⟩
          case measure => simp [intOf]; omega
        · obtain rfl : ht = i := by omega
          have hCg : B0 = Cg := by
            symm
            obtain ⟨gok, gbl, gk, gc⟩ := HG.out
            have hy : yg < ht := gok.y
            obtain rfl : K = 0 := by omega
            have hc2 := N11.bl_all (c := cg) gok.c gbl
            rw [gc, HB.out, hc2, HN.out]
          subst hCg
          clear HG
          go_wp2_with (first | refine wpList_load_row rfl 25 (.tmp 12) rfl ga rfl _ _ _ _ ra Try.underlying25 rfl infoScr ?_)
          refine (LFa.out _).mono ?_
          rintro e w6 ⟨rfl, b6⟩
          have rg6 := rg.below b6 rg.lt
          have ra6 := ra.below b6 ra.lt
          have rgg6 := rgg.below b6 rgg.lt
          have bb6 := bba.trans (b6.mono bba.size)
          clear rg ra rgg bba b6
          go_wp2_with fail
          refine (CU.out _).mono ?_
          rintro e w7 ⟨rfl, b7⟩
          have rg7 := rg6.below b7 rg6.lt
          have ra7 := ra6.below b7 ra6.lt
          have rgg7 := rgg6.below b7 rgg6.lt
          have bb7 := bb6.trans (b7.mono bb6.size)
          clear rg6 ra6 rgg6 bb6 b7
          go_wp2_with (first | refine wpList_load_row rfl 25 (.tmp 12) rfl ga rfl _ _ _ _ ra7 Try.underlying25 rfl infoScr ?_)
          refine (CB.out HSL.out _).mono ?_
          rintro e w8 ⟨rfl, b8⟩
          have rg8 := (rg7.below b8 rg7.lt).alloc (.cells #[.int .i64 wd, .int .i64 ht, .int .i64 (a3.size : Int), .int .i64 y2, .string C3] 25 (0, 0))
          have rgg8 := (rgg7.below b8 rgg7.lt).alloc (.cells #[.int .i64 wd, .int .i64 ht, .int .i64 (a3.size : Int), .int .i64 y2, .string C3] 25 (0, 0))
          have bb8 := bb7.trans (b8.mono bb7.size)
          have rb8 : Row (w8.alloc (.cells #[.int .i64 wd, .int .i64 ht, .int .i64 (a3.size : Int), .int .i64 y2, .string C3] 25 (0, 0))) w8.heap.size 25 [.int .i64 wd, .int .i64 ht, .int .i64 (a3.size : Int), .int .i64 y2, .string C3] := Row.new' rfl rfl
          have bb9 := bb8.alloc bb8.size (.cells #[.int .i64 wd, .int .i64 ht, .int .i64 (a3.size : Int), .int .i64 y2, .string C3] 25 (0, 0))
          clear rg7 ra7 rgg7 bb7 b8 bb8
          go_wp2_with fail
          generalize w8.heap.size = gb at *
          generalize w8.alloc (.cells #[.int .i64 wd, .int .i64 ht, .int .i64 (a3.size : Int), .int .i64 y2, .string C3] 25 (0, 0)) = w9 at *
          refine (RWC.out HSL.out _).mono ?_
          rintro e w10 ⟨rfl, ho, b10⟩
          have rg10 := rg8.below b10 rg8.lt
          have rgg10 := rgg8.below b10 rgg8.lt
          have rb10 := rb8.below b10 rb8.lt
          have bb10 := bb9.trans (b10.mono bb9.size)
          have hcr : w10.cell? ⟨w9.heap.size + 1, y2, none⟩ = some (.string RWx) := by
            rw [ho.cellAt y2 (by omega), HRW.out]
            unfold txt
            rw [List.getElem?_map, N11.rows_at HY2.out]
            rfl
          clear rg8 rgg8 rb8 bb9 ho b10
          go_wp2_with (first | refine wpList_load_row rfl 25 (.tmp 16) rfl gb rfl _ _ _ _ rb10 Try.underlying25 rfl infoScr ?_)
          refine (CUb.out _).mono ?_
          rintro e w11 ⟨rfl, b11⟩
          have rg := rg10.below b11 rg10.lt
          have rgg := rgg10.below b11 rgg10.lt
          have bba := bb10.trans (b11.mono bb10.size)
          clear rg10 rgg10 rb10 bb10 b11 hcr
          obtain ⟨gg, hgg⟩ : ∃ gg, gg = ga + 1 := ⟨_, rfl⟩
          rw [← hgg] at rgg ⊢
          clear hgg
          go_wp2
          refine wp_region_held_drew (S := fun w' => Row w' g 25 [.int .i64 wd, .int .i64 ht, .int .i64 0, .int .i64 0, .string B0] ∧ Row w' gg 25 [.int .i64 wd, .int .i64 ht, .int .i64 xg, .int .i64 yg, .string B0] ∧ Below w.heap.size w w') (by kernel_rfl) (⟨rg.drew, rgg.drew, bba.drew⟩) (fun hHeld => ?_)
          refine take_d 0 (some 87) (.agg #[.int .i64 wd, .int .i64 ht, .int .i64 xg, .int .i64 yg, .string B0]) rfl (by kernel_rfl) (by kernel_rfl) (by kernel_rfl) (fun _ _ _ h => h) (fun oi h => by cases h; exact yieldsIf_load_mid (by rfl) 25 (.tmp 13) rfl gg 0 rfl [.int .i64 wd, .int .i64 ht, .int .i64 xg, .int .i64 yg, .string B0] _ (fun w' hS' => hS'.2.1.range) Try.underlying25 rfl infoScr) hHeld ?_
          try simp only [Act.put, List.setIfInBounds_toArray, List.set_cons_zero, List.set_cons_succ]
          refine take_d 2 (some 89) (.agg #[.int .i64 wd, .int .i64 ht, .int .i64 0, .int .i64 0, .string B0]) rfl (by kernel_rfl) (by kernel_rfl) (by kernel_rfl) (fun _ _ _ h => h) (fun oi h => by cases h; exact yieldsIf_load_mid (by rfl) 25 (.tmp 9) rfl g 0 rfl [.int .i64 wd, .int .i64 ht, .int .i64 0, .int .i64 0, .string B0] _ (fun w' hS' => hS'.1.range) Try.underlying25 rfl infoScr) hHeld ?_
          try simp only [Act.put, List.setIfInBounds_toArray, List.set_cons_zero, List.set_cons_succ]
          refine one_d 1 (some 88) rfl (by kernel_rfl) ?_
          intro o ho hd K hK
          cases ho
          go_simp
          refine (C4g.out xg yg _).mono ?_
          rintro e v1 ⟨rfl, bb⟩
          have hHeld' := hHeld
          clear hHeld
          have hHeld := hHeld'
          clear hHeld'
          refine hK.out _ _ (⟨hHeld.1.below bb hHeld.1.lt, hHeld.2.1.below bb hHeld.2.1.lt, hHeld.2.2.trans (bb.mono hHeld.2.2.size)⟩) (fun hHeld => ?_)
          clear hK K hd bb
          try simp only [Act.put, List.setIfInBounds_toArray, List.set_cons_zero, List.set_cons_succ]
          refine one_d 3 (some 90) rfl (by kernel_rfl) ?_
          intro o ho hd K hK
          cases ho
          go_simp
          refine (C4s.out _).mono ?_
          rintro e v2 ⟨rfl, bb⟩
          have hHeld' := hHeld
          clear hHeld
          have hHeld := hHeld'
          clear hHeld'
          refine hK.out _ _ (⟨hHeld.1.below bb hHeld.1.lt, hHeld.2.1.below bb hHeld.2.1.lt, hHeld.2.2.trans (bb.mono hHeld.2.2.size)⟩) (fun hHeld => ?_)
          clear hK K hd bb
          try simp only [Act.put, List.setIfInBounds_toArray, List.set_cons_zero, List.set_cons_succ]
          refine take_d 4 (some 91) (.bool true) rfl (by kernel_rfl) (by kernel_rfl) (by kernel_rfl) (fun _ _ _ h => h) (fun oi h => by cases h; exact Or.inl ⟨by rfl, fun w' hS' => by go_simp⟩) hHeld ?_
          try simp only [Act.put, List.setIfInBounds_toArray, List.set_cons_zero, List.set_cons_succ]
          refine take_d 5 (some 92) (.bool true) rfl (by kernel_rfl) (by kernel_rfl) (by kernel_rfl) (fun _ _ _ h => h) (fun oi h => by cases h; exact Or.inl ⟨by rfl, fun w' hS' => by go_simp⟩) hHeld ?_
          try simp only [Act.put, List.setIfInBounds_toArray, List.set_cons_zero, List.set_cons_succ]
          refine take_d 6 (some 93) (.string RWx) rfl (by kernel_rfl) (by kernel_rfl) (by kernel_rfl) (fun _ _ _ h => h) (fun oi h => by cases h; exact Or.inl ⟨by rfl, fun w' hS' => by go_simp⟩) hHeld ?_
          try simp only [Act.put, List.setIfInBounds_toArray, List.set_cons_zero, List.set_cons_succ]
          refine take_d 7 (some 94) (.string a3) rfl (by kernel_rfl) (by kernel_rfl) (by kernel_rfl) (fun _ _ _ h => h) (fun oi h => by cases h; exact Or.inl ⟨by rfl, fun w' hS' => by go_simp⟩) hHeld ?_
          try simp only [Act.put, List.setIfInBounds_toArray, List.set_cons_zero, List.set_cons_succ]
          refine take_d 8 (some 95) (.int .i64 (a3.size : Int)) rfl (by kernel_rfl) (by kernel_rfl) (by kernel_rfl) (fun _ _ _ h => h) (fun oi h => by cases h; exact Or.inl ⟨by rfl, fun w' hS' => by go_simp⟩) hHeld ?_
          try simp only [Act.put, List.setIfInBounds_toArray, List.set_cons_zero, List.set_cons_succ]
          refine take_d 9 (some 96) (.string a3) rfl (by kernel_rfl) (by kernel_rfl) (by kernel_rfl) (fun _ _ _ h => h) (fun oi h => by cases h; exact Or.inl ⟨by rfl, fun w' hS' => by go_simp⟩) hHeld ?_
          try simp only [Act.put, List.setIfInBounds_toArray, List.set_cons_zero, List.set_cons_succ]
          refine take_d 10 (some 97) (.string a3) rfl (by kernel_rfl) (by kernel_rfl) (by kernel_rfl) (fun _ _ _ h => h) (fun oi h => by cases h; exact Or.inl ⟨by rfl, fun w' hS' => by go_simp⟩) hHeld ?_
          try simp only [Act.put, List.setIfInBounds_toArray, List.set_cons_zero, List.set_cons_succ]
          refine take_d 11 (some 98) (.bool true) rfl (by kernel_rfl) (by kernel_rfl) (by kernel_rfl) (fun _ _ _ h => h) (fun oi h => by cases h; exact Or.inl ⟨by rfl, fun w' hS' => by go_simp⟩) hHeld ?_
          try simp only [Act.put, List.setIfInBounds_toArray, List.set_cons_zero, List.set_cons_succ]
          refine take_d 12 (some 99) (.bool true) rfl (by kernel_rfl) (by kernel_rfl) (by kernel_rfl) (fun _ _ _ h => h) (fun oi h => by cases h; exact Or.inl ⟨by rfl, fun w' hS' => by go_simp⟩) hHeld ?_
          try simp only [Act.put, List.setIfInBounds_toArray, List.set_cons_zero, List.set_cons_succ]
          refine take_d 13 (some 100) (.bool true) rfl (by kernel_rfl) (by kernel_rfl) (by kernel_rfl) (fun _ _ _ h => h) (fun oi h => by cases h; exact Or.inl ⟨by rfl, fun w' hS' => by go_simp⟩) hHeld ?_
          try simp only [Act.put, List.setIfInBounds_toArray, List.set_cons_zero, List.set_cons_succ]
          refine take_d 14 (some 101) (.int .i64 y2) rfl (by kernel_rfl) (by kernel_rfl) (by kernel_rfl) (fun _ _ _ h => h) (fun oi h => by cases h; exact Or.inl ⟨by rfl, fun w' hS' => by go_simp⟩) hHeld ?_
          try simp only [Act.put, List.setIfInBounds_toArray, List.set_cons_zero, List.set_cons_succ]
          refine take_d 15 (some 102) (.int .i64 y2) rfl (by kernel_rfl) (by kernel_rfl) (by kernel_rfl) (fun _ _ _ h => h) (fun oi h => by cases h; exact Or.inl ⟨by rfl, fun w' hS' => by go_simp⟩) hHeld ?_
          try simp only [Act.put, List.setIfInBounds_toArray, List.set_cons_zero, List.set_cons_succ]
          refine take_d 16 (some 103) (.bool true) rfl (by kernel_rfl) (by kernel_rfl) (by kernel_rfl) (fun _ _ _ h => h) (fun oi h => by cases h; exact Or.inl ⟨by rfl, fun w' hS' => by go_simp⟩) hHeld ?_
          try simp only [Act.put, List.setIfInBounds_toArray, List.set_cons_zero, List.set_cons_succ]
          refine take_d 17 (some 104) (.bool true) rfl (by kernel_rfl) (by kernel_rfl) (by kernel_rfl) (fun _ _ _ h => h) (fun oi h => by cases h; exact Or.inl ⟨by rfl, fun w' hS' => by go_simp⟩) hHeld ?_
          try simp only [Act.put, List.setIfInBounds_toArray, List.set_cons_zero, List.set_cons_succ]
          refine take_d 18 (some 105) (.bool true) rfl (by kernel_rfl) (by kernel_rfl) (by kernel_rfl) (fun _ _ _ h => h) (fun oi h => by cases h; exact Or.inl ⟨by rfl, fun w' hS' => by go_simp⟩) hHeld ?_
          try simp only [Act.put, List.setIfInBounds_toArray, List.set_cons_zero, List.set_cons_succ]
          refine take_d 19 (some 106) (.int .i64 (a3.size : Int)) rfl (by kernel_rfl) (by kernel_rfl) (by kernel_rfl) (fun _ _ _ h => h) (fun oi h => by cases h; exact Or.inl ⟨by rfl, fun w' hS' => by go_simp⟩) hHeld ?_
          try simp only [Act.put, List.setIfInBounds_toArray, List.set_cons_zero, List.set_cons_succ]
          refine take_d 20 (some 107) (.string a3) rfl (by kernel_rfl) (by kernel_rfl) (by kernel_rfl) (fun _ _ _ h => h) (fun oi h => by cases h; exact Or.inl ⟨by rfl, fun w' hS' => by go_simp⟩) hHeld ?_
          try simp only [Act.put, List.setIfInBounds_toArray, List.set_cons_zero, List.set_cons_succ]
          refine take_d 21 (some 108) (.int .i64 (a3.size : Int)) rfl (by kernel_rfl) (by kernel_rfl) (by kernel_rfl) (fun _ _ _ h => h) (fun oi h => by cases h; exact Or.inl ⟨by rfl, fun w' hS' => by go_simp⟩) hHeld ?_
          try simp only [Act.put, List.setIfInBounds_toArray, List.set_cons_zero, List.set_cons_succ]
          refine take_d 22 (some 109) (.bool true) rfl (by kernel_rfl) (by kernel_rfl) (by kernel_rfl) (fun _ _ _ h => h) (fun oi h => by cases h; exact Or.inl ⟨by rfl, fun w' hS' => by go_simp⟩) hHeld ?_
          try simp only [Act.put, List.setIfInBounds_toArray, List.set_cons_zero, List.set_cons_succ]
          refine take_d 23 (some 110) (.bool true) rfl (by kernel_rfl) (by kernel_rfl) (by kernel_rfl) (fun _ _ _ h => h) (fun oi h => by cases h; exact Or.inl ⟨by rfl, fun w' hS' => by go_simp⟩) hHeld ?_
          try simp only [Act.put, List.setIfInBounds_toArray, List.set_cons_zero, List.set_cons_succ]
          refine take_d 24 (some 8) (.bool true) rfl (by kernel_rfl) (by kernel_rfl) (by kernel_rfl) (fun _ _ _ h => h) (fun oi h => by cases h; exact Or.inl ⟨by rfl, fun w' hS' => by go_simp⟩) hHeld ?_
          try simp only [Act.put, List.setIfInBounds_toArray, List.set_cons_zero, List.set_cons_succ]
          refine wpAnyH_done (by kernel_rfl) ?_ _
          try simp only [Act.put]
          have hb := hHeld.2.2
          go_wp2
          go_ret
          exact ⟨rfl, hb⟩

set_option maxHeartbeats 2000000 in
theorem shortA (a0 a1 : Int) (a2 a3 : ByteArray) (w : World) (h : (decide (1 ≤ a0) && decide (a0 ≤ 80) && decide (1 ≤ a1) && decide (a1 ≤ 24)) = false) :
    Calls Try.prog 6 #[.int .i64 a0, .int .i64 a1, .string a2, .string a3] w fun e w' => e = .returned (.bool true) ∧ Below w.heap.size w w' := by
  have CN := Lib.hid (scrNew_no a0 a1 h)
  clear h
  go_enter Try.func6, Try.ntmps6
  go_wp2_with fail
  refine (awake11_any _).mono ?_
  rintro e wa ⟨rfl, ba⟩
  go_wp2_with fail
  refine (CN.out _).mono ?_
  rintro e w2 ⟨rfl, b2⟩
  have bb2 := ba.trans (b2.mono ba.size)
  have bb3 := bb2.alloc bb2.size (.cells #[.int .i64 0, .int .i64 0, .int .i64 0, .int .i64 0, .string ⟨#[]⟩] 25 (0, 0))
  clear ba b2 bb2
  go_wp2
  go_ret
  exact ⟨rfl, bb3⟩

set_option maxHeartbeats 2000000 in
theorem shortB (wd ht : Nat) (a2 a3 : ByteArray) (w : World) (h1 : 1 ≤ wd) (h2 : wd ≤ 80) (h3 : 1 ≤ ht) (h4 : ht ≤ 24) (hs : 500 < a2.size) :
    Calls Try.prog 6 #[.int .i64 wd, .int .i64 ht, .string a2, .string a3] w fun e w' => e = .returned (.bool true) ∧ Below w.heap.size w w' := by
  have CN := Lib.hid (scrNew_yes wd ht h1 h2 h3 h4)
  have t1 : (500 : Int) < (a2.size : Int) := by omega
  generalize (⟨(List.replicate (wd * ht) 32).toArray⟩ : ByteArray) = B0 at *
  go_enter Try.func6, Try.ntmps6
  go_wp2_with fail
  refine (awake11_any _).mono ?_
  rintro e wa ⟨rfl, ba⟩
  go_wp2_with fail
  refine (CN.out _).mono ?_
  rintro e w2 ⟨rfl, b2⟩
  have bb2 := ba.trans (b2.mono ba.size)
  have bb3 := bb2.alloc bb2.size (.cells #[.int .i64 wd, .int .i64 ht, .int .i64 0, .int .i64 0, .string B0] 25 (0, 0))
  clear ba b2 bb2
  go_wp2
  go_ret
  exact ⟨rfl, bb3⟩

set_option maxHeartbeats 2000000 in
theorem shortC (wd ht : Nat) (a2 a3 : ByteArray) (w : World) (h1 : 1 ≤ wd) (h2 : wd ≤ 80) (h3 : 1 ≤ ht) (h4 : ht ≤ 24) (hs : ¬ 500 < a2.size) (hl : wd ≤ a3.size) :
    Calls Try.prog 6 #[.int .i64 wd, .int .i64 ht, .string a2, .string a3] w fun e w' => e = .returned (.bool true) ∧ Below w.heap.size w w' := by
  have CN := Lib.hid (scrNew_yes wd ht h1 h2 h3 h4)
  have t1 : ¬ (500 : Int) < (a2.size : Int) := by omega
  have t2 : (wd : Int) ≤ (a3.size : Int) := by omega
  generalize (⟨(List.replicate (wd * ht) 32).toArray⟩ : ByteArray) = B0 at *
  go_enter Try.func6, Try.ntmps6
  go_wp2_with fail
  refine (awake11_any _).mono ?_
  rintro e wa ⟨rfl, ba⟩
  go_wp2_with fail
  refine (CN.out _).mono ?_
  rintro e w2 ⟨rfl, b2⟩
  have bb2 := ba.trans (b2.mono ba.size)
  have bb3 := bb2.alloc bb2.size (.cells #[.int .i64 wd, .int .i64 ht, .int .i64 0, .int .i64 0, .string B0] 25 (0, 0))
  clear ba b2 bb2
  go_wp2
  go_ret
  exact ⟨rfl, bb3⟩

theorem walk (a0 : Int) (a1 : Int) (a2 : ByteArray) (a3 : ByteArray) (w : World) (w0 : (Lit.int .i64 a0).wf = true) (w1 : (Lit.int .i64 a1).wf = true) (w2 : a2.size ≤ maxLen) (w3 : a3.size ≤ maxLen) :
    Calls Try.prog 6 #[.int .i64 a0, .int .i64 a1, .string a2, .string a3] w fun e w' => e = .returned (.bool true) ∧ Below w.heap.size w w' := by
  by_cases h : (decide (1 ≤ a0) && decide (a0 ≤ 80) && decide (1 ≤ a1) && decide (a1 ≤ 24)) = true
  · have h' := h
    simp only [Bool.and_eq_true, decide_eq_true_eq] at h'
    obtain ⟨⟨⟨t1, t2⟩, t3⟩, t4⟩ := h'
    obtain ⟨wd, rfl⟩ := Int.eq_ofNat_of_zero_le (show 0 ≤ a0 by omega)
    obtain ⟨ht, rfl⟩ := Int.eq_ofNat_of_zero_le (show 0 ≤ a1 by omega)
    by_cases hs : 500 < a2.size
    · exact shortB wd ht a2 a3 w (by omega) (by omega) (by omega) (by omega) hs
    · by_cases hl : wd ≤ a3.size
      · exact shortC wd ht a2 a3 w (by omega) (by omega) (by omega) (by omega) hs hl
      · exact core wd ht a2 a3 w (by omega) (by omega) (by omega) (by omega) (by omega) (by omega)
  · exact shortA a0 a1 a2 a3 w (by simpa using h)
end ScreenScrollsW
end Go.Proofs.Ytekpbfbipkjibaa
