/-
  ScreenStays: the walk.
-/
import Derived.Test.YtekpbfbipkjibaaNAwake
import Derived.Test.YtekpbfbipkjibaaSTake
import Derived.OpenShut
namespace Go.Proofs.Ytekpbfbipkjibaa
open Go.RowKit
set_option linter.unusedVariables false
set_option maxRecDepth 20000
namespace ScreenStaysW

set_option maxHeartbeats 8000000 in
theorem coreG (wd ht : Nat) (a2 : ByteArray) (b : UInt8) (w : World) (h1 : 1 ≤ wd) (h2 : wd ≤ 80) (h3 : 1 ≤ ht) (h4 : ht ≤ 24) (hs : a2.size ≤ 2000) (hb : 126 < b.toNat) :
    Calls Try.prog 5 #[.int .i64 wd, .int .i64 ht, .string a2, .int .u8 (b.toNat : Int)] w fun e w' => e = .returned (.bool true) ∧ Below w.heap.size w w' := by
  obtain ⟨n, hn⟩ : ∃ n, n = wd * ht := ⟨_, rfl⟩
  have hn19 : n ≤ 1920 := by rw [hn]; exact Nat.mul_le_mul h2 h4
  obtain ⟨B0, hB0⟩ : ∃ B0 : ByteArray, B0 = ⟨(List.replicate n (32 : UInt8)).toArray⟩ := ⟨_, rfl⟩
  have C0 : Hid (∀ wx, Calls Try.prog 10 #[.int .i64 wd, .int .i64 ht] wx fun e w' => e = .returned (.tuple #[.agg #[.int .i64 wd, .int .i64 ht, .int .i64 0, .int .i64 0, .string B0], .int .i64 0]) ∧ Below wx.heap.size wx w') := fun wx => by
    rw [hB0, hn]; exact scrNew_yes wd ht h1 h2 h3 h4 wx
  have OKn : N11.Ok wd ht (N11.new wd ht) := N11.new_ok h1 h3
  have OK := N11.put_ok a2.data.toList OKn
  have CP : Hid (∀ wx, Calls Try.prog 12 #[.agg #[.int .i64 wd, .int .i64 ht, .int .i64 0, .int .i64 0, .string B0], .string a2] wx fun e w' => e = .returned (.agg #[.int .i64 wd, .int .i64 ht, .int .i64 (N11.put wd ht (N11.new wd ht) a2.data.toList).x, .int .i64 (N11.put wd ht (N11.new wd ht) a2.data.toList).y, .string ⟨(N11.put wd ht (N11.new wd ht) a2.data.toList).c.toArray⟩]) ∧ Below wx.heap.size wx w') := fun wx => by
    have := put_any wd ht (N11.new wd ht) a2 wx h2 h4 OKn (by omega)
    rw [hB0, hn]; exact this
  obtain ⟨x, y, c, hst⟩ : ∃ x y c, N11.put wd ht (N11.new wd ht) a2.data.toList = ⟨x, y, c⟩ := ⟨_, _, _, rfl⟩
  rw [hst] at CP OK
  have hxw : x < wd := OK.x
  have hyh : y < ht := OK.y
  obtain ⟨C1, hC1⟩ : ∃ C1 : ByteArray, C1 = ⟨c.toArray⟩ := ⟨_, rfl⟩
  have hC1s : C1.size = n := by rw [hC1, hn, ← OK.c]; simp [ByteArray.size]
  rw [← hC1] at CP
  have P12 : Hid (∀ wx, Calls Try.prog 12 #[.agg #[.int .i64 wd, .int .i64 ht, .int .i64 x, .int .i64 y, .string C1], .string ⟨#[12]⟩] wx fun e w' => e = .returned (.agg #[.int .i64 wd, .int .i64 ht, .int .i64 0, .int .i64 0, .string B0]) ∧ Below wx.heap.size wx w') := fun wx => by
    have := put_any wd ht ⟨x, y, c⟩ ⟨#[12]⟩ wx h2 h4 OK (by decide)
    rw [hB0, hn, hC1]; exact this
  have OK13 : N11.Ok wd ht ⟨0, y, c⟩ := ⟨h1, OK.y, OK.c, OK.s⟩
  have P13 : Hid (∀ wx, Calls Try.prog 12 #[.agg #[.int .i64 wd, .int .i64 ht, .int .i64 x, .int .i64 y, .string C1], .string ⟨#[13]⟩] wx fun e w' => e = .returned (.agg #[.int .i64 wd, .int .i64 ht, .int .i64 0, .int .i64 y, .string C1]) ∧ Below wx.heap.size wx w') := fun wx => by
    have := put_any wd ht ⟨x, y, c⟩ ⟨#[13]⟩ wx h2 h4 OK (by decide)
    rw [hC1]; exact this
  have P8 : Hid (∀ wx, Calls Try.prog 12 #[.agg #[.int .i64 wd, .int .i64 ht, .int .i64 0, .int .i64 y, .string C1], .string ⟨#[8]⟩] wx fun e w' => e = .returned (.agg #[.int .i64 wd, .int .i64 ht, .int .i64 0, .int .i64 y, .string C1]) ∧ Below wx.heap.size wx w') := fun wx => by
    have := put_any wd ht ⟨0, y, c⟩ ⟨#[8]⟩ wx h2 h4 OK13 (by decide)
    rw [hC1]; exact this
  have C4 : Hid (∀ wx, Calls Try.prog 21 #[.agg #[.int .i64 wd, .int .i64 ht, .int .i64 x, .int .i64 y, .string C1]] wx fun e w' => e = .returned (.string C1) ∧ Below wx.heap.size wx w') := fun wx => cells_any _ _ _ _ _ (by omega) wx
  have CC : Hid (∀ wx, Calls Try.prog 20 #[.agg #[.int .i64 wd, .int .i64 ht, .int .i64 x, .int .i64 y, .string C1]] wx fun e w' => e = .returned (.tuple #[.int .i64 x, .int .i64 y]) ∧ Below wx.heap.size wx w') := fun wx => cursor_any _ _ _ _ _ wx
  have PC : Hid (∀ wx, Calls Try.prog 12 #[.agg #[.int .i64 wd, .int .i64 ht, .int .i64 x, .int .i64 y, .string C1], .string ⟨#[b]⟩] wx fun e w' => e = .returned (.agg #[.int .i64 wd, .int .i64 ht, .int .i64 x, .int .i64 y, .string C1]) ∧ Below wx.heap.size wx w') := fun wx => by
    have := put_any wd ht ⟨x, y, c⟩ ⟨#[b]⟩ wx h2 h4 OK (by show 1 ≤ _; omega)
    have hst1 : N11.put wd ht ⟨x, y, c⟩ (⟨#[b]⟩ : ByteArray).data.toList = ⟨x, y, c⟩ := by
      show N11.step wd ht ⟨x, y, c⟩ b = _
      unfold N11.step
      rw [if_neg (by unfold N11.shown; simp; omega), if_neg (by omega), if_neg (by omega), if_neg (by omega), if_neg (by omega)]
    rw [hst1] at this
    rw [hC1]; exact this
  have HCV : Hid (∀ wx : World, (convert 46 9 (.slice (some ⟨wx.heap.size, 0, none⟩) 1 1)).run Try.prog (wx.alloc (.cells #[.int .u8 (b.toNat : Int)] 5 (0, 0))) = .ok (.string ⟨#[b]⟩) (wx.alloc (.cells #[.int .u8 (b.toNat : Int)] 5 (0, 0)))) := fun wx =>
    run_convert_bytes_back (P := Try.prog) _ 46 9 5 ⟨wx.heap.size, 0, none⟩ 1 [b] Try.underlying46 Try.underlying5 Try.underlying9 (fun t ht => by
      obtain rfl : t = 0 := by simpa using ht
      have r : Row (wx.alloc (.cells #[.int .u8 (b.toNat : Int)] 5 (0, 0))) wx.heap.size 5 [.int .u8 (b.toNat : Int)] := Row.new' rfl rfl
      exact r.cell 0)
  have e1 : (wd : Int) * (ht : Int) = (n : Int) := by rw [hn]; simp
  have w1 : IntKind.i64.wrap (n : Int) = (n : Int) := by rw [IntKind.wrap_i64]; omega
  have t5 : ¬ (2000 : Int) < (a2.size : Int) := by omega
  have t6 : ((C1.size : Int) == (n : Int)) = true := by rw [beq_iff_eq]; omega
  have t7 : (x : Int) < (wd : Int) := by omega
  have t8 : (y : Int) < (ht : Int) := by omega
  have t9 : (0 : Int) ≤ (x : Int) := by omega
  have t10 : (0 : Int) ≤ (y : Int) := by omega
  clear hs hn hB0 OKn OK hst hC1 OK13 hC1s
  go_enter Try.func5, Try.ntmps5
  go_wp2_with fail
  refine (awake11_any _).mono ?_
  rintro e wa ⟨rfl, ba⟩
  go_wp2_with fail
  refine (C0.out _).mono ?_
  rintro e w2 ⟨rfl, b2⟩
  have bb2 := ba.trans (b2.mono ba.size)
  have rg : Row (w2.alloc (.cells #[.int .i64 wd, .int .i64 ht, .int .i64 0, .int .i64 0, .string B0] 25 (0, 0))) w2.heap.size 25 [.int .i64 wd, .int .i64 ht, .int .i64 0, .int .i64 0, .string B0] := Row.new' rfl rfl
  have bb3 := bb2.alloc bb2.size (.cells #[.int .i64 wd, .int .i64 ht, .int .i64 0, .int .i64 0, .string B0] 25 (0, 0))
  clear b2 bb2 ba
  go_wp2_with fail
  generalize w2.heap.size = g at *
  generalize w2.alloc (.cells #[.int .i64 wd, .int .i64 ht, .int .i64 0, .int .i64 0, .string B0] 25 (0, 0)) = w3 at *
  refine (CP.out _).mono ?_
  rintro e w4 ⟨rfl, b4⟩
  have rg4 := (rg.below b4 rg.lt).alloc (.cells #[.int .i64 wd, .int .i64 ht, .int .i64 x, .int .i64 y, .string C1] 25 (0, 0))
  have bb4 := bb3.trans (b4.mono bb3.size)
  have bb5 := bb4.alloc bb4.size (.cells #[.int .i64 wd, .int .i64 ht, .int .i64 x, .int .i64 y, .string C1] 25 (0, 0))
  have ra4 : Row (w4.alloc (.cells #[.int .i64 wd, .int .i64 ht, .int .i64 x, .int .i64 y, .string C1] 25 (0, 0))) w4.heap.size 25 [.int .i64 wd, .int .i64 ht, .int .i64 x, .int .i64 y, .string C1] := Row.new' rfl rfl
  clear rg bb3 b4 bb4
  go_wp2_with fail
  generalize w4.heap.size = ga at *
  generalize w4.alloc (.cells #[.int .i64 wd, .int .i64 ht, .int .i64 x, .int .i64 y, .string C1] 25 (0, 0)) = w5 at *
  refine (CC.out _).mono ?_
  rintro e w6 ⟨rfl, b6⟩
  have rg := rg4.below b6 rg4.lt
  have ra := ra4.below b6 ra4.lt
  have bba := bb5.trans (b6.mono bb5.size)
  clear rg4 ra4 bb5 b6
  have u1 : (32 : Int) ≤ (b.toNat : Int) := by omega
  have u2 : ¬ (b.toNat : Int) ≤ 126 := by omega
  have v8 : ((b.toNat : Int) == 8) = false := by rw [beq_eq_false_iff_ne]; omega
  have v10 : ((b.toNat : Int) == 10) = false := by rw [beq_eq_false_iff_ne]; omega
  have v12 : ((b.toNat : Int) == 12) = false := by rw [beq_eq_false_iff_ne]; omega
  have v13 : ((b.toNat : Int) == 13) = false := by rw [beq_eq_false_iff_ne]; omega
  clear hb
  go_wp2
  clear C0 CP CC h1 h2 h3 h4 hn19 hxw hyh t5 v8 v10 v12 v13
  refine wp_region_held_drew (S := fun w' => Row w' g 25 [.int .i64 wd, .int .i64 ht, .int .i64 0, .int .i64 0, .string B0] ∧ Row w' ga 25 [.int .i64 wd, .int .i64 ht, .int .i64 x, .int .i64 y, .string C1] ∧ Below w.heap.size w w') (by kernel_rfl) (⟨rg.drew, ra.drew, bba.drew⟩) (fun hHeld => ?_)
  refine take_d 0 (some 60) (.int .i64 x) rfl (by kernel_rfl) (by kernel_rfl) (by kernel_rfl) (fun _ _ _ h => h) (fun oi h => by cases h; exact Or.inl ⟨by rfl, fun w' hS' => by go_simp⟩) hHeld ?_
  try simp only [Act.put, List.setIfInBounds_toArray, List.set_cons_zero, List.set_cons_succ]
  refine take_d 1 (some 61) (.bool true) rfl (by kernel_rfl) (by kernel_rfl) (by kernel_rfl) (fun _ _ _ h => h) (fun oi h => by cases h; exact Or.inl ⟨by rfl, fun w' hS' => by go_simp⟩) hHeld ?_
  try simp only [Act.put, List.setIfInBounds_toArray, List.set_cons_zero, List.set_cons_succ]
  refine take_d 2 (some 62) (.bool true) rfl (by kernel_rfl) (by kernel_rfl) (by kernel_rfl) (fun _ _ _ h => h) (fun oi h => by cases h; exact Or.inl ⟨by rfl, fun w' hS' => by go_simp⟩) hHeld ?_
  try simp only [Act.put, List.setIfInBounds_toArray, List.set_cons_zero, List.set_cons_succ]
  refine take_d 3 (some 63) (.int .i64 x) rfl (by kernel_rfl) (by kernel_rfl) (by kernel_rfl) (fun _ _ _ h => h) (fun oi h => by cases h; exact Or.inl ⟨by rfl, fun w' hS' => by go_simp⟩) hHeld ?_
  try simp only [Act.put, List.setIfInBounds_toArray, List.set_cons_zero, List.set_cons_succ]
  refine take_d 4 (some 64) (.int .i64 wd) rfl (by kernel_rfl) (by kernel_rfl) (by kernel_rfl) (fun _ _ _ h => h) (fun oi h => by cases h; exact Or.inl ⟨by rfl, fun w' hS' => by go_simp⟩) hHeld ?_
  try simp only [Act.put, List.setIfInBounds_toArray, List.set_cons_zero, List.set_cons_succ]
  refine take_d 5 (some 65) (.bool true) rfl (by kernel_rfl) (by kernel_rfl) (by kernel_rfl) (fun _ _ _ h => h) (fun oi h => by cases h; exact Or.inl ⟨by rfl, fun w' hS' => by go_simp⟩) hHeld ?_
  try simp only [Act.put, List.setIfInBounds_toArray, List.set_cons_zero, List.set_cons_succ]
  refine take_d 6 (some 66) (.bool true) rfl (by kernel_rfl) (by kernel_rfl) (by kernel_rfl) (fun _ _ _ h => h) (fun oi h => by cases h; exact Or.inl ⟨by rfl, fun w' hS' => by go_simp⟩) hHeld ?_
  try simp only [Act.put, List.setIfInBounds_toArray, List.set_cons_zero, List.set_cons_succ]
  refine take_d 7 (some 67) (.bool true) rfl (by kernel_rfl) (by kernel_rfl) (by kernel_rfl) (fun _ _ _ h => h) (fun oi h => by cases h; exact Or.inl ⟨by rfl, fun w' hS' => by go_simp⟩) hHeld ?_
  try simp only [Act.put, List.setIfInBounds_toArray, List.set_cons_zero, List.set_cons_succ]
  refine take_d 8 (some 68) (.int .i64 y) rfl (by kernel_rfl) (by kernel_rfl) (by kernel_rfl) (fun _ _ _ h => h) (fun oi h => by cases h; exact Or.inl ⟨by rfl, fun w' hS' => by go_simp⟩) hHeld ?_
  try simp only [Act.put, List.setIfInBounds_toArray, List.set_cons_zero, List.set_cons_succ]
  refine take_d 9 (some 69) (.bool true) rfl (by kernel_rfl) (by kernel_rfl) (by kernel_rfl) (fun _ _ _ h => h) (fun oi h => by cases h; exact Or.inl ⟨by rfl, fun w' hS' => by go_simp⟩) hHeld ?_
  try simp only [Act.put, List.setIfInBounds_toArray, List.set_cons_zero, List.set_cons_succ]
  refine take_d 10 (some 70) (.bool true) rfl (by kernel_rfl) (by kernel_rfl) (by kernel_rfl) (fun _ _ _ h => h) (fun oi h => by cases h; exact Or.inl ⟨by rfl, fun w' hS' => by go_simp⟩) hHeld ?_
  try simp only [Act.put, List.setIfInBounds_toArray, List.set_cons_zero, List.set_cons_succ]
  refine take_d 11 (some 71) (.bool true) rfl (by kernel_rfl) (by kernel_rfl) (by kernel_rfl) (fun _ _ _ h => h) (fun oi h => by cases h; exact Or.inl ⟨by rfl, fun w' hS' => by go_simp⟩) hHeld ?_
  try simp only [Act.put, List.setIfInBounds_toArray, List.set_cons_zero, List.set_cons_succ]
  refine take_d 12 (some 72) (.int .i64 y) rfl (by kernel_rfl) (by kernel_rfl) (by kernel_rfl) (fun _ _ _ h => h) (fun oi h => by cases h; exact Or.inl ⟨by rfl, fun w' hS' => by go_simp⟩) hHeld ?_
  try simp only [Act.put, List.setIfInBounds_toArray, List.set_cons_zero, List.set_cons_succ]
  refine take_d 13 (some 73) (.int .i64 ht) rfl (by kernel_rfl) (by kernel_rfl) (by kernel_rfl) (fun _ _ _ h => h) (fun oi h => by cases h; exact Or.inl ⟨by rfl, fun w' hS' => by go_simp⟩) hHeld ?_
  try simp only [Act.put, List.setIfInBounds_toArray, List.set_cons_zero, List.set_cons_succ]
  refine take_d 14 (some 74) (.bool true) rfl (by kernel_rfl) (by kernel_rfl) (by kernel_rfl) (fun _ _ _ h => h) (fun oi h => by cases h; exact Or.inl ⟨by rfl, fun w' hS' => by go_simp⟩) hHeld ?_
  try simp only [Act.put, List.setIfInBounds_toArray, List.set_cons_zero, List.set_cons_succ]
  refine take_d 15 (some 75) (.bool true) rfl (by kernel_rfl) (by kernel_rfl) (by kernel_rfl) (fun _ _ _ h => h) (fun oi h => by cases h; exact Or.inl ⟨by rfl, fun w' hS' => by go_simp⟩) hHeld ?_
  try simp only [Act.put, List.setIfInBounds_toArray, List.set_cons_zero, List.set_cons_succ]
  refine take_d 16 (some 76) (.bool true) rfl (by kernel_rfl) (by kernel_rfl) (by kernel_rfl) (fun _ _ _ h => h) (fun oi h => by cases h; exact Or.inl ⟨by rfl, fun w' hS' => by go_simp⟩) hHeld ?_
  try simp only [Act.put, List.setIfInBounds_toArray, List.set_cons_zero, List.set_cons_succ]
  refine take_d 17 (some 77) (.agg #[.int .i64 wd, .int .i64 ht, .int .i64 x, .int .i64 y, .string C1]) rfl (by kernel_rfl) (by kernel_rfl) (by kernel_rfl) (fun _ _ _ h => h) (fun oi h => by cases h; exact yieldsIf_load_mid (by rfl) 25 (.tmp 11) rfl ga 0 rfl [.int .i64 wd, .int .i64 ht, .int .i64 x, .int .i64 y, .string C1] _ (fun w' hS' => hS'.2.1.range) Try.underlying25 rfl infoScr) hHeld ?_
  try simp only [Act.put, List.setIfInBounds_toArray, List.set_cons_zero, List.set_cons_succ]
  refine take_d 20 (some 80) (.int .i64 wd) rfl (by kernel_rfl) (by kernel_rfl) (by kernel_rfl) (fun _ _ _ h => h) (fun oi h => by cases h; exact Or.inl ⟨by rfl, fun w' hS' => by go_simp⟩) hHeld ?_
  try simp only [Act.put, List.setIfInBounds_toArray, List.set_cons_zero, List.set_cons_succ]
  refine take_d 21 (some 81) (.int .i64 ht) rfl (by kernel_rfl) (by kernel_rfl) (by kernel_rfl) (fun _ _ _ h => h) (fun oi h => by cases h; exact Or.inl ⟨by rfl, fun w' hS' => by go_simp⟩) hHeld ?_
  try simp only [Act.put, List.setIfInBounds_toArray, List.set_cons_zero, List.set_cons_succ]
  refine take_d 22 (some 82) (.int .i64 (n : Int)) rfl (by kernel_rfl) (by kernel_rfl) (by kernel_rfl) (fun _ _ _ h => h) (fun oi h => by cases h; exact Or.inl ⟨by rfl, fun w' hS' => by go_simp⟩) hHeld ?_
  try simp only [Act.put, List.setIfInBounds_toArray, List.set_cons_zero, List.set_cons_succ]
  refine one_d 18 (some 78) rfl (by kernel_rfl) ?_
  intro o ho hd K hK
  cases ho
  go_simp
  refine (C4.out _).mono ?_
  rintro e v1 ⟨rfl, bb⟩
  have hHeld' := hHeld
  clear hHeld
  have hHeld := hHeld'
  clear hHeld'
  refine hK.out _ _ (⟨hHeld.1.below bb hHeld.1.lt, hHeld.2.1.below bb hHeld.2.1.lt, hHeld.2.2.trans (bb.mono hHeld.2.2.size)⟩) (fun hHeld => ?_)
  clear hK K hd bb
  try simp only [Act.put, List.setIfInBounds_toArray, List.set_cons_zero, List.set_cons_succ]
  refine take_d 19 (some 79) (.int .i64 (C1.size : Int)) rfl (by kernel_rfl) (by kernel_rfl) (by kernel_rfl) (fun _ _ _ h => h) (fun oi h => by cases h; exact Or.inl ⟨by rfl, fun w' hS' => by go_simp⟩) hHeld ?_
  try simp only [Act.put, List.setIfInBounds_toArray, List.set_cons_zero, List.set_cons_succ]
  refine take_d 23 (some 83) (.bool true) rfl (by kernel_rfl) (by kernel_rfl) (by kernel_rfl) (fun _ _ _ h => h) (fun oi h => by cases h; exact Or.inl ⟨by rfl, fun w' hS' => by go_simp⟩) hHeld ?_
  try simp only [Act.put, List.setIfInBounds_toArray, List.set_cons_zero, List.set_cons_succ]
  refine take_d 24 (some 84) (.bool true) rfl (by kernel_rfl) (by kernel_rfl) (by kernel_rfl) (fun _ _ _ h => h) (fun oi h => by cases h; exact Or.inl ⟨by rfl, fun w' hS' => by go_simp⟩) hHeld ?_
  try simp only [Act.put, List.setIfInBounds_toArray, List.set_cons_zero, List.set_cons_succ]
  refine take_d 25 (some 85) (.bool true) rfl (by kernel_rfl) (by kernel_rfl) (by kernel_rfl) (fun _ _ _ h => h) (fun oi h => by cases h; exact Or.inl ⟨by rfl, fun w' hS' => by go_simp⟩) hHeld ?_
  try simp only [Act.put, List.setIfInBounds_toArray, List.set_cons_zero, List.set_cons_succ]
  refine take_d 26 (some 86) (.agg #[.int .i64 wd, .int .i64 ht, .int .i64 x, .int .i64 y, .string C1]) rfl (by kernel_rfl) (by kernel_rfl) (by kernel_rfl) (fun _ _ _ h => h) (fun oi h => by cases h; exact yieldsIf_load_mid (by rfl) 25 (.tmp 11) rfl ga 0 rfl [.int .i64 wd, .int .i64 ht, .int .i64 x, .int .i64 y, .string C1] _ (fun w' hS' => hS'.2.1.range) Try.underlying25 rfl infoScr) hHeld ?_
  try simp only [Act.put, List.setIfInBounds_toArray, List.set_cons_zero, List.set_cons_succ]
  refine take_d 28 (some 88) (.agg #[.int .i64 wd, .int .i64 ht, .int .i64 0, .int .i64 0, .string B0]) rfl (by kernel_rfl) (by kernel_rfl) (by kernel_rfl) (fun _ _ _ h => h) (fun oi h => by cases h; exact yieldsIf_load_mid (by rfl) 25 (.tmp 9) rfl g 0 rfl [.int .i64 wd, .int .i64 ht, .int .i64 0, .int .i64 0, .string B0] _ (fun w' hS' => hS'.1.range) Try.underlying25 rfl infoScr) hHeld ?_
  try simp only [Act.put, List.setIfInBounds_toArray, List.set_cons_zero, List.set_cons_succ]
  refine one_d 27 (some 87) rfl (by kernel_rfl) ?_
  intro o ho hd K hK
  cases ho
  go_simp
  refine (P12.out _).mono ?_
  rintro e v2 ⟨rfl, bb⟩
  have hHeld' := hHeld
  clear hHeld
  have hHeld := hHeld'
  clear hHeld'
  refine hK.out _ _ (⟨hHeld.1.below bb hHeld.1.lt, hHeld.2.1.below bb hHeld.2.1.lt, hHeld.2.2.trans (bb.mono hHeld.2.2.size)⟩) (fun hHeld => ?_)
  clear hK K hd bb
  try simp only [Act.put, List.setIfInBounds_toArray, List.set_cons_zero, List.set_cons_succ]
  refine one_d 29 (some 89) rfl (by kernel_rfl) ?_
  intro o ho hd K hK
  cases ho
  go_simp
  refine (same_yes _ _ _ _ _ _).mono ?_
  rintro e v3 ⟨rfl, bb⟩
  have hHeld' := hHeld
  clear hHeld
  have hHeld := hHeld'
  clear hHeld'
  refine hK.out _ _ (⟨hHeld.1.below bb hHeld.1.lt, hHeld.2.1.below bb hHeld.2.1.lt, hHeld.2.2.trans (bb.mono hHeld.2.2.size)⟩) (fun hHeld => ?_)
  clear hK K hd bb
  try simp only [Act.put, List.setIfInBounds_toArray, List.set_cons_zero, List.set_cons_succ]
  refine take_d 30 (some 90) (.bool true) rfl (by kernel_rfl) (by kernel_rfl) (by kernel_rfl) (fun _ _ _ h => h) (fun oi h => by cases h; exact Or.inl ⟨by rfl, fun w' hS' => by go_simp⟩) hHeld ?_
  try simp only [Act.put, List.setIfInBounds_toArray, List.set_cons_zero, List.set_cons_succ]
  refine take_d 31 (some 91) (.bool true) rfl (by kernel_rfl) (by kernel_rfl) (by kernel_rfl) (fun _ _ _ h => h) (fun oi h => by cases h; exact Or.inl ⟨by rfl, fun w' hS' => by go_simp⟩) hHeld ?_
  try simp only [Act.put, List.setIfInBounds_toArray, List.set_cons_zero, List.set_cons_succ]
  refine take_d 32 (some 92) (.bool false) rfl (by kernel_rfl) (by kernel_rfl) (by kernel_rfl) (fun _ _ _ h => h) (fun oi h => by cases h; exact Or.inl ⟨by rfl, fun w' hS' => by go_simp⟩) hHeld ?_
  try simp only [Act.put, List.setIfInBounds_toArray, List.set_cons_zero, List.set_cons_succ]
  refine take_d 33 (some 93) (.bool false) rfl (by kernel_rfl) (by kernel_rfl) (by kernel_rfl) (fun _ _ _ h => h) (fun oi h => by cases h; exact Or.inl ⟨by rfl, fun w' hS' => by go_simp⟩) hHeld ?_
  try simp only [Act.put, List.setIfInBounds_toArray, List.set_cons_zero, List.set_cons_succ]
  refine take_d 34 (some 94) (.agg #[.int .i64 wd, .int .i64 ht, .int .i64 x, .int .i64 y, .string C1]) rfl (by kernel_rfl) (by kernel_rfl) (by kernel_rfl) (fun _ _ _ h => h) (fun oi h => by cases h; exact yieldsIf_load_mid (by rfl) 25 (.tmp 11) rfl ga 0 rfl [.int .i64 wd, .int .i64 ht, .int .i64 x, .int .i64 y, .string C1] _ (fun w' hS' => hS'.2.1.range) Try.underlying25 rfl infoScr) hHeld ?_
  try simp only [Act.put, List.setIfInBounds_toArray, List.set_cons_zero, List.set_cons_succ]
  refine take_d 35 (some 95) (.int .u8 (b.toNat : Int)) rfl (by kernel_rfl) (by kernel_rfl) (by kernel_rfl) (fun _ _ _ h => h) (fun oi h => by cases h; exact Or.inl ⟨by rfl, fun w' hS' => by go_simp⟩) hHeld ?_
  try simp only [Act.put, List.setIfInBounds_toArray, List.set_cons_zero, List.set_cons_succ]
  refine take_d 39 (some 99) (.agg #[.int .i64 wd, .int .i64 ht, .int .i64 x, .int .i64 y, .string C1]) rfl (by kernel_rfl) (by kernel_rfl) (by kernel_rfl) (fun _ _ _ h => h) (fun oi h => by cases h; exact yieldsIf_load_mid (by rfl) 25 (.tmp 11) rfl ga 0 rfl [.int .i64 wd, .int .i64 ht, .int .i64 x, .int .i64 y, .string C1] _ (fun w' hS' => hS'.2.1.range) Try.underlying25 rfl infoScr) hHeld ?_
  try simp only [Act.put, List.setIfInBounds_toArray, List.set_cons_zero, List.set_cons_succ]
  refine one_d 36 (some 96) rfl (by kernel_rfl) ?_
  intro o ho hd K hK
  cases ho
  go_simp
  refine hK.out _ _ (⟨hHeld.1.alloc _, hHeld.2.1.alloc _, hHeld.2.2.alloc hHeld.2.2.size _⟩) (fun hHeld => ?_)
  clear hK K hd
  try simp only [Act.put, List.setIfInBounds_toArray, List.set_cons_zero, List.set_cons_succ]
  refine one_d 37 (some 97) rfl (by kernel_rfl) ?_
  intro o ho hd K hK
  cases ho
  have hcv := HCV.out v3
  go_simp
  refine hK.out _ _ (hHeld) (fun hHeld => ?_)
  clear hK K hd
  try simp only [Act.put, List.setIfInBounds_toArray, List.set_cons_zero, List.set_cons_succ]
  refine one_d 38 (some 98) rfl (by kernel_rfl) ?_
  intro o ho hd K hK
  cases ho
  go_simp
  refine (PC.out _).mono ?_
  rintro e v4 ⟨rfl, bb⟩
  have hHeld' := hHeld
  clear hHeld
  have hHeld := hHeld'
  clear hHeld'
  refine hK.out _ _ (⟨hHeld.1.below bb hHeld.1.lt, hHeld.2.1.below bb hHeld.2.1.lt, hHeld.2.2.trans (bb.mono hHeld.2.2.size)⟩) (fun hHeld => ?_)
  clear hK K hd bb
  try simp only [Act.put, List.setIfInBounds_toArray, List.set_cons_zero, List.set_cons_succ]
  refine one_d 40 (some 100) rfl (by kernel_rfl) ?_
  intro o ho hd K hK
  cases ho
  go_simp
  refine (same_yes _ _ _ _ _ _).mono ?_
  rintro e v5 ⟨rfl, bb⟩
  have hHeld' := hHeld
  clear hHeld
  have hHeld := hHeld'
  clear hHeld'
  refine hK.out _ _ (⟨hHeld.1.below bb hHeld.1.lt, hHeld.2.1.below bb hHeld.2.1.lt, hHeld.2.2.trans (bb.mono hHeld.2.2.size)⟩) (fun hHeld => ?_)
  clear hK K hd bb
  try simp only [Act.put, List.setIfInBounds_toArray, List.set_cons_zero, List.set_cons_succ]
  refine take_d 41 (some 101) (.bool true) rfl (by kernel_rfl) (by kernel_rfl) (by kernel_rfl) (fun _ _ _ h => h) (fun oi h => by cases h; exact Or.inl ⟨by rfl, fun w' hS' => by go_simp⟩) hHeld ?_
  try simp only [Act.put, List.setIfInBounds_toArray, List.set_cons_zero, List.set_cons_succ]
  refine take_d 42 (some 102) (.bool true) rfl (by kernel_rfl) (by kernel_rfl) (by kernel_rfl) (fun _ _ _ h => h) (fun oi h => by cases h; exact Or.inl ⟨by rfl, fun w' hS' => by go_simp⟩) hHeld ?_
  try simp only [Act.put, List.setIfInBounds_toArray, List.set_cons_zero, List.set_cons_succ]
  refine take_d 43 (some 103) (.bool true) rfl (by kernel_rfl) (by kernel_rfl) (by kernel_rfl) (fun _ _ _ h => h) (fun oi h => by cases h; exact Or.inl ⟨by rfl, fun w' hS' => by go_simp⟩) hHeld ?_
  try simp only [Act.put, List.setIfInBounds_toArray, List.set_cons_zero, List.set_cons_succ]
  refine take_d 44 (some 104) (.agg #[.int .i64 wd, .int .i64 ht, .int .i64 x, .int .i64 y, .string C1]) rfl (by kernel_rfl) (by kernel_rfl) (by kernel_rfl) (fun _ _ _ h => h) (fun oi h => by cases h; exact yieldsIf_load_mid (by rfl) 25 (.tmp 11) rfl ga 0 rfl [.int .i64 wd, .int .i64 ht, .int .i64 x, .int .i64 y, .string C1] _ (fun w' hS' => hS'.2.1.range) Try.underlying25 rfl infoScr) hHeld ?_
  try simp only [Act.put, List.setIfInBounds_toArray, List.set_cons_zero, List.set_cons_succ]
  refine take_d 47 (some 107) (.agg #[.int .i64 wd, .int .i64 ht, .int .i64 x, .int .i64 y, .string C1]) rfl (by kernel_rfl) (by kernel_rfl) (by kernel_rfl) (fun _ _ _ h => h) (fun oi h => by cases h; exact yieldsIf_load_mid (by rfl) 25 (.tmp 11) rfl ga 0 rfl [.int .i64 wd, .int .i64 ht, .int .i64 x, .int .i64 y, .string C1] _ (fun w' hS' => hS'.2.1.range) Try.underlying25 rfl infoScr) hHeld ?_
  try simp only [Act.put, List.setIfInBounds_toArray, List.set_cons_zero, List.set_cons_succ]
  refine one_d 45 (some 105) rfl (by kernel_rfl) ?_
  intro o ho hd K hK
  cases ho
  go_simp
  refine (P13.out _).mono ?_
  rintro e v6 ⟨rfl, bb⟩
  have hHeld' := hHeld
  clear hHeld
  have hHeld := hHeld'
  clear hHeld'
  refine hK.out _ _ (⟨hHeld.1.below bb hHeld.1.lt, hHeld.2.1.below bb hHeld.2.1.lt, hHeld.2.2.trans (bb.mono hHeld.2.2.size)⟩) (fun hHeld => ?_)
  clear hK K hd bb
  try simp only [Act.put, List.setIfInBounds_toArray, List.set_cons_zero, List.set_cons_succ]
  refine one_d 46 (some 106) rfl (by kernel_rfl) ?_
  intro o ho hd K hK
  cases ho
  go_simp
  refine (P8.out _).mono ?_
  rintro e v7 ⟨rfl, bb⟩
  have hHeld' := hHeld
  clear hHeld
  have hHeld := hHeld'
  clear hHeld'
  refine hK.out _ _ (⟨hHeld.1.below bb hHeld.1.lt, hHeld.2.1.below bb hHeld.2.1.lt, hHeld.2.2.trans (bb.mono hHeld.2.2.size)⟩) (fun hHeld => ?_)
  clear hK K hd bb
  try simp only [Act.put, List.setIfInBounds_toArray, List.set_cons_zero, List.set_cons_succ]
  refine one_d 48 (some 108) rfl (by kernel_rfl) ?_
  intro o ho hd K hK
  cases ho
  go_simp
  refine (P13.out _).mono ?_
  rintro e v8 ⟨rfl, bb⟩
  have hHeld' := hHeld
  clear hHeld
  have hHeld := hHeld'
  clear hHeld'
  refine hK.out _ _ (⟨hHeld.1.below bb hHeld.1.lt, hHeld.2.1.below bb hHeld.2.1.lt, hHeld.2.2.trans (bb.mono hHeld.2.2.size)⟩) (fun hHeld => ?_)
  clear hK K hd bb
  try simp only [Act.put, List.setIfInBounds_toArray, List.set_cons_zero, List.set_cons_succ]
  refine one_d 49 (some 109) rfl (by kernel_rfl) ?_
  intro o ho hd K hK
  cases ho
  go_simp
  refine (same_yes _ _ _ _ _ _).mono ?_
  rintro e v9 ⟨rfl, bb⟩
  have hHeld' := hHeld
  clear hHeld
  have hHeld := hHeld'
  clear hHeld'
  refine hK.out _ _ (⟨hHeld.1.below bb hHeld.1.lt, hHeld.2.1.below bb hHeld.2.1.lt, hHeld.2.2.trans (bb.mono hHeld.2.2.size)⟩) (fun hHeld => ?_)
  clear hK K hd bb
  try simp only [Act.put, List.setIfInBounds_toArray, List.set_cons_zero, List.set_cons_succ]
  refine take_d 50 (some 110) (.bool true) rfl (by kernel_rfl) (by kernel_rfl) (by kernel_rfl) (fun _ _ _ h => h) (fun oi h => by cases h; exact Or.inl ⟨by rfl, fun w' hS' => by go_simp⟩) hHeld ?_
  try simp only [Act.put, List.setIfInBounds_toArray, List.set_cons_zero, List.set_cons_succ]
  refine take_d 51 (some 8) (.bool true) rfl (by kernel_rfl) (by kernel_rfl) (by kernel_rfl) (fun _ _ _ h => h) (fun oi h => by cases h; exact Or.inl ⟨by rfl, fun w' hS' => by go_simp⟩) hHeld ?_
  try simp only [Act.put, List.setIfInBounds_toArray, List.set_cons_zero, List.set_cons_succ]
  refine wpAnyH_done (by kernel_rfl) ?_ _
  try simp only [Act.put]
  have hb := hHeld.2.2
  go_wp2
  go_ret
  exact ⟨rfl, hb⟩

end ScreenStaysW
end Go.Proofs.Ytekpbfbipkjibaa
