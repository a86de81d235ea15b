/-
  ScreenFills: the walk.
-/
import Derived.Test.YtekpbfbipkjibaaNAwake
import Derived.Test.YtekpbfbipkjibaaNFillsPlain
import Derived.Test.YtekpbfbipkjibaaSTake
import Derived.OpenShut
namespace Go.Proofs.Ytekpbfbipkjibaa
open Go.RowKit
set_option linter.unusedVariables false
set_option maxRecDepth 20000
namespace ScreenFillsW

theorem bytes_at (s : ByteArray) (i : Nat) (h : i < s.size) (h' : i < s.data.toList.length) : s.data.toList[i] = s[i] := rfl

set_option maxHeartbeats 8000000 in
theorem core (wd ht : Nat) (a2 : ByteArray) (w : World) (h1 : 1 ≤ wd) (h2 : wd ≤ 80) (h3 : 1 ≤ ht) (h4 : ht ≤ 24) (hs : a2.size ≤ wd * ht) :
    Calls Try.prog 7 #[.int .i64 wd, .int .i64 ht, .string a2] w fun e w' => e = .returned (.bool true) ∧ Below w.heap.size w w' := by
  obtain ⟨n, hn⟩ : ∃ n, n = wd * ht := ⟨_, rfl⟩
  have hn19 : n ≤ 1920 := by rw [hn]; exact Nat.mul_le_mul h2 h4
  have hwn : wd ≤ n := by have := Nat.mul_le_mul_left wd h3; omega
  obtain ⟨B0, hB0⟩ : ∃ B0 : ByteArray, B0 = ⟨(List.replicate n (32 : UInt8)).toArray⟩ := ⟨_, rfl⟩
  have hB0s : B0.size = n := by rw [hB0]; show (List.replicate n (32 : UInt8)).toArray.size = n; simp
  have C0 : Hid (∀ wx, Calls Try.prog 10 #[.int .i64 wd, .int .i64 ht] wx fun e w' => e = .returned (.tuple #[.agg #[.int .i64 wd, .int .i64 ht, .int .i64 0, .int .i64 0, .string B0], .int .i64 0]) ∧ Below wx.heap.size wx w') := fun wx => by
    rw [hB0, hn]; exact scrNew_yes wd ht h1 h2 h3 h4 wx
  have C1c : Hid (∀ wx, Calls Try.prog 21 #[.agg #[.int .i64 wd, .int .i64 ht, .int .i64 0, .int .i64 0, .string B0]] wx fun e w' => e = .returned (.string B0) ∧ Below wx.heap.size wx w') := fun wx => cells_any _ _ _ _ _ (by omega) wx
  have CP : Hid (∀ wx, Calls Try.prog 12 #[.agg #[.int .i64 wd, .int .i64 ht, .int .i64 0, .int .i64 0, .string B0], .string a2] wx fun e w' => e = .returned (.agg #[.int .i64 wd, .int .i64 ht, .int .i64 (N11.put wd ht (N11.new wd ht) a2.data.toList).x, .int .i64 (N11.put wd ht (N11.new wd ht) a2.data.toList).y, .string ⟨(N11.put wd ht (N11.new wd ht) a2.data.toList).c.toArray⟩]) ∧ Below wx.heap.size wx w') := fun wx => by
    have := put_any wd ht (N11.new wd ht) a2 wx h2 h4 (N11.new_ok h1 h3) (by omega)
    rw [hB0, hn]; exact this
  have hpc := (N11.put_ok a2.data.toList (N11.new_ok (w := wd) (h := ht) h1 h3)).c
  have HN := Lib.hid hn
  have HB := Lib.hid hB0
  have e1 : (wd : Int) * (ht : Int) = (n : Int) := by rw [hn]; simp
  have w1 : IntKind.i64.wrap (n : Int) = (n : Int) := by rw [IntKind.wrap_i64]; omega
  have t1 : ¬ (wd : Int) < 1 := by omega
  have t2 : ¬ (80 : Int) < (wd : Int) := by omega
  have t3 : ¬ (ht : Int) < 1 := by omega
  have t4 : ¬ (24 : Int) < (ht : Int) := by omega
  have t5 : ¬ (n : Int) < (a2.size : Int) := by omega
  have t6 : ((B0.size : Int) != (n : Int)) = false := by rw [bne_eq_false_iff_eq]; omega
  have HS : Hid (a2.size ≤ n) := by show _ ≤ _; omega
  have HBS := Lib.hid hB0s
  clear hs hn hB0 hB0s
  go_enter Try.func7, Try.ntmps7
  go_wp2_with fail
  refine (awake11_any _).mono ?_
  rintro e wa ⟨rfl, ba⟩
  go_wp2
  go_loopw [7, 39] (fun _ iv wr => ∃ i : Nat, i ≤ a2.size ∧ iv = .int .i64 i ∧ Hid (∀ j, j < i → N11.shown (a2.data.toList.getD j 0) = true) ∧ Below w.heap.size w wr) (fun _ iv _ => a2.size - (intOf iv).toNat)
  case atStart => exact ⟨0, Nat.zero_le _, rfl, fun j hj => by omega, ba⟩
  case round =>
    clear ba
    obtain ⟨i, hi, rfl, HSH, bb⟩ := hrel
    by_cases hlt : i < a2.size
    · have hs : (i : Int) < a2.size := by omega
      have hat : a2.data.toList.getD i 0 = a2[i] := by
        have h' : i < a2.data.toList.length := by simpa using hlt
        rw [List.getD_eq_getElem?_getD, List.getElem?_eq_getElem h']; rfl
      by_cases u1 : a2[i].toNat < 32
      · have v1 : (a2[i].toNat : Int) < 32 := by omega
        clear hat
        go_wp2
        go_ret
        exact ⟨rfl, bb⟩
      · have v1 : ¬ (a2[i].toNat : Int) < 32 := by omega
        by_cases u2 : 126 < a2[i].toNat
        · have v2 : (126 : Int) < (a2[i].toNat : Int) := by omega
          clear hat
          go_wp2
          go_ret
          exact ⟨rfl, bb⟩
        · have v2 : ¬ (126 : Int) < (a2[i].toNat : Int) := by omega
          have HSH' : Hid (∀ j, j < i + 1 → N11.shown (a2.data.toList.getD j 0) = true) := fun j hj => by
            by_cases hji : j < i
            · exact HSH.out j hji
            · obtain rfl : j = i := by omega
              rw [hat]; unfold N11.shown; simp; omega
          clear hat HSH
          go_wp2
          go_roundw
          case rel => exact ⟨i + 1, by omega, by go_num, HSH', bb⟩
          case measure => simp [intOf]; omega
    · obtain rfl : i = a2.size := by omega
      have HSL : Hid (∀ b ∈ a2.data.toList, N11.shown b = true) := fun b hb => by
        obtain ⟨j, hj, rfl⟩ := List.getElem_of_mem hb
        have := HSH.out j (by simpa using hj)
        rwa [List.getD_eq_getElem?_getD, List.getElem?_eq_getElem hj] at this
      obtain ⟨x, y, c, hst⟩ : ∃ x y c, N11.put wd ht (N11.new wd ht) a2.data.toList = ⟨x, y, c⟩ := ⟨_, _, _, rfl⟩
      rw [hst] at CP hpc
      obtain ⟨C1, hC1⟩ : ∃ C1 : ByteArray, C1 = ⟨c.toArray⟩ := ⟨_, rfl⟩
      have hC1s : C1.size = n := by rw [hC1, HN.out, ← hpc]; simp [ByteArray.size]
      rw [← hC1] at CP
      have C4 : Hid (∀ wx, Calls Try.prog 21 #[.agg #[.int .i64 wd, .int .i64 ht, .int .i64 x, .int .i64 y, .string C1]] wx fun e w' => e = .returned (.string C1) ∧ Below wx.heap.size wx w') := fun wx => cells_any _ _ _ _ _ (by omega) wx
      have CC : Hid (∀ wx, Calls Try.prog 20 #[.agg #[.int .i64 wd, .int .i64 ht, .int .i64 x, .int .i64 y, .string C1]] wx fun e w' => e = .returned (.tuple #[.int .i64 x, .int .i64 y]) ∧ Below wx.heap.size wx w') := fun wx => cursor_any _ _ _ _ _ wx
      have HST := Lib.hid hst
      have HC1 := Lib.hid hC1
      clear HSH hst hC1 hpc hC1s
      go_wp2_with fail
      refine (C0.out _).mono ?_
      rintro e w2 ⟨rfl, b2⟩
      have bb2 := bb.trans (b2.mono bb.size)
      have r3 : Row (w2.alloc (.cells #[.int .i64 wd, .int .i64 ht, .int .i64 0, .int .i64 0, .string B0] 25 (0, 0))) w2.heap.size 25 [.int .i64 wd, .int .i64 ht, .int .i64 0, .int .i64 0, .string B0] := Row.new' rfl rfl
      have bb3 := bb2.alloc bb2.size (.cells #[.int .i64 wd, .int .i64 ht, .int .i64 0, .int .i64 0, .string B0] 25 (0, 0))
      have hg := bb2.size
      clear b2 bb2 bb
      go_wp2_with fail
      generalize w2.heap.size = g at *
      generalize w2.alloc (.cells #[.int .i64 wd, .int .i64 ht, .int .i64 0, .int .i64 0, .string B0] 25 (0, 0)) = w3 at *
      refine (C1c.out _).mono ?_
      rintro e w4 ⟨rfl, b4⟩
      have r4 := r3.below b4 r3.lt
      have bb4 := bb3.trans (b4.mono bb3.size)
      clear r3 bb3 b4
      go_wp2_with (first | refine wpList_load_row rfl 25 (.tmp 8) rfl g rfl _ _ _ _ r4 Try.underlying25 rfl infoScr ?_)
      refine (CP.out _).mono ?_
      rintro e w5 ⟨rfl, b5⟩
      have r5 := r4.below b5 r4.lt
      have bb5 := bb4.trans (b5.mono bb4.size)
      have r6 := r5.setRow [.int .i64 wd, .int .i64 ht, .int .i64 x, .int .i64 y, .string C1]
      have bb6 := below_row bb5 hg (List.toArray [.int .i64 wd, .int .i64 ht, .int .i64 x, .int .i64 y, .string C1])
      clear r4 bb4 b5 bb5
      go_wp2_with (first | refine wpList_store_row rfl 25 (.tmp 8) (.tmp 63) rfl g _ rfl rfl _ _ r5 infoScr rfl (by simp [Value.oneCell']) ?_ | refine wpList_load_row rfl 25 (.tmp 8) rfl g rfl _ _ _ _ r6 Try.underlying25 rfl infoScr ?_)
      generalize w5.setRow g (List.toArray [.int .i64 wd, .int .i64 ht, .int .i64 x, .int .i64 y, .string C1]) = w6 at *
      refine (CC.out _).mono ?_
      rintro e w7 ⟨rfl, b7⟩
      have r7 := r6.below b7 r6.lt
      have bb7 := bb6.trans (b7.mono bb6.size)
      clear r5 r6 bb6 b7
      have r6 := r7
      have bb6 := bb7
      clear r7 bb7
      by_cases hfull : a2.size = n
      · have k1 : ((a2.size : Int) == (n : Int)) = true := by rw [beq_iff_eq]; omega
        have hx := N11.put_full HSL.out h1 h3 (by rw [show a2.data.toList.length = a2.size from by simp, hfull, HN.out])
        rw [HST.out] at hx
        obtain ⟨hx1, hx2, hx3⟩ := N11.St.mk.inj hx
        have hC : a2.extract wd a2.size ++ B0.extract 0 wd = C1 := by
          rw [HC1.out, hx3, HB.out]
          apply ByteArray.ext
          simp [ByteArray.data_extract]
          rw [List.take_of_length_le (by rw [List.length_drop, show a2.data.toList.length = a2.size from by simp]; exact Nat.le_refl _), Nat.min_eq_left hwn]
        have y1 : (ht : Int) - 1 = (y : Int) := by omega
        have y2 : IntKind.i64.wrap (y : Int) = (y : Int) := by rw [IntKind.wrap_i64]; omega
        have z1 : ((x : Int) == 0) = true := by simp; omega
        have q1 : ¬ (a2.size : Int) < (wd : Int) := by omega
        have q2 : ¬ (B0.size : Int) < (wd : Int) := by rw [HBS.out]; omega
        have q3 : wd ≤ a2.size := by omega
        have q5 : a2.size ≤ 9223372036854775807 := by omega
        have q4 : wd ≤ B0.size := by rw [HBS.out]; omega
        clear hx hx1 hx2 hx3 hfull
        go_wp2
        refine wp_region_held_drew (S := fun w' => Row w' g 25 [.int .i64 wd, .int .i64 ht, .int .i64 x, .int .i64 y, .string C1] ∧ Below w.heap.size w w') (by kernel_rfl) (⟨r6.drew, bb6.drew⟩) (fun hHeld => ?_)
        refine take_d 0 (some 85) (.agg #[.int .i64 wd, .int .i64 ht, .int .i64 x, .int .i64 y, .string C1]) rfl (by kernel_rfl) (by kernel_rfl) (by kernel_rfl) (fun _ _ _ h => h) (fun oi h => by cases h; exact yieldsIf_load_mid (by rfl) 25 (.tmp 8) rfl g 0 rfl [.int .i64 wd, .int .i64 ht, .int .i64 x, .int .i64 y, .string C1] _ (fun w' hS' => hS'.1.range) Try.underlying25 rfl infoScr) hHeld ?_
        try simp only [Act.put, List.setIfInBounds_toArray, List.set_cons_zero, List.set_cons_succ]
        refine take_d 2 (some 87) (.string a2) rfl (by kernel_rfl) (by kernel_rfl) (by kernel_rfl) (fun _ _ _ h => h) (fun oi h => by cases h; exact Or.inl ⟨by rfl, fun w' hS' => by go_simp⟩) hHeld ?_
        try simp only [Act.put, List.setIfInBounds_toArray, List.set_cons_zero, List.set_cons_succ]
        refine take_d 3 (some 88) (.int .i64 wd) rfl (by kernel_rfl) (by kernel_rfl) (by kernel_rfl) (fun _ _ _ h => h) (fun oi h => by cases h; exact Or.inl ⟨by rfl, fun w' hS' => by go_simp⟩) hHeld ?_
        try simp only [Act.put, List.setIfInBounds_toArray, List.set_cons_zero, List.set_cons_succ]
        refine take_d 4 (some 89) (.string (a2.extract wd a2.size)) rfl (by kernel_rfl) (by kernel_rfl) (by kernel_rfl) (fun _ _ _ h => h) (fun oi h => by cases h; exact Or.inl ⟨by rfl, fun w' hS' => by go_simp⟩) hHeld ?_
        try simp only [Act.put, List.setIfInBounds_toArray, List.set_cons_zero, List.set_cons_succ]
        refine take_d 5 (some 90) (.string B0) rfl (by kernel_rfl) (by kernel_rfl) (by kernel_rfl) (fun _ _ _ h => h) (fun oi h => by cases h; exact Or.inl ⟨by rfl, fun w' hS' => by go_simp⟩) hHeld ?_
        try simp only [Act.put, List.setIfInBounds_toArray, List.set_cons_zero, List.set_cons_succ]
        refine take_d 6 (some 91) (.int .i64 wd) rfl (by kernel_rfl) (by kernel_rfl) (by kernel_rfl) (fun _ _ _ h => h) (fun oi h => by cases h; exact Or.inl ⟨by rfl, fun w' hS' => by go_simp⟩) hHeld ?_
        try simp only [Act.put, List.setIfInBounds_toArray, List.set_cons_zero, List.set_cons_succ]
        refine take_d 7 (some 92) (.string (B0.extract 0 wd)) rfl (by kernel_rfl) (by kernel_rfl) (by kernel_rfl) (fun _ _ _ h => h) (fun oi h => by cases h; exact Or.inl ⟨by rfl, fun w' hS' => by go_simp⟩) hHeld ?_
        try simp only [Act.put, List.setIfInBounds_toArray, List.set_cons_zero, List.set_cons_succ]
        refine take_d 8 (some 93) (.string C1) rfl (by kernel_rfl) (by kernel_rfl) (by kernel_rfl) (fun _ _ _ h => h) (fun oi h => by cases h; exact Or.inl ⟨by rfl, fun w' hS' => by go_simp⟩) hHeld ?_
        try simp only [Act.put, List.setIfInBounds_toArray, List.set_cons_zero, List.set_cons_succ]
        refine one_d 1 (some 86) rfl (by kernel_rfl) ?_
        intro o ho hd K hK
        cases ho
        go_simp
        refine (C4.out _).mono ?_
        rintro e w7 ⟨rfl, bb⟩
        have hHeld' := hHeld
        clear hHeld
        have hHeld := hHeld'
        clear hHeld'
        refine hK.out _ _ (⟨hHeld.1.below bb hHeld.1.lt, hHeld.2.trans (bb.mono hHeld.2.size)⟩) (fun hHeld => ?_)
        clear hK K hd bb
        try simp only [Act.put, List.setIfInBounds_toArray, List.set_cons_zero, List.set_cons_succ]
        refine take_d 9 (some 94) (.bool true) rfl (by kernel_rfl) (by kernel_rfl) (by kernel_rfl) (fun _ _ _ h => h) (fun oi h => by cases h; exact Or.inl ⟨by rfl, fun w' hS' => by go_simp⟩) hHeld ?_
        try simp only [Act.put, List.setIfInBounds_toArray, List.set_cons_zero, List.set_cons_succ]
        refine take_d 10 (some 95) (.bool true) rfl (by kernel_rfl) (by kernel_rfl) (by kernel_rfl) (fun _ _ _ h => h) (fun oi h => by cases h; exact Or.inl ⟨by rfl, fun w' hS' => by go_simp⟩) hHeld ?_
        try simp only [Act.put, List.setIfInBounds_toArray, List.set_cons_zero, List.set_cons_succ]
        refine take_d 11 (some 96) (.int .i64 x) rfl (by kernel_rfl) (by kernel_rfl) (by kernel_rfl) (fun _ _ _ h => h) (fun oi h => by cases h; exact Or.inl ⟨by rfl, fun w' hS' => by go_simp⟩) hHeld ?_
        try simp only [Act.put, List.setIfInBounds_toArray, List.set_cons_zero, List.set_cons_succ]
        refine take_d 12 (some 97) (.bool true) rfl (by kernel_rfl) (by kernel_rfl) (by kernel_rfl) (fun _ _ _ h => h) (fun oi h => by cases h; exact Or.inl ⟨by rfl, fun w' hS' => by go_simp⟩) hHeld ?_
        try simp only [Act.put, List.setIfInBounds_toArray, List.set_cons_zero, List.set_cons_succ]
        refine take_d 13 (some 98) (.bool true) rfl (by kernel_rfl) (by kernel_rfl) (by kernel_rfl) (fun _ _ _ h => h) (fun oi h => by cases h; exact Or.inl ⟨by rfl, fun w' hS' => by go_simp⟩) hHeld ?_
        try simp only [Act.put, List.setIfInBounds_toArray, List.set_cons_zero, List.set_cons_succ]
        refine take_d 14 (some 99) (.bool true) rfl (by kernel_rfl) (by kernel_rfl) (by kernel_rfl) (fun _ _ _ h => h) (fun oi h => by cases h; exact Or.inl ⟨by rfl, fun w' hS' => by go_simp⟩) hHeld ?_
        try simp only [Act.put, List.setIfInBounds_toArray, List.set_cons_zero, List.set_cons_succ]
        refine take_d 15 (some 100) (.int .i64 y) rfl (by kernel_rfl) (by kernel_rfl) (by kernel_rfl) (fun _ _ _ h => h) (fun oi h => by cases h; exact Or.inl ⟨by rfl, fun w' hS' => by go_simp⟩) hHeld ?_
        try simp only [Act.put, List.setIfInBounds_toArray, List.set_cons_zero, List.set_cons_succ]
        refine take_d 16 (some 101) (.int .i64 ht) rfl (by kernel_rfl) (by kernel_rfl) (by kernel_rfl) (fun _ _ _ h => h) (fun oi h => by cases h; exact Or.inl ⟨by rfl, fun w' hS' => by go_simp⟩) hHeld ?_
        try simp only [Act.put, List.setIfInBounds_toArray, List.set_cons_zero, List.set_cons_succ]
        refine take_d 17 (some 102) (.int .i64 y) rfl (by kernel_rfl) (by kernel_rfl) (by kernel_rfl) (fun _ _ _ h => h) (fun oi h => by cases h; exact Or.inl ⟨by rfl, fun w' hS' => by go_simp⟩) hHeld ?_
        try simp only [Act.put, List.setIfInBounds_toArray, List.set_cons_zero, List.set_cons_succ]
        refine take_d 18 (some 103) (.bool true) rfl (by kernel_rfl) (by kernel_rfl) (by kernel_rfl) (fun _ _ _ h => h) (fun oi h => by cases h; exact Or.inl ⟨by rfl, fun w' hS' => by go_simp⟩) hHeld ?_
        try simp only [Act.put, List.setIfInBounds_toArray, List.set_cons_zero, List.set_cons_succ]
        refine take_d 19 (some 104) (.bool true) rfl (by kernel_rfl) (by kernel_rfl) (by kernel_rfl) (fun _ _ _ h => h) (fun oi h => by cases h; exact Or.inl ⟨by rfl, fun w' hS' => by go_simp⟩) hHeld ?_
        try simp only [Act.put, List.setIfInBounds_toArray, List.set_cons_zero, List.set_cons_succ]
        refine take_d 20 (some 6) (.bool true) rfl (by kernel_rfl) (by kernel_rfl) (by kernel_rfl) (fun _ _ _ h => h) (fun oi h => by cases h; exact Or.inl ⟨by rfl, fun w' hS' => by go_simp⟩) hHeld ?_
        try simp only [Act.put, List.setIfInBounds_toArray, List.set_cons_zero, List.set_cons_succ]
        refine wpAnyH_done (by kernel_rfl) ?_ _
        try simp only [Act.put]
        have hb := hHeld.2
        go_wp2
        go_ret
        exact ⟨rfl, hb⟩
      · have k1 : ((a2.size : Int) == (n : Int)) = false := by rw [beq_eq_false_iff_ne]; omega
        have hlt : a2.size < n := by have := HS.out; omega
        have hx := N11.put_few HSL.out h1 h3 (by rw [show a2.data.toList.length = a2.size from by simp, ← HN.out]; exact hlt)
        rw [HST.out, show a2.data.toList.length = a2.size from by simp, ← HN.out] at hx
        obtain ⟨hx1, hx2, hx3⟩ := N11.St.mk.inj hx
        have hC : a2 ++ B0.extract a2.size B0.size = C1 := by
          rw [HC1.out, hx3, HBS.out, HB.out]
          apply ByteArray.ext
          simp [ByteArray.data_extract]
        have y1 : (a2.size : Int).tmod (wd : Int) = (x : Int) := by rw [hx1, Int.tmod_eq_emod_of_nonneg (by omega)]; exact (Int.natCast_emod _ _).symm
        have y2 : (a2.size : Int).tdiv (wd : Int) = (y : Int) := by rw [hx2, Int.tdiv_eq_ediv_of_nonneg (by omega)]; exact (Int.natCast_ediv _ _).symm
        have y3 : (a2.size : Int) % (wd : Int) = (x : Int) := by rw [hx1]; exact (Int.natCast_emod _ _).symm
        have y4 : (a2.size : Int) / (wd : Int) = (y : Int) := by rw [hx2]; exact (Int.natCast_ediv _ _).symm
        have hxl : x ≤ a2.size := by rw [hx1]; exact Nat.mod_le _ _
        have hyl : y ≤ a2.size := by rw [hx2]; exact Nat.div_le_self _ _
        have y5 : IntKind.i64.wrap (y : Int) = (y : Int) := by rw [IntKind.wrap_i64]; omega
        have y6 : IntKind.i64.wrap (x : Int) = (x : Int) := by rw [IntKind.wrap_i64]; omega
        have z1 : ((wd : Int) == 0) = false := by simp; omega
        have z2 : ¬ (wd : Int) = 0 := by omega
        have q1 : ¬ (B0.size : Int) < (a2.size : Int) := by rw [HBS.out]; omega
        have q2 : a2.size ≤ B0.size := by rw [HBS.out]; omega
        have q5 : B0.size ≤ 9223372036854775807 := by rw [HBS.out]; omega
        have z3 : ¬ wd = 0 := by omega
        clear hx hx1 hx2 hx3 hfull hlt
        go_wp2
        refine wp_region_held_drew (S := fun w' => Row w' g 25 [.int .i64 wd, .int .i64 ht, .int .i64 x, .int .i64 y, .string C1] ∧ Below w.heap.size w w') (by kernel_rfl) (⟨r6.drew, bb6.drew⟩) (fun hHeld => ?_)
        refine take_d 0 (some 105) (.agg #[.int .i64 wd, .int .i64 ht, .int .i64 x, .int .i64 y, .string C1]) rfl (by kernel_rfl) (by kernel_rfl) (by kernel_rfl) (fun _ _ _ h => h) (fun oi h => by cases h; exact yieldsIf_load_mid (by rfl) 25 (.tmp 8) rfl g 0 rfl [.int .i64 wd, .int .i64 ht, .int .i64 x, .int .i64 y, .string C1] _ (fun w' hS' => hS'.1.range) Try.underlying25 rfl infoScr) hHeld ?_
        try simp only [Act.put, List.setIfInBounds_toArray, List.set_cons_zero, List.set_cons_succ]
        refine take_d 2 (some 107) (.string a2) rfl (by kernel_rfl) (by kernel_rfl) (by kernel_rfl) (fun _ _ _ h => h) (fun oi h => by cases h; exact Or.inl ⟨by rfl, fun w' hS' => by go_simp⟩) hHeld ?_
        try simp only [Act.put, List.setIfInBounds_toArray, List.set_cons_zero, List.set_cons_succ]
        refine take_d 3 (some 108) (.string B0) rfl (by kernel_rfl) (by kernel_rfl) (by kernel_rfl) (fun _ _ _ h => h) (fun oi h => by cases h; exact Or.inl ⟨by rfl, fun w' hS' => by go_simp⟩) hHeld ?_
        try simp only [Act.put, List.setIfInBounds_toArray, List.set_cons_zero, List.set_cons_succ]
        refine take_d 4 (some 109) (.string a2) rfl (by kernel_rfl) (by kernel_rfl) (by kernel_rfl) (fun _ _ _ h => h) (fun oi h => by cases h; exact Or.inl ⟨by rfl, fun w' hS' => by go_simp⟩) hHeld ?_
        try simp only [Act.put, List.setIfInBounds_toArray, List.set_cons_zero, List.set_cons_succ]
        refine take_d 5 (some 110) (.int .i64 (a2.size : Int)) rfl (by kernel_rfl) (by kernel_rfl) (by kernel_rfl) (fun _ _ _ h => h) (fun oi h => by cases h; exact Or.inl ⟨by rfl, fun w' hS' => by go_simp⟩) hHeld ?_
        try simp only [Act.put, List.setIfInBounds_toArray, List.set_cons_zero, List.set_cons_succ]
        refine take_d 6 (some 111) (.string (B0.extract a2.size B0.size)) rfl (by kernel_rfl) (by kernel_rfl) (by kernel_rfl) (fun _ _ _ h => h) (fun oi h => by cases h; exact Or.inl ⟨by rfl, fun w' hS' => by go_simp⟩) hHeld ?_
        try simp only [Act.put, List.setIfInBounds_toArray, List.set_cons_zero, List.set_cons_succ]
        refine take_d 7 (some 112) (.string C1) rfl (by kernel_rfl) (by kernel_rfl) (by kernel_rfl) (fun _ _ _ h => h) (fun oi h => by cases h; exact Or.inl ⟨by rfl, fun w' hS' => by go_simp⟩) hHeld ?_
        try simp only [Act.put, List.setIfInBounds_toArray, List.set_cons_zero, List.set_cons_succ]
        refine one_d 1 (some 106) rfl (by kernel_rfl) ?_
        intro o ho hd K hK
        cases ho
        go_simp
        refine (C4.out _).mono ?_
        rintro e w7 ⟨rfl, bb⟩
        have hHeld' := hHeld
        clear hHeld
        have hHeld := hHeld'
        clear hHeld'
        refine hK.out _ _ (⟨hHeld.1.below bb hHeld.1.lt, hHeld.2.trans (bb.mono hHeld.2.size)⟩) (fun hHeld => ?_)
        clear hK K hd bb
        try simp only [Act.put, List.setIfInBounds_toArray, List.set_cons_zero, List.set_cons_succ]
        refine take_d 8 (some 113) (.bool true) rfl (by kernel_rfl) (by kernel_rfl) (by kernel_rfl) (fun _ _ _ h => h) (fun oi h => by cases h; exact Or.inl ⟨by rfl, fun w' hS' => by go_simp⟩) hHeld ?_
        try simp only [Act.put, List.setIfInBounds_toArray, List.set_cons_zero, List.set_cons_succ]
        refine take_d 9 (some 114) (.bool true) rfl (by kernel_rfl) (by kernel_rfl) (by kernel_rfl) (fun _ _ _ h => h) (fun oi h => by cases h; exact Or.inl ⟨by rfl, fun w' hS' => by go_simp⟩) hHeld ?_
        try simp only [Act.put, List.setIfInBounds_toArray, List.set_cons_zero, List.set_cons_succ]
        refine take_d 10 (some 115) (.int .i64 x) rfl (by kernel_rfl) (by kernel_rfl) (by kernel_rfl) (fun _ _ _ h => h) (fun oi h => by cases h; exact Or.inl ⟨by rfl, fun w' hS' => by go_simp⟩) hHeld ?_
        try simp only [Act.put, List.setIfInBounds_toArray, List.set_cons_zero, List.set_cons_succ]
        refine take_d 11 (some 116) (.string a2) rfl (by kernel_rfl) (by kernel_rfl) (by kernel_rfl) (fun _ _ _ h => h) (fun oi h => by cases h; exact Or.inl ⟨by rfl, fun w' hS' => by go_simp⟩) hHeld ?_
        try simp only [Act.put, List.setIfInBounds_toArray, List.set_cons_zero, List.set_cons_succ]
        refine take_d 12 (some 117) (.int .i64 (a2.size : Int)) rfl (by kernel_rfl) (by kernel_rfl) (by kernel_rfl) (fun _ _ _ h => h) (fun oi h => by cases h; exact Or.inl ⟨by rfl, fun w' hS' => by go_simp⟩) hHeld ?_
        try simp only [Act.put, List.setIfInBounds_toArray, List.set_cons_zero, List.set_cons_succ]
        refine take_d 13 (some 118) (.int .i64 wd) rfl (by kernel_rfl) (by kernel_rfl) (by kernel_rfl) (fun _ _ _ h => h) (fun oi h => by cases h; exact Or.inl ⟨by rfl, fun w' hS' => by go_simp⟩) hHeld ?_
        try simp only [Act.put, List.setIfInBounds_toArray, List.set_cons_zero, List.set_cons_succ]
        refine take_d 14 (some 119) (.int .i64 x) rfl (by kernel_rfl) (by kernel_rfl) (by kernel_rfl) (fun _ _ _ h => h) (fun oi h => by cases h; exact Or.inl ⟨by rfl, fun w' hS' => by go_simp⟩) hHeld ?_
        try simp only [Act.put, List.setIfInBounds_toArray, List.set_cons_zero, List.set_cons_succ]
        refine take_d 15 (some 120) (.bool true) rfl (by kernel_rfl) (by kernel_rfl) (by kernel_rfl) (fun _ _ _ h => h) (fun oi h => by cases h; exact Or.inl ⟨by rfl, fun w' hS' => by go_simp⟩) hHeld ?_
        try simp only [Act.put, List.setIfInBounds_toArray, List.set_cons_zero, List.set_cons_succ]
        refine take_d 16 (some 121) (.bool true) rfl (by kernel_rfl) (by kernel_rfl) (by kernel_rfl) (fun _ _ _ h => h) (fun oi h => by cases h; exact Or.inl ⟨by rfl, fun w' hS' => by go_simp⟩) hHeld ?_
        try simp only [Act.put, List.setIfInBounds_toArray, List.set_cons_zero, List.set_cons_succ]
        refine take_d 17 (some 122) (.bool true) rfl (by kernel_rfl) (by kernel_rfl) (by kernel_rfl) (fun _ _ _ h => h) (fun oi h => by cases h; exact Or.inl ⟨by rfl, fun w' hS' => by go_simp⟩) hHeld ?_
        try simp only [Act.put, List.setIfInBounds_toArray, List.set_cons_zero, List.set_cons_succ]
        refine take_d 18 (some 123) (.int .i64 y) rfl (by kernel_rfl) (by kernel_rfl) (by kernel_rfl) (fun _ _ _ h => h) (fun oi h => by cases h; exact Or.inl ⟨by rfl, fun w' hS' => by go_simp⟩) hHeld ?_
        try simp only [Act.put, List.setIfInBounds_toArray, List.set_cons_zero, List.set_cons_succ]
        refine take_d 19 (some 124) (.string a2) rfl (by kernel_rfl) (by kernel_rfl) (by kernel_rfl) (fun _ _ _ h => h) (fun oi h => by cases h; exact Or.inl ⟨by rfl, fun w' hS' => by go_simp⟩) hHeld ?_
        try simp only [Act.put, List.setIfInBounds_toArray, List.set_cons_zero, List.set_cons_succ]
        refine take_d 20 (some 125) (.int .i64 (a2.size : Int)) rfl (by kernel_rfl) (by kernel_rfl) (by kernel_rfl) (fun _ _ _ h => h) (fun oi h => by cases h; exact Or.inl ⟨by rfl, fun w' hS' => by go_simp⟩) hHeld ?_
        try simp only [Act.put, List.setIfInBounds_toArray, List.set_cons_zero, List.set_cons_succ]
        refine take_d 21 (some 126) (.int .i64 wd) rfl (by kernel_rfl) (by kernel_rfl) (by kernel_rfl) (fun _ _ _ h => h) (fun oi h => by cases h; exact Or.inl ⟨by rfl, fun w' hS' => by go_simp⟩) hHeld ?_
        try simp only [Act.put, List.setIfInBounds_toArray, List.set_cons_zero, List.set_cons_succ]
        refine take_d 22 (some 127) (.int .i64 y) rfl (by kernel_rfl) (by kernel_rfl) (by kernel_rfl) (fun _ _ _ h => h) (fun oi h => by cases h; exact Or.inl ⟨by rfl, fun w' hS' => by go_simp⟩) hHeld ?_
        try simp only [Act.put, List.setIfInBounds_toArray, List.set_cons_zero, List.set_cons_succ]
        refine take_d 23 (some 128) (.bool true) rfl (by kernel_rfl) (by kernel_rfl) (by kernel_rfl) (fun _ _ _ h => h) (fun oi h => by cases h; exact Or.inl ⟨by rfl, fun w' hS' => by go_simp⟩) hHeld ?_
        try simp only [Act.put, List.setIfInBounds_toArray, List.set_cons_zero, List.set_cons_succ]
        refine take_d 24 (some 129) (.bool true) rfl (by kernel_rfl) (by kernel_rfl) (by kernel_rfl) (fun _ _ _ h => h) (fun oi h => by cases h; exact Or.inl ⟨by rfl, fun w' hS' => by go_simp⟩) hHeld ?_
        try simp only [Act.put, List.setIfInBounds_toArray, List.set_cons_zero, List.set_cons_succ]
        refine take_d 25 (some 6) (.bool true) rfl (by kernel_rfl) (by kernel_rfl) (by kernel_rfl) (fun _ _ _ h => h) (fun oi h => by cases h; exact Or.inl ⟨by rfl, fun w' hS' => by go_simp⟩) hHeld ?_
        try simp only [Act.put, List.setIfInBounds_toArray, List.set_cons_zero, List.set_cons_succ]
        refine wpAnyH_done (by kernel_rfl) ?_ _
        try simp only [Act.put]
        have hb := hHeld.2
        go_wp2
        go_ret
        exact ⟨rfl, hb⟩

set_option maxHeartbeats 2000000 in
theorem shortA (a0 a1 : Int) (a2 : ByteArray) (w : World) (t1 : a0 < 1) :
    Calls Try.prog 7 #[.int .i64 a0, .int .i64 a1, .string a2] w fun e w' => e = .returned (.bool true) ∧ Below w.heap.size w w' := by
  go_enter Try.func7, Try.ntmps7
  go_wp2_with fail
  refine (awake11_any _).mono ?_
  rintro e wa ⟨rfl, ba⟩
  go_wp2
  go_ret
  exact ⟨rfl, ba⟩

set_option maxHeartbeats 2000000 in
theorem shortB (a0 a1 : Int) (a2 : ByteArray) (w : World) (t1 : ¬ a0 < 1) (t2 : 80 < a0) :
    Calls Try.prog 7 #[.int .i64 a0, .int .i64 a1, .string a2] w fun e w' => e = .returned (.bool true) ∧ Below w.heap.size w w' := by
  go_enter Try.func7, Try.ntmps7
  go_wp2_with fail
  refine (awake11_any _).mono ?_
  rintro e wa ⟨rfl, ba⟩
  go_wp2
  go_ret
  exact ⟨rfl, ba⟩

set_option maxHeartbeats 2000000 in
theorem shortC (a0 a1 : Int) (a2 : ByteArray) (w : World) (t1 : ¬ a0 < 1) (t2 : ¬ 80 < a0) (t3 : a1 < 1) :
    Calls Try.prog 7 #[.int .i64 a0, .int .i64 a1, .string a2] w fun e w' => e = .returned (.bool true) ∧ Below w.heap.size w w' := by
  go_enter Try.func7, Try.ntmps7
  go_wp2_with fail
  refine (awake11_any _).mono ?_
  rintro e wa ⟨rfl, ba⟩
  go_wp2
  go_ret
  exact ⟨rfl, ba⟩

set_option maxHeartbeats 2000000 in
theorem shortD (a0 a1 : Int) (a2 : ByteArray) (w : World) (t1 : ¬ a0 < 1) (t2 : ¬ 80 < a0) (t3 : ¬ a1 < 1) (t4 : 24 < a1) :
    Calls Try.prog 7 #[.int .i64 a0, .int .i64 a1, .string a2] w fun e w' => e = .returned (.bool true) ∧ Below w.heap.size w w' := by
  go_enter Try.func7, Try.ntmps7
  go_wp2_with fail
  refine (awake11_any _).mono ?_
  rintro e wa ⟨rfl, ba⟩
  go_wp2
  go_ret
  exact ⟨rfl, ba⟩

set_option maxHeartbeats 2000000 in
theorem shortE (wd ht n : Nat) (a2 : ByteArray) (w : World) (t1 : ¬ (wd : Int) < 1) (t2 : ¬ 80 < (wd : Int)) (t3 : ¬ (ht : Int) < 1) (t4 : ¬ 24 < (ht : Int)) (hs : n < a2.size) (hn : n ≤ 1920) (e1 : (wd : Int) * (ht : Int) = (n : Int)) :
    Calls Try.prog 7 #[.int .i64 wd, .int .i64 ht, .string a2] w fun e w' => e = .returned (.bool true) ∧ Below w.heap.size w w' := by
  have w1 : IntKind.i64.wrap (n : Int) = (n : Int) := by rw [IntKind.wrap_i64]; omega
  have t5 : (n : Int) < (a2.size : Int) := by omega
  go_enter Try.func7, Try.ntmps7
  go_wp2_with fail
  refine (awake11_any _).mono ?_
  rintro e wa ⟨rfl, ba⟩
  go_wp2
  go_ret
  exact ⟨rfl, ba⟩

theorem walk (a0 : Int) (a1 : Int) (a2 : ByteArray) (w : World) (w0 : (Lit.int .i64 a0).wf = true) (w1 : (Lit.int .i64 a1).wf = true) (w2 : a2.size ≤ maxLen) :
    Calls Try.prog 7 #[.int .i64 a0, .int .i64 a1, .string a2] w fun e w' => e = .returned (.bool true) ∧ Below w.heap.size w w' := by
  by_cases t1 : a0 < 1
  · exact shortA a0 a1 a2 w t1
  by_cases t2 : 80 < a0
  · exact shortB a0 a1 a2 w t1 t2
  by_cases t3 : a1 < 1
  · exact shortC a0 a1 a2 w t1 t2 t3
  by_cases t4 : 24 < a1
  · exact shortD a0 a1 a2 w t1 t2 t3 t4
  obtain ⟨wd, rfl⟩ := Int.eq_ofNat_of_zero_le (show 0 ≤ a0 by omega)
  obtain ⟨ht, rfl⟩ := Int.eq_ofNat_of_zero_le (show 0 ≤ a1 by omega)
  have hn19 : wd * ht ≤ 80 * 24 := Nat.mul_le_mul (by omega) (by omega)
  by_cases t5 : wd * ht < a2.size
  · exact shortE wd ht (wd * ht) a2 w t1 t2 t3 t4 (by omega) (by omega) (by simp)
  · exact core wd ht a2 w (by omega) (by omega) (by omega) (by omega) (by omega)

end ScreenFillsW
end Go.Proofs.Ytekpbfbipkjibaa
