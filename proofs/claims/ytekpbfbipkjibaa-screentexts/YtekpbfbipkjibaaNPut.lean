/-
  Layer 11: Put.
-/
import Derived.Test.YtekpbfbipkjibaaNNext
import Derived.Outline
import Derived.WalkMore
namespace Go.Proofs.Ytekpbfbipkjibaa
open Go.RowKit
set_option linter.unusedVariables false
set_option maxRecDepth 20000

/-- A screen's value. -/
def scr (wd ht : Nat) (s : N11.St) : Array Value := #[.int .i64 wd, .int .i64 ht, .int .i64 s.x, .int .i64 s.y, .string ⟨s.c.toArray⟩]
def scrZ : Array Value := #[.int .i64 0, .int .i64 0, .int .i64 0, .int .i64 0, .string ⟨#[]⟩]

theorem infoScr : (Try.prog.info? 25).map (·.size) = some 5 := by kernel_rfl

set_option maxHeartbeats 4000000 in
theorem put_zero (out : ByteArray) (w : World) : Calls Try.prog 12 #[.agg #[.int .i64 0, .int .i64 0, .int .i64 0, .int .i64 0, .string ⟨#[]⟩], .string out] w fun e w' => e = .returned (.agg #[.int .i64 0, .int .i64 0, .int .i64 0, .int .i64 0, .string ⟨#[]⟩]) ∧ Below w.heap.size w w' := by
  go_enter Try.func12, Try.ntmps12
  go_wp2
  go_step3
  go_wp2
  rw [Exit.noGoto_ret]
  refine bodyPost_ret (results_cell_row rfl _ _ (w.heap.size + 1) _ _ _ _ rfl (Row.new' rfl (by simp)) Try.underlying25 rfl infoScr) rfl ⟨rfl, ?_⟩
  exact ((Below.refl _ _).alloc (Nat.le_refl _) _).alloc (by simp) _

set_option maxHeartbeats 8000000 in
theorem put_any (wd ht : Nat) (s0 : N11.St) (out : ByteArray) (w : World) (hw2 : wd ≤ 80) (hh2 : ht ≤ 24) (ho : N11.Ok wd ht s0) (hout : out.size ≤ 281474976710656) :
    Calls Try.prog 12 #[.agg #[.int .i64 wd, .int .i64 ht, .int .i64 s0.x, .int .i64 s0.y, .string ⟨s0.c.toArray⟩], .string out] w fun e w' => e = .returned (.agg #[.int .i64 wd, .int .i64 ht, .int .i64 (N11.put wd ht s0 out.data.toList).x, .int .i64 (N11.put wd ht s0 out.data.toList).y, .string ⟨(N11.put wd ht s0 out.data.toList).c.toArray⟩]) ∧ Below w.heap.size w w' := by
  have hwz : ((wd : Int) == 0) = false := by have := ho.x; simp; omega
  have hw1 : 1 ≤ wd := by have := ho.x; omega
  obtain ⟨C0, hC0⟩ : ∃ C0 : ByteArray, C0 = ⟨s0.c.toArray⟩ := ⟨_, rfl⟩
  have hCd : C0.data.toList = s0.c := by rw [hC0]
  have hCs : C0.size = wd * ht := by rw [hC0]; simpa [ByteArray.size] using ho.c
  obtain ⟨n, hn⟩ : ∃ n, n = wd * ht := ⟨_, rfl⟩
  have hn19 : n ≤ 1920 := by rw [hn]; exact Nat.mul_le_mul hw2 hh2
  rw [← hC0]
  obtain ⟨x0, hx0⟩ : ∃ x0, x0 = s0.x := ⟨_, rfl⟩
  obtain ⟨y0, hy0⟩ : ∃ y0, y0 = s0.y := ⟨_, rfl⟩
  rw [← hx0, ← hy0]
  obtain ⟨cap, wc, hcv, hcap, hb0, hbel0⟩ := Bs.made (P := Try.prog) ((w.alloc (.cells #[.int .i64 wd, .int .i64 ht, .int .i64 x0, .int .i64 y0, .string C0] 25 (0, 0))).alloc (.cells scrZ 25 (0, 0))) 9 46 5 C0 Try.underlying9 Try.underlying46 Try.underlying5
  have r0 : Row ((w.alloc (.cells #[.int .i64 wd, .int .i64 ht, .int .i64 x0, .int .i64 y0, .string C0] 25 (0, 0))).alloc (.cells scrZ 25 (0, 0))) w.heap.size 25 [.int .i64 wd, .int .i64 ht, .int .i64 x0, .int .i64 y0, .string C0] := (Row.new' rfl rfl).alloc _
  have r1 : Row ((w.alloc (.cells #[.int .i64 wd, .int .i64 ht, .int .i64 x0, .int .i64 y0, .string C0] 25 (0, 0))).alloc (.cells scrZ 25 (0, 0))) (w.heap.size + 1) 25 scrZ.toList := Row.new' rfl (by simp)
  have b0 : Below w.heap.size w ((w.alloc (.cells #[.int .i64 wd, .int .i64 ht, .int .i64 x0, .int .i64 y0, .string C0] 25 (0, 0))).alloc (.cells scrZ 25 (0, 0))) := ((Below.refl _ _).alloc (Nat.le_refl _) _).alloc (by simp) _
  have hsz : ((w.alloc (.cells #[.int .i64 wd, .int .i64 ht, .int .i64 x0, .int .i64 y0, .string C0] 25 (0, 0))).alloc (.cells scrZ 25 (0, 0))).heap.size = w.heap.size + 1 + 1 := by simp
  have r0' := r0.below hbel0 (by rw [hsz]; omega)
  have r1' := r1.below hbel0 (by rw [hsz]; omega)
  have b0' := b0.trans (hbel0.mono (by rw [hsz]; omega))
  rw [hsz] at hcv hb0
  rw [hCs, ← hn] at hcv hcap
  rw [hCd] at hb0
  clear r0 r1 b0 hsz hbel0
  unfold scrZ at hcv
  have HO := Lib.hid ho
  have HC := Lib.hid hCs
  have HN := Lib.hid hn
  have HX := Lib.hid hx0
  have HY := Lib.hid hy0
  clear ho hCs hn hC0 hCd hx0 hy0
  go_enter Try.func12, Try.ntmps12
  go_wp2
  go_step3
  go_wp2
  go_step3
  go_wp2
  go_loopw [6, 7, 17, 23, 41, 47, 59, 63] (fun _ _ iv _ _ _ _ _ wr => ∃ (i x y : Nat) (c : List UInt8), i ≤ out.size ∧ iv = .int .i64 i ∧ Hid ((⟨x, y, c⟩ : N11.St) = N11.put wd ht s0 (out.data.toList.take i)) ∧ N11.Ok wd ht ⟨x, y, c⟩ ∧ Row wr w.heap.size 25 [.int .i64 wd, .int .i64 ht, .int .i64 x, .int .i64 y, .string C0] ∧ Row wr (w.heap.size + 1) 25 scrZ.toList ∧ Bs wr (w.heap.size + 1 + 1) c ∧ Below w.heap.size w wr) (fun _ _ iv _ _ _ _ _ _ => out.size - (intOf iv).toNat)
  case atStart => exact ⟨0, x0, y0, s0.c, Nat.zero_le _, rfl, by show _ = N11.put wd ht s0 []; rw [N11.put_nil, HX.out, HY.out], by rw [HX.out, HY.out]; exact HO.out, r0', r1', hb0, b0'⟩
  case round =>
    clear r0' r1' hb0 b0' hcv
    obtain ⟨i, x, y, c, hi, rfl, HST, OK, r0, r1, hb, hbl⟩ := hrel
    by_cases hlt : i < out.size
    · have hs : (i : Int) < out.size := by omega
      have HNX : Hid (N11.step wd ht ⟨x, y, c⟩ out[i] = N11.put wd ht s0 (out.data.toList.take (i + 1))) := by
        show _ = _
        have hi' : i < out.data.toList.length := by simpa using hlt
        rw [List.take_succ_eq_append_getElem hi', N11.put_snoc, ← HST.out]
        rfl
      have OK' := N11.step_ok OK out[i]
      have CSH : Hid (∀ wx, Calls Try.prog 32 #[.int .u8 (out[i].toNat : Int)] wx fun e w' => e = .returned (.bool (N11.shown out[i])) ∧ w' = wx) := fun wx => shown_any _ wx
      have hxw : x < wd := OK.x
      have hyh : y < ht := OK.y
      have hcl : c.length = n := by rw [HN.out]; exact OK.c
      have c0 := r0.cell 0
      have c1 := r0.cell 1
      have c2 := r0.cell 2
      have c3 := r0.cell 3
      have f2 := r0.frozen 2
      have f3 := r0.frozen 3
      simp only [List.getElem?_cons_zero, List.getElem?_cons_succ] at c0 c1 c2 c3
      have hx19 : x ≤ 80 := by omega
      have hy19 : y ≤ 24 := by omega
      obtain ⟨b, hbi⟩ : ∃ b, b = out[i] := ⟨_, rfl⟩
      rw [← hbi] at HNX OK' CSH
      have EB : Hid (out[i] = b) := hbi.symm
      clear hbi
      by_cases hsh : N11.shown b = true
      · rw [hsh] at CSH
        obtain ⟨m, hm⟩ : ∃ m, m = y * wd := ⟨_, rfl⟩
        obtain ⟨j, hj⟩ : ∃ j, j = m + x := ⟨_, rfl⟩
        obtain ⟨z, hz⟩ : ∃ z, z = x + 1 := ⟨_, rfl⟩
        have hjn : j < n := by rw [hj, hm, HN.out]; exact N11.idx_lt hxw hyh
        have e1 : (y : Int) * (wd : Int) = (m : Int) := by rw [hm]; simp
        have w1 : IntKind.i64.wrap (m : Int) = (m : Int) := by rw [IntKind.wrap_i64]; omega
        have e2 : (m : Int) + (x : Int) = (j : Int) := by omega
        have w2 : IntKind.i64.wrap (j : Int) = (j : Int) := by rw [IntKind.wrap_i64]; omega
        have e3 : (x : Int) + 1 = (z : Int) := by omega
        have w3 : IntKind.i64.wrap (z : Int) = (z : Int) := by rw [IntKind.wrap_i64]; omega
        have hjl : j < c.length := by omega
        have cj := hb.cell j hjl
        have fj := hb.free j hjl
        have hb1 := (hb.set hjl b).other (k := w.heap.size) (i := 2) (by omega) (.int .i64 (z : Int))
        have r01 := (r0.other (k := w.heap.size + 1 + 1) (i := j) (by omega) (.int .u8 (b.toNat : Int))).set 2 (.int .i64 (z : Int))
        have r11 := (r1.other (k := w.heap.size + 1 + 1) (i := j) (by omega) (.int .u8 (b.toNat : Int))).other (k := w.heap.size) (i := 2) (by omega) (.int .i64 (z : Int))
        have bl1 := (hbl.setCell (p := ⟨w.heap.size + 1 + 1, j, none⟩) (by simp; omega) (.int .u8 (b.toNat : Int))).setCell (p := ⟨w.heap.size, 2, none⟩) (Nat.le_refl _) (.int .i64 (z : Int))
        have HJ : Hid (y * wd + x = j) := by show _ = _; rw [hj, hm]
        have HZ := Lib.hid hz
        by_cases hzw : z = wd
        · have tz : ((z : Int) == (wd : Int)) = true := by simp; omega
          have hcj : (c.set j b).length = n := by rw [List.length_set]; exact hcl
          by_cases hlast : y + 1 < ht
          · have hstep : N11.step wd ht ⟨x, y, c⟩ b = ⟨0, y + 1, c.set j b⟩ := by
              unfold N11.step
              rw [if_pos hsh, if_pos (by show x + 1 = wd; omega)]
              unfold N11.down
              rw [if_pos (by show y + 1 < ht; exact hlast)]
              show (⟨0, y + 1, c.set (y * wd + x) b⟩ : N11.St) = _
              rw [HJ.out]
            rw [hstep] at HNX OK'
            have CN : Hid (∀ wx, Calls Try.prog 34 #[.slice (some ⟨w.heap.size + 1 + 1, 0, none⟩) n cap, .int .i64 wd, .int .i64 y] wx fun e w' => e = .returned (.int .i64 ((y + 1 : Nat) : Int)) ∧ w' = wx) := fun wx => next_yes _ cap wd ht y n hw1 hw2 hh2 hlast HN.out wx
            clear hj hm hz hstep hjl hb hbl r0 r1 hxw hyh OK HST hsh hcl hzw hlast hcj
            go_wp2_with fail
            rw [EB.out]
            refine (CSH.out _).mono ?_
            rintro e wq ⟨rfl, rfl⟩
            go_wp2_with fail
            refine (CN.out _).mono ?_
            rintro e wq ⟨rfl, rfl⟩
            have r02 := (r01.set 2 (.int .i64 0)).set 3 (.int .i64 ((y + 1 : Nat) : Int))
            have r12 := (r11.other (k := w.heap.size) (i := 2) (by omega) (.int .i64 0)).other (k := w.heap.size) (i := 3) (by omega) (.int .i64 ((y + 1 : Nat) : Int))
            have hb2 := (hb1.other (k := w.heap.size) (i := 2) (by omega) (.int .i64 0)).other (k := w.heap.size) (i := 3) (by omega) (.int .i64 ((y + 1 : Nat) : Int))
            have bl2 := (bl1.setCell (p := ⟨w.heap.size, 2, none⟩) (Nat.le_refl _) (.int .i64 0)).setCell (p := ⟨w.heap.size, 3, none⟩) (Nat.le_refl _) (.int .i64 ((y + 1 : Nat) : Int))
            clear r01 r11 hb1 bl1 CN CSH
            go_wp2
            go_roundw
            case rel => exact ⟨i + 1, 0, y + 1, c.set j b, by omega, by go_num, HNX, OK', r02, r12, hb2, bl2⟩
            case measure => simp [intOf]; omega
          · have hstep : N11.step wd ht ⟨x, y, c⟩ b = ⟨0, y, (c.set j b).drop wd ++ List.replicate wd 32⟩ := by
              unfold N11.step
              rw [if_pos hsh, if_pos (by show x + 1 = wd; omega)]
              unfold N11.down
              rw [if_neg (by show ¬ y + 1 < ht; exact hlast)]
              show (⟨0, y, (c.set (y * wd + x) b).drop wd ++ List.replicate wd 32⟩ : N11.St) = _
              rw [HJ.out]
            rw [hstep] at HNX OK'
            have CN : Hid (∀ wx, Bs wx (w.heap.size + 1 + 1) (c.set j b) → Calls Try.prog 34 #[.slice (some ⟨w.heap.size + 1 + 1, 0, none⟩) n cap, .int .i64 wd, .int .i64 y] wx fun e w' => e = .returned (.int .i64 (y : Int)) ∧ Bs w' (w.heap.size + 1 + 1) ((c.set j b).drop wd ++ List.replicate wd 32) ∧ But (w.heap.size + 1 + 1) wx w') := fun wx hx => by
              have := next_no (w.heap.size + 1 + 1) cap wd ht y (c.set j b) hw1 hw2 hh2 (by omega) (hcj.trans HN.out) (by omega) wx hx
              rw [hcj] at this
              exact this
            clear hj hm hz hstep hjl hb hbl r0 r1 hxw hyh OK HST hsh hcl hzw hlast hcj
            go_wp2_with fail
            rw [EB.out]
            refine (CSH.out _).mono ?_
            rintro e wq ⟨rfl, rfl⟩
            go_wp2_with fail
            refine (CN.out _ (by exact hb1)).mono ?_
            rintro e w5 ⟨rfl, b5, k5⟩
            have bl5 := bl1.trans (k5.below (by omega) bl1.size)
            have r05 := k5.row r01 (by omega)
            have r15 := k5.row r11 (by omega)
            clear r01 r11 hb1 bl1 CN CSH k5 c0 c1 c2 c3 f2 f3
            have r01 := r05
            have r11 := r15
            have hb1 := b5
            have bl1 := bl5
            clear r05 r15 b5 bl5
            have r02 := (r01.set 2 (.int .i64 0)).set 3 (.int .i64 (y : Int))
            have r12 := (r11.other (k := w.heap.size) (i := 2) (by omega) (.int .i64 0)).other (k := w.heap.size) (i := 3) (by omega) (.int .i64 (y : Int))
            have hb2 := (hb1.other (k := w.heap.size) (i := 2) (by omega) (.int .i64 0)).other (k := w.heap.size) (i := 3) (by omega) (.int .i64 (y : Int))
            have bl2 := (bl1.setCell (p := ⟨w.heap.size, 2, none⟩) (Nat.le_refl _) (.int .i64 0)).setCell (p := ⟨w.heap.size, 3, none⟩) (Nat.le_refl _) (.int .i64 (y : Int))
            have c2 := r01.cell 2
            have c3 := r01.cell 3
            have f2 := r01.frozen 2
            have f3 := r01.frozen 3
            simp only [List.set_cons_succ, List.set_cons_zero, List.getElem?_cons_zero, List.getElem?_cons_succ] at c2 c3
            clear r01 r11 hb1 bl1
            go_wp2
            go_roundw
            case rel => exact ⟨i + 1, 0, y, (c.set j b).drop wd ++ List.replicate wd 32, by omega, by go_num, HNX, OK', r02, r12, hb2, bl2⟩
            case measure => simp [intOf]; omega
        · have tz : ((z : Int) == (wd : Int)) = false := by simp; omega
          have hstep : N11.step wd ht ⟨x, y, c⟩ b = ⟨z, y, c.set j b⟩ := by
            unfold N11.step
            rw [if_pos hsh, if_neg (by show ¬ x + 1 = wd; omega)]
            show (⟨x + 1, y, c.set (y * wd + x) b⟩ : N11.St) = _
            rw [HJ.out, ← HZ.out]
          rw [hstep] at HNX OK'
          clear hj hm hz hstep hjl hb hbl r0 r1 hxw hyh OK HST hsh hcl
          go_wp2_with fail
          rw [EB.out]
          refine (CSH.out _).mono ?_
          rintro e wq ⟨rfl, rfl⟩
          go_wp2
          go_roundw
          case rel => exact ⟨i + 1, z, y, c.set j b, by omega, by go_num, HNX, OK', r01, r11, hb1, bl1⟩
          case measure => simp [intOf]; omega
      · have hsf : N11.shown b = false := by simpa using hsh
        rw [hsf] at CSH
        have u10 : ∀ k : Nat, ((b.toNat : Int) == (k : Int)) = decide (b.toNat = k) := fun k => by rw [Bool.eq_iff_iff, beq_iff_eq, decide_eq_true_eq]; omega
        have v10 := u10 10
        have v8 := u10 8
        have v13 := u10 13
        have v12 := u10 12
        simp only [Int.cast_ofNat_Int] at v10 v8 v13 v12
        clear u10
        have hst0 : N11.step wd ht ⟨x, y, c⟩ b = (if b.toNat = 10 then N11.down wd ht ⟨x, y, c⟩ else if b.toNat = 8 then ⟨x - 1, y, c⟩ else if b.toNat = 13 then ⟨0, y, c⟩ else if b.toNat = 12 then ⟨0, 0, List.replicate (wd * ht) 32⟩ else ⟨x, y, c⟩) := by
          unfold N11.step
          rw [if_neg hsh]
        rw [hst0] at HNX OK'
        clear hst0 hsf hsh
        by_cases h10 : b.toNat = 10
        · rw [if_pos h10] at HNX OK'
          rw [decide_eq_true h10] at v10
          have hb1 := hb.other (k := w.heap.size) (i := 2) (by omega) (.int .i64 (wd : Int))
          have r01 := r0.set 2 (.int .i64 (wd : Int))
          have r11 := r1.other (k := w.heap.size) (i := 2) (by omega) (.int .i64 (wd : Int))
          have bl1 := hbl.setCell (p := ⟨w.heap.size, 2, none⟩) (Nat.le_refl _) (.int .i64 (wd : Int))
          unfold N11.down at HNX OK'
          by_cases hlast : y + 1 < ht
          · rw [if_pos (by exact hlast)] at HNX OK'
            have CN : Hid (∀ wx, Calls Try.prog 34 #[.slice (some ⟨w.heap.size + 1 + 1, 0, none⟩) n cap, .int .i64 wd, .int .i64 y] wx fun e w' => e = .returned (.int .i64 ((y + 1 : Nat) : Int)) ∧ w' = wx) := fun wx => next_yes _ cap wd ht y n hw1 hw2 hh2 hlast HN.out wx
            clear hb hbl r0 r1 hxw hyh OK HST hcl hlast h10 v8 v13 v12
            go_wp2_with fail
            rw [EB.out]
            refine (CSH.out _).mono ?_
            rintro e wq ⟨rfl, rfl⟩
            go_wp2_with fail
            refine (CN.out _).mono ?_
            rintro e wq ⟨rfl, rfl⟩
            have r02 := (r01.set 2 (.int .i64 0)).set 3 (.int .i64 ((y + 1 : Nat) : Int))
            have r12 := (r11.other (k := w.heap.size) (i := 2) (by omega) (.int .i64 0)).other (k := w.heap.size) (i := 3) (by omega) (.int .i64 ((y + 1 : Nat) : Int))
            have hb2 := (hb1.other (k := w.heap.size) (i := 2) (by omega) (.int .i64 0)).other (k := w.heap.size) (i := 3) (by omega) (.int .i64 ((y + 1 : Nat) : Int))
            have bl2 := (bl1.setCell (p := ⟨w.heap.size, 2, none⟩) (Nat.le_refl _) (.int .i64 0)).setCell (p := ⟨w.heap.size, 3, none⟩) (Nat.le_refl _) (.int .i64 ((y + 1 : Nat) : Int))
            clear r01 r11 hb1 bl1 CN CSH
            go_wp2
            go_roundw
            case rel => exact ⟨i + 1, 0, y + 1, c, by omega, by go_num, HNX, OK', r02, r12, hb2, bl2⟩
            case measure => simp [intOf]; omega
          · rw [if_neg (by exact hlast)] at HNX OK'
            have CN : Hid (∀ wx, Bs wx (w.heap.size + 1 + 1) c → Calls Try.prog 34 #[.slice (some ⟨w.heap.size + 1 + 1, 0, none⟩) n cap, .int .i64 wd, .int .i64 y] wx fun e w' => e = .returned (.int .i64 (y : Int)) ∧ Bs w' (w.heap.size + 1 + 1) (c.drop wd ++ List.replicate wd 32) ∧ But (w.heap.size + 1 + 1) wx w') := fun wx hx => by
              have := next_no (w.heap.size + 1 + 1) cap wd ht y c hw1 hw2 hh2 (by omega) (hcl.trans HN.out) (by omega) wx hx
              rw [hcl] at this
              exact this
            clear hb hbl r0 r1 hxw hyh OK HST hcl hlast h10 v8 v13 v12
            go_wp2_with fail
            rw [EB.out]
            refine (CSH.out _).mono ?_
            rintro e wq ⟨rfl, rfl⟩
            go_wp2_with fail
            refine (CN.out _ (by exact hb1)).mono ?_
            rintro e w5 ⟨rfl, b5, k5⟩
            have bl5 := bl1.trans (k5.below (by omega) bl1.size)
            have r05 := k5.row r01 (by omega)
            have r15 := k5.row r11 (by omega)
            clear r01 r11 hb1 bl1 CN CSH k5 c0 c1 c2 c3 f2 f3
            have r01 := r05
            have r11 := r15
            have hb1 := b5
            have bl1 := bl5
            clear r05 r15 b5 bl5
            have r02 := (r01.set 2 (.int .i64 0)).set 3 (.int .i64 (y : Int))
            have r12 := (r11.other (k := w.heap.size) (i := 2) (by omega) (.int .i64 0)).other (k := w.heap.size) (i := 3) (by omega) (.int .i64 (y : Int))
            have hb2 := (hb1.other (k := w.heap.size) (i := 2) (by omega) (.int .i64 0)).other (k := w.heap.size) (i := 3) (by omega) (.int .i64 (y : Int))
            have bl2 := (bl1.setCell (p := ⟨w.heap.size, 2, none⟩) (Nat.le_refl _) (.int .i64 0)).setCell (p := ⟨w.heap.size, 3, none⟩) (Nat.le_refl _) (.int .i64 (y : Int))
            have c2 := r01.cell 2
            have c3 := r01.cell 3
            have f2 := r01.frozen 2
            have f3 := r01.frozen 3
            simp only [List.set_cons_succ, List.set_cons_zero, List.getElem?_cons_zero, List.getElem?_cons_succ] at c2 c3
            clear r01 r11 hb1 bl1
            go_wp2
            go_roundw
            case rel => exact ⟨i + 1, 0, y, c.drop wd ++ List.replicate wd 32, by omega, by go_num, HNX, OK', r02, r12, hb2, bl2⟩
            case measure => simp [intOf]; omega
        · rw [if_neg h10] at HNX OK'
          rw [decide_eq_false h10] at v10
          by_cases h8 : b.toNat = 8
          · rw [if_pos h8] at HNX OK'
            rw [decide_eq_true h8] at v8
            rw [decide_eq_false (by omega)] at v13 v12
            by_cases hx0 : x = 0
            · have t0 : ¬ (0 : Int) < (x : Int) := by omega
              have hx1 : x - 1 = x := by omega
              rw [hx1] at HNX OK'
              clear hx1 hx0 h10 h8 OK HST hcl hxw hyh
              go_wp2_with fail
              rw [EB.out]
              refine (CSH.out _).mono ?_
              rintro e wq ⟨rfl, rfl⟩
              go_wp2
              go_roundw
              case rel => exact ⟨i + 1, x, y, c, by omega, by go_num, HNX, OK', r0, r1, hb, hbl⟩
              case measure => simp [intOf]; omega
            · obtain ⟨z, hz⟩ : ∃ z, z = x - 1 := ⟨_, rfl⟩
              rw [← hz] at HNX OK'
              have t0 : (0 : Int) < (x : Int) := by omega
              have e3 : (x : Int) - 1 = (z : Int) := by omega
              have w3 : IntKind.i64.wrap (z : Int) = (z : Int) := by rw [IntKind.wrap_i64]; omega
              have tz : ((z : Int) == (wd : Int)) = false := by simp; omega
              have hb1 := hb.other (k := w.heap.size) (i := 2) (by omega) (.int .i64 (z : Int))
              have r01 := r0.set 2 (.int .i64 (z : Int))
              have r11 := r1.other (k := w.heap.size) (i := 2) (by omega) (.int .i64 (z : Int))
              have bl1 := hbl.setCell (p := ⟨w.heap.size, 2, none⟩) (Nat.le_refl _) (.int .i64 (z : Int))
              clear hz hx0 h10 h8 OK HST hcl hxw hyh hb hbl r0 r1
              go_wp2_with fail
              rw [EB.out]
              refine (CSH.out _).mono ?_
              rintro e wq ⟨rfl, rfl⟩
              go_wp2
              go_roundw
              case rel => exact ⟨i + 1, z, y, c, by omega, by go_num, HNX, OK', r01, r11, hb1, bl1⟩
              case measure => simp [intOf]; omega
          · rw [if_neg h8] at HNX OK'
            rw [decide_eq_false h8] at v8
            have tz : ((0 : Int) == (wd : Int)) = false := by simp; omega
            by_cases h13 : b.toNat = 13
            · rw [if_pos h13] at HNX OK'
              rw [decide_eq_true h13] at v13
              have hb1 := hb.other (k := w.heap.size) (i := 2) (by omega) (.int .i64 0)
              have r01 := r0.set 2 (.int .i64 0)
              have r11 := r1.other (k := w.heap.size) (i := 2) (by omega) (.int .i64 0)
              have bl1 := hbl.setCell (p := ⟨w.heap.size, 2, none⟩) (Nat.le_refl _) (.int .i64 0)
              clear h10 h8 h13 v12 OK HST hcl hxw hyh hb hbl r0 r1
              go_wp2_with fail
              rw [EB.out]
              refine (CSH.out _).mono ?_
              rintro e wq ⟨rfl, rfl⟩
              go_wp2
              go_roundw
              case rel => exact ⟨i + 1, 0, y, c, by omega, by go_num, HNX, OK', r01, r11, hb1, bl1⟩
              case measure => simp [intOf]; omega
            · rw [if_neg h13] at HNX OK'
              rw [decide_eq_false h13] at v13
              by_cases h12 : b.toNat = 12
              · rw [if_pos h12] at HNX OK'
                rw [decide_eq_true h12] at v12
                have CF : Hid (∀ wx, Bs wx (w.heap.size + 1 + 1) c → Calls Try.prog 33 #[.slice (some ⟨w.heap.size + 1 + 1, 0, none⟩) n cap] wx fun e w' => e = .returned (.tuple #[]) ∧ Bs w' (w.heap.size + 1 + 1) (List.replicate (wd * ht) 32) ∧ But (w.heap.size + 1 + 1) wx w') := fun wx hx => by
                  have := fill_any (w.heap.size + 1 + 1) 0 n cap c wx (by omega) (by omega) hx
                  rw [List.take_zero, List.nil_append, HN.out] at this
                  rw [HN.out]
                  exact this
                clear h10 h8 h13 h12 OK HST hcl hxw hyh c0 c1 c2 c3 f2 f3
                go_wp2_with fail
                rw [EB.out]
                refine (CSH.out _).mono ?_
                rintro e wq ⟨rfl, rfl⟩
                go_wp2_with fail
                refine (CF.out _ (by exact hb)).mono ?_
                rintro e w5 ⟨rfl, b5, k5⟩
                have bl1 := hbl.trans (k5.below (by omega) hbl.size)
                have r01 := k5.row r0 (by omega)
                have r11 := k5.row r1 (by omega)
                have hb1 := b5
                clear r0 r1 hb hbl CF CSH k5 b5
                have r02 := (r01.set 2 (.int .i64 0)).set 3 (.int .i64 0)
                have r12 := (r11.other (k := w.heap.size) (i := 2) (by omega) (.int .i64 0)).other (k := w.heap.size) (i := 3) (by omega) (.int .i64 0)
                have hb2 := (hb1.other (k := w.heap.size) (i := 2) (by omega) (.int .i64 0)).other (k := w.heap.size) (i := 3) (by omega) (.int .i64 0)
                have bl2 := (bl1.setCell (p := ⟨w.heap.size, 2, none⟩) (Nat.le_refl _) (.int .i64 0)).setCell (p := ⟨w.heap.size, 3, none⟩) (Nat.le_refl _) (.int .i64 0)
                have c0 := r01.cell 0
                have c2 := r01.cell 2
                have c3 := r01.cell 3
                have f2 := r01.frozen 2
                have f3 := r01.frozen 3
                simp only [List.getElem?_cons_zero, List.getElem?_cons_succ] at c0 c2 c3
                clear r01 r11 hb1 bl1
                go_wp2
                go_roundw
                case rel => exact ⟨i + 1, 0, 0, List.replicate (wd * ht) 32, by omega, by go_num, HNX, OK', r02, r12, hb2, bl2⟩
                case measure => simp [intOf]; omega
              · rw [if_neg h12] at HNX OK'
                rw [decide_eq_false h12] at v12
                clear h10 h8 h13 h12 OK HST hcl hxw hyh
                go_wp2_with fail
                rw [EB.out]
                refine (CSH.out _).mono ?_
                rintro e wq ⟨rfl, rfl⟩
                go_wp2
                go_roundw
                case rel => exact ⟨i + 1, x, y, c, by omega, by go_num, HNX, OK', r0, r1, hb, hbl⟩
                case measure => simp [intOf]; omega
    · obtain rfl : i = out.size := by omega
      have HE : Hid ((⟨x, y, c⟩ : N11.St) = N11.put wd ht s0 out.data.toList) := by
        show _ = _
        rw [HST.out, show out.size = out.data.toList.length from by simp, List.take_length]
      have hcl : c.length = n := by rw [HN.out]; exact OK.c
      have hcv := hb.conv (P := Try.prog) (cap := cap) Try.underlying46 Try.underlying5 Try.underlying9
      rw [hcl] at hcv
      obtain ⟨C1, hC1⟩ : ∃ C1 : ByteArray, C1 = ⟨c.toArray⟩ := ⟨_, rfl⟩
      rw [← hC1] at hcv
      have c4 := r0.cell 4
      have f4 := r0.frozen 4
      simp only [List.getElem?_cons_zero, List.getElem?_cons_succ] at c4
      have r01 : Row (wr.setCell ⟨w.heap.size, 4, none⟩ (.string C1)) w.heap.size 25 [.int .i64 wd, .int .i64 ht, .int .i64 x, .int .i64 y, .string C1] := r0.set 4 (.string C1)
      have r11 : Row (wr.setCell ⟨w.heap.size, 4, none⟩ (.string C1)) (w.heap.size + 1) 25 scrZ.toList := r1.other (by omega) _
      have bl1 := hbl.setCell (p := ⟨w.heap.size, 4, none⟩) (Nat.le_refl _) (.string C1)
      have HC1 := Lib.hid hC1
      clear hC1 HST OK hb hbl r0 r1
      go_wp2_with (first | refine wpList_load_row rfl 25 (.tmp 2) rfl w.heap.size rfl _ _ _ _ r01 Try.underlying25 rfl infoScr ?_ | refine wpList_store_row rfl 25 (.tmp 4) (.tmp 87) rfl (w.heap.size + 1) _ rfl rfl _ _ r11 infoScr rfl (by simp [Value.oneCell']) ?_)
      rw [Exit.noGoto_ret]
      refine bodyPost_ret (results_cell_row rfl _ _ (w.heap.size + 1) _ _ _ _ rfl (r11.setRow [.int .i64 wd, .int .i64 ht, .int .i64 x, .int .i64 y, .string C1]) Try.underlying25 rfl infoScr) rfl ⟨?_, below_row bl1 (by omega) _⟩
      rw [← HE.out, HC1.out]

end Go.Proofs.Ytekpbfbipkjibaa
