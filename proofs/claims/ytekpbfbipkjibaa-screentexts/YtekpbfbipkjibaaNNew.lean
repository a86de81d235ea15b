/-
  Layer 11: New, Rows.
-/
import Derived.Test.YtekpbfbipkjibaaNPut
import Derived.Test.YtekpbfbipkjibaaNCalls
import Derived.Test.YtekpbfbipkjibaaSLaws
namespace Go.Proofs.Ytekpbfbipkjibaa
open Go.RowKit
set_option linter.unusedVariables false
set_option maxRecDepth 20000

theorem repeatL_blank (n : Nat) : Lib.repeatL [32] n = List.replicate n (32 : UInt8) := by
  induction n with
  | zero => rfl
  | succ n ih => rw [List.replicate_succ, ← ih]; rfl

set_option maxHeartbeats 2000000 in
theorem scrNew_no (a b : Int) (h : (decide (1 ≤ a) && decide (a ≤ 80) && decide (1 ≤ b) && decide (b ≤ 24)) = false) (w : World) :
    Calls Try.prog 10 #[.int .i64 a, .int .i64 b] w fun e w' => e = .returned (.tuple #[.agg #[.int .i64 0, .int .i64 0, .int .i64 0, .int .i64 0, .string ⟨#[]⟩], .int .i64 7]) ∧ Below w.heap.size w w' := by
  have CS : Hid (∀ wx, Calls Try.prog 30 #[.int .i64 a, .int .i64 b] wx fun e w' => e = .returned (.bool false) ∧ w' = wx) := fun wx => by
    have := sized_any a b wx
    rw [h] at this
    exact this
  clear h
  go_enter Try.func10, Try.ntmps10
  go_wp2_with fail
  refine (CS.out _).mono ?_
  rintro e wq ⟨rfl, rfl⟩
  go_wp2
  exact bodyPost_ret (results_row_tmp rfl _ _ w.heap.size 25 [.int .i64 0, .int .i64 0, .int .i64 0, .int .i64 0, .string ⟨#[]⟩] _ rfl (Row.new' rfl rfl) Try.underlying25 rfl infoScr) rfl ⟨rfl, (Below.refl _ _).alloc (Nat.le_refl _) _⟩

set_option maxHeartbeats 4000000 in
theorem scrNew_yes (wd ht : Nat) (h1 : 1 ≤ wd) (h2 : wd ≤ 80) (h3 : 1 ≤ ht) (h4 : ht ≤ 24) (w : World) :
    Calls Try.prog 10 #[.int .i64 wd, .int .i64 ht] w fun e w' => e = .returned (.tuple #[.agg #[.int .i64 wd, .int .i64 ht, .int .i64 0, .int .i64 0, .string ⟨(List.replicate (wd * ht) 32).toArray⟩], .int .i64 0]) ∧ Below w.heap.size w w' := by
  have CS : Hid (∀ wx, Calls Try.prog 30 #[.int .i64 wd, .int .i64 ht] wx fun e w' => e = .returned (.bool true) ∧ w' = wx) := fun wx => by
    have := sized_any wd ht wx
    rw [show (decide (1 ≤ (wd : Int)) && decide ((wd : Int) ≤ 80) && decide (1 ≤ (ht : Int)) && decide ((ht : Int) ≤ 24)) = true by simp; omega] at this
    exact this
  obtain ⟨n, hn⟩ : ∃ n, n = wd * ht := ⟨_, rfl⟩
  have hn19 : n ≤ 1920 := by rw [hn]; exact Nat.mul_le_mul h2 h4
  obtain ⟨Z, hZ⟩ : ∃ Z : ByteArray, Z = ⟨(List.replicate n (32 : UInt8)).toArray⟩ := ⟨_, rfl⟩
  have CR : Hid (∀ wx, Calls Try.prog 31 #[.string ⟨#[32]⟩, .int .i64 n] wx fun e w' => e = .returned (.string Z) ∧ Below wx.heap.size wx w') := fun wx => by
    have := Try.strings_Repeat ⟨#[32]⟩ n wx (by omega) (by show 1 * n ≤ _; omega)
    rw [show (⟨#[32]⟩ : ByteArray).data.toList = [32] from rfl, repeatL_blank, ← hZ] at this
    exact this
  have e1 : (wd : Int) * (ht : Int) = (n : Int) := by rw [hn]; simp
  have w1 : IntKind.i64.wrap (n : Int) = (n : Int) := by rw [IntKind.wrap_i64]; omega
  rw [← hn, ← hZ]
  clear hZ hn
  have r0 : Row (w.alloc (.cells scrZ 25 (0, 0))) w.heap.size 25 scrZ.toList := Row.new' rfl rfl
  have b0 : Below w.heap.size w (w.alloc (.cells scrZ 25 (0, 0))) := (Below.refl _ _).alloc (Nat.le_refl _) _
  unfold scrZ at r0 b0
  go_enter Try.func10, Try.ntmps10
  go_wp2_with fail
  refine (CS.out _).mono ?_
  rintro e wq ⟨rfl, rfl⟩
  go_wp2_with fail
  refine (CR.out _).mono ?_
  rintro e w5 ⟨rfl, b5⟩
  have r5 := r0.below b5 (by simp)
  have bb5 := b0.trans (b5.mono (by simp))
  clear r0 b0 b5
  go_wp2_with (refine wpList_store_row rfl 25 (.tmp 4) (.tmp 17) rfl w.heap.size _ rfl rfl _ _ r5 infoScr rfl (by simp [Value.oneCell']) ?_)
  exact bodyPost_ret (results_row_tmp rfl _ _ w.heap.size 25 [.int .i64 wd, .int .i64 ht, .int .i64 0, .int .i64 0, .string Z] _ rfl (r5.setRow [.int .i64 wd, .int .i64 ht, .int .i64 0, .int .i64 0, .string Z]) Try.underlying25 rfl infoScr) rfl ⟨rfl, below_row bb5 (Nat.le_refl _) _⟩

theorem row_extract (wd y : Nat) (c : List UInt8) : (⟨c.toArray⟩ : ByteArray).extract (y * wd) ((y + 1) * wd) = ⟨(N11.row wd c y).toArray⟩ := by
  apply ByteArray.ext
  unfold N11.row
  rw [Nat.add_mul, Nat.one_mul]
  simp [ByteArray.data_extract]

/-- Rows that have been laid, and empty texts behind them. -/
def rowsTo (wd ht i : Nat) (c : List UInt8) : List Value := txt (N11.rows wd i c) ++ List.replicate (ht - i) (.string ⟨#[]⟩)
theorem rowsTo_step {wd ht i : Nat} {c : List UInt8} (h : i < ht) : (rowsTo wd ht i c).set i (.string ⟨(N11.row wd c i).toArray⟩) = rowsTo wd ht (i + 1) c := by
  unfold rowsTo
  rw [List.set_append_right _ _ (by simp [txt, N11.rows]), show i - (txt (N11.rows wd i c)).length = 0 by simp [txt, N11.rows], show ht - i = (ht - (i + 1)) + 1 by omega, List.replicate_succ, List.set_cons_zero]
  simp [txt, N11.rows, List.range_succ]
theorem rowsTo_at {wd ht i : Nat} {c : List UInt8} (h : i < ht) : (rowsTo wd ht i c)[i]? = some (.string ⟨#[]⟩) := by
  unfold rowsTo
  rw [List.getElem?_append_right (by simp [txt, N11.rows]), show i - (txt (N11.rows wd i c)).length = 0 by simp [txt, N11.rows], List.getElem?_replicate, if_pos (by omega)]
theorem rowsTo_all (wd ht : Nat) (c : List UInt8) : rowsTo wd ht ht c = txt (N11.rows wd ht c) := by simp [rowsTo]

set_option maxHeartbeats 8000000 in
theorem rows_any (wd ht : Nat) (x y : Int) (c : List UInt8) (h2 : wd ≤ 80) (h4 : ht ≤ 24) (hc : c.length = wd * ht) (w : World) :
    Calls Try.prog 22 #[.agg #[.int .i64 wd, .int .i64 ht, .int .i64 x, .int .i64 y, .string ⟨c.toArray⟩]] w fun e w' => e = .returned (.slice (some ⟨w.heap.size + 1, 0, none⟩) ht ht) ∧ w'.ownsRow w.heap.size 9 1 (.slice (some ⟨w.heap.size + 1, 0, none⟩) ht ht) ht (txt (N11.rows wd ht c)) ∧ Below w.heap.size w w' := by
  obtain ⟨C, hC⟩ : ∃ C : ByteArray, C = ⟨c.toArray⟩ := ⟨_, rfl⟩
  have HX : Hid (∀ i, C.extract (i * wd) ((i + 1) * wd) = ⟨(N11.row wd c i).toArray⟩) := fun i => by rw [hC]; exact row_extract wd i c
  obtain ⟨n, hn⟩ : ∃ n, n = wd * ht := ⟨_, rfl⟩
  have hCs : C.size = n := by rw [hC, hn, ← hc]; simp [ByteArray.size]
  have hn19 : n ≤ 1920 := by rw [hn]; exact Nat.mul_le_mul h2 h4
  rw [← hC]
  obtain ⟨i0, hi, hz0, hz1, hz2⟩ := infoN infoStrN
  have b1 : Below w.heap.size w (w.alloc (.cells #[.int .i64 wd, .int .i64 ht, .int .i64 x, .int .i64 y, .string C] 25 (0, 0))) := (Below.refl _ _).alloc (Nat.le_refl _) _
  have r1 : Row (w.alloc (.cells #[.int .i64 wd, .int .i64 ht, .int .i64 x, .int .i64 y, .string C] 25 (0, 0))) w.heap.size 25 [.int .i64 wd, .int .i64 ht, .int .i64 x, .int .i64 y, .string C] := Row.new' rfl rfl
  have HN := Lib.hid hn
  have HC := Lib.hid hCs
  clear hC hc hn hCs
  go_enter Try.func22, Try.ntmps22
  go_wp2_with (at_make; refine wpList_make_full _ rfl _ _ 31 rfl w.heap.size 9 i0 (.string ⟨#[]⟩) 1 Try.underlying31 hi hz0 hz1 _ _ _ _ ht rfl rfl rfl rfl (by rw [hz2]; omega) (by unfold maxLen; omega) (by simp) ?_)
  intro w2 hown hgrow
  have hsz : (w.alloc (.cells #[.int .i64 wd, .int .i64 ht, .int .i64 x, .int .i64 y, .string C] 25 (0, 0))).heap.size = w.heap.size + 1 := by simp
  have hb2 := b1.grown hgrow (by rw [hsz]; omega) (by simp)
  have hg2 : Below (w.heap.size + 1) (w.alloc (.cells #[.int .i64 wd, .int .i64 ht, .int .i64 x, .int .i64 y, .string C] 25 (0, 0))) w2 := (Below.refl _ _).grown hgrow (by rw [hsz]; omega) (by simp)
  have r2 := r1.below hg2 (by omega)
  try simp only [Nat.mul_one] at hown
  rw [toList_madeCells_one, show List.replicate ht (Value.string ⟨#[]⟩) = rowsTo wd ht 0 c from by simp [rowsTo, txt, N11.rows]] at hown
  clear hsz hgrow hi hz0 hz1 hz2 b1 r1 hg2
  have cA := r2.cell 0
  have cB := r2.cell 1
  have cE := r2.cell 4
  simp only [List.getElem?_cons_zero, List.getElem?_cons_succ] at cA cB cE
  go_wp2
  clear cA cB cE
  go_loopw [4, 10] (fun _ iv wr => ∃ i : Nat, i ≤ ht ∧ iv = .int .i64 i ∧ wr.ownsRow w.heap.size 9 1 (.slice (some ⟨w.heap.size + 1, 0, none⟩) ht ht) ht (rowsTo wd ht i c) ∧ Row wr w.heap.size 25 [.int .i64 wd, .int .i64 ht, .int .i64 x, .int .i64 y, .string C] ∧ Below w.heap.size w wr) (fun _ iv _ => ht - (intOf iv).toNat)
  case atStart => exact ⟨0, Nat.zero_le _, rfl, hown, r2, hb2⟩
  case round =>
    clear hown r2 hb2
    obtain ⟨i, hi, rfl, ho, r, hb⟩ := hrel
    by_cases hlt : i < ht
    · have hs : (i : Int) < ht := by omega
      have hfit : i * wd + wd ≤ n := by rw [HN.out]; exact N11.row_le hlt
      obtain ⟨lo, hlo⟩ : ∃ lo, lo = i * wd := ⟨_, rfl⟩
      obtain ⟨j, hj⟩ : ∃ j, j = i + 1 := ⟨_, rfl⟩
      obtain ⟨hh, hhh⟩ : ∃ hh, hh = j * wd := ⟨_, rfl⟩
      have hhb : hh = lo + wd := by rw [hhh, hj, Nat.add_mul, Nat.one_mul, hlo]
      have x1 : (i : Int) * (wd : Int) = (lo : Int) := by rw [hlo]; simp
      have x2 : IntKind.i64.wrap (lo : Int) = (lo : Int) := by rw [IntKind.wrap_i64]; omega
      have x3 : (i : Int) + 1 = (j : Int) := by omega
      have x4 : IntKind.i64.wrap (j : Int) = (j : Int) := by rw [IntKind.wrap_i64]; omega
      have x5 : (j : Int) * (wd : Int) = (hh : Int) := by rw [hhh]; simp
      have x6 : IntKind.i64.wrap (hh : Int) = (hh : Int) := by rw [IntKind.wrap_i64]; omega
      have y1 : ¬ (C.size : Int) < (hh : Int) := by rw [HC.out]; omega
      have y2 : ¬ (hh : Int) < (lo : Int) := by omega
      have y3 : hh ≤ C.size := by rw [HC.out]; omega
      have y4 : lo ≤ hh := by omega
      have hX : C.extract lo hh = ⟨(N11.row wd c i).toArray⟩ := by rw [hlo, hhh, hj]; exact HX.out i
      obtain ⟨X, hXX⟩ : ∃ X : ByteArray, X = ⟨(N11.row wd c i).toArray⟩ := ⟨_, rfl⟩
      rw [← hXX] at hX
      have hXs : X.size ≤ 281474976710656 := by rw [← hX, ByteArray.size_extract]; omega
      have CC : Hid (∀ wx, Calls Try.prog 40 #[.string X] wx fun e w' => e = .returned (.string X) ∧ Below wx.heap.size wx w') := fun wx => cloneN X wx hXs
      have cA := r.cell 0
      have cE := r.cell 4
      simp only [List.getElem?_cons_zero, List.getElem?_cons_succ] at cA cE
      have HXX := Lib.hid hXX
      clear hlo hhh hfit hXs hXX hj hhb
      go_wp2_with fail
      refine (CC.out _).mono ?_
      rintro e w5 ⟨rfl, b5⟩
      have o5 := ownN ho b5
      have r5 := r.below b5 r.lt
      have hb5 := hb.trans (b5.mono hb.size)
      have hc5 : w5.cell? ⟨w.heap.size + 1, i, none⟩ = some (.string ⟨#[]⟩) := by rw [o5.cellAt i (by omega)]; exact rowsTo_at hlt
      have hf5 := o5.frozenAt i
      have o6 := (o5.stored i (.string X)).1
      rw [HXX.out, rowsTo_step hlt] at o6
      rw [← HXX.out] at o6
      have r6 := r5.other (k := w.heap.size + 1) (i := i) (by omega) (.string X)
      have hb6 := hb5.setCell (p := ⟨w.heap.size + 1, i, none⟩) (by simp) (.string X)
      clear b5 o5 r5 hb5 ho r hb cA cE
      go_wp2
      go_roundw
      case rel => exact ⟨i + 1, by omega, by go_num, o6, r6, hb6⟩
      case measure => simp [intOf]; omega
    · obtain rfl : i = ht := by omega
      rw [rowsTo_all] at ho
      go_wp2
      go_ret
      exact ⟨rfl, ho, hb⟩

end Go.Proofs.Ytekpbfbipkjibaa
