/-
  Several texts in one module: ANext.
-/
import Derived.Test.YtbkeodgiflfakaaMod6
import Derived.Deep.RegionHeld3
/-
  Layer 5: nextKey.
-/
namespace Go.Proofs.Ytbkeodgiflfakaa
open Go.RowKit
set_option linter.unusedVariables false
set_option maxRecDepth 20000

set_option maxHeartbeats 2000000 in
theorem next_any (k : List UInt8) (c : UInt8) (hk : k.length = 16) (w : World) :
    Calls Try.prog 88 #[.agg (W.cellsOf k).toArray, .int .u8 (c.toNat : Int), .agg (W.cellsOf E.sbox).toArray] w fun e w' => e = .returned (.agg (W.cellsOf (E.next k c)).toArray) ∧ Below w.heap.size w w' := by
  have HB := Lib.hid hk
  clear hk
  obtain ⟨box, hbox⟩ : ∃ box, box = E.sbox := ⟨_, rfl⟩
  have HL : Hid (box.length = 256) := by rw [hbox]; exact E.sbox_length
  have HS : Hid (∀ x : UInt8, (W.cellsOf box)[x.toNat]? = some (.int .u8 ((E.sub x).toNat : Int))) := fun x => by rw [c8_at (by rw [HL.out]; exact x.toNat_lt), hbox]; rfl
  rw [← hbox]
  clear hbox
  have hF : (E.next k c).length = k.length := by rw [E.next_length, HB.out]
  have HFull := Lib.hid (E.fill_full (E.next_length k c) HB.out)
  have HF := Lib.hid hF
  clear hF
  have HC0 : Hid (W.cellsOf (E.col k c 0) = [.int .u8 ((E.sub (k.getD 13 0) ^^^ c).toNat : Int), .int .u8 ((E.sub (k.getD 14 0)).toNat : Int), .int .u8 ((E.sub (k.getD 15 0)).toNat : Int), .int .u8 ((E.sub (k.getD 12 0)).toNat : Int)]) := rfl
  go_enter Try.func88, Try.ntmps88
  obtain ⟨wa, hwa⟩ : ∃ wa, wa = ((w.alloc (.cells (W.cellsOf k).toArray 51 (0, 0))).alloc (.cells (W.cellsOf box).toArray 114 (0, 0))).alloc (.cells (W.cellsOf (List.replicate 16 0)).toArray 51 (0, 0)) := ⟨_, rfl⟩
  have r0 : Row wa w.heap.size 51 (W.cellsOf k) := by rw [hwa]; exact ((Row.new w _ _).alloc _).alloc _
  have r1 : Row wa (w.heap.size + 1) 114 (W.cellsOf box) := by rw [hwa]; exact (Row.new' rfl (by simp)).alloc _
  have r2 : Row wa (w.heap.size + 1 + 1) 51 (W.cellsOf (List.replicate 16 0)) := by rw [hwa]; exact Row.new' rfl (by simp)
  have hba : Below w.heap.size w wa := by rw [hwa]; exact (((Below.refl _ _).alloc (Nat.le_refl _) _).alloc (by simp) _).alloc (by simp; omega) _
  have hsz : wa.heap.size = w.heap.size + 1 + 1 + 1 := by rw [hwa]; simp
  have c13 := (r0.cell 13).trans (c8_at (by rw [HB.out]; decide))
  have c14 := (r0.cell 14).trans (c8_at (by rw [HB.out]; decide))
  have c15 := (r0.cell 15).trans (c8_at (by rw [HB.out]; decide))
  have c12 := (r0.cell 12).trans (c8_at (by rw [HB.out]; decide))
  have hx := xor8 (E.sub (k.getD 13 0)) c
  generalize k.getD 13 0 = k13 at *
  generalize k.getD 14 0 = k14 at *
  generalize k.getD 15 0 = k15 at *
  generalize k.getD 12 0 = k12 at *
  have b13 := (r1.cell k13.toNat).trans (HS.out k13)
  have b14 := (r1.cell k14.toNat).trans (HS.out k14)
  have b15 := (r1.cell k15.toNat).trans (HS.out k15)
  have b12 := (r1.cell k12.toNat).trans (HS.out k12)
  generalize E.sub k13 ^^^ c = s13 at *
  generalize E.sub k13 = u13 at *
  generalize E.sub k14 = s14 at *
  generalize E.sub k15 = s15 at *
  generalize E.sub k12 = s12 at *
  have l13 : (k13.toNat : Int) < 256 := by have := k13.toNat_lt; omega
  have l14 : (k14.toNat : Int) < 256 := by have := k14.toNat_lt; omega
  have l15 : (k15.toNat : Int) < 256 := by have := k15.toNat_lt; omega
  have l12 : (k12.toNat : Int) < 256 := by have := k12.toNat_lt; omega
  go_wp2_with fail
  show Code.wp _ _ _ _ (((w.alloc (.cells (W.cellsOf k).toArray 51 (0, 0))).alloc (.cells (W.cellsOf box).toArray 114 (0, 0))).alloc (.cells (W.cellsOf (List.replicate 16 0)).toArray 51 (0, 0)))
  rw [← hwa]
  clear hwa
  have zw : w.heap.size < wa.heap.size ∧ w.heap.size + 1 < wa.heap.size := ⟨r0.lt, r1.lt⟩
  have sa : ∀ o, (wa.alloc o).cell? ⟨w.heap.size, 13, none⟩ = some (.int .u8 (k13.toNat : Int)) ∧ (wa.alloc o).cell? ⟨w.heap.size, 14, none⟩ = some (.int .u8 (k14.toNat : Int)) ∧ (wa.alloc o).cell? ⟨w.heap.size, 15, none⟩ = some (.int .u8 (k15.toNat : Int)) ∧ (wa.alloc o).cell? ⟨w.heap.size, 12, none⟩ = some (.int .u8 (k12.toNat : Int)) ∧ (wa.alloc o).cell? ⟨w.heap.size + 1, k13.toNat, none⟩ = some (.int .u8 (u13.toNat : Int)) ∧ (wa.alloc o).cell? ⟨w.heap.size + 1, k14.toNat, none⟩ = some (.int .u8 (s14.toNat : Int)) ∧ (wa.alloc o).cell? ⟨w.heap.size + 1, k15.toNat, none⟩ = some (.int .u8 (s15.toNat : Int)) ∧ (wa.alloc o).cell? ⟨w.heap.size + 1, k12.toNat, none⟩ = some (.int .u8 (s12.toNat : Int)) := fun o => by
    refine ⟨?_, ?_, ?_, ?_, ?_, ?_, ?_, ?_⟩
    all_goals rw [World.cell?_alloc_lt _ _ _ (by first | exact zw.1 | exact zw.2)]
    all_goals assumption
  go_region_held3 (fun w' => w'.cell? ⟨w.heap.size, 13, none⟩ = some (.int .u8 (k13.toNat : Int)) ∧ w'.cell? ⟨w.heap.size, 14, none⟩ = some (.int .u8 (k14.toNat : Int)) ∧ w'.cell? ⟨w.heap.size, 15, none⟩ = some (.int .u8 (k15.toNat : Int)) ∧ w'.cell? ⟨w.heap.size, 12, none⟩ = some (.int .u8 (k12.toNat : Int)) ∧ w'.cell? ⟨w.heap.size + 1, k13.toNat, none⟩ = some (.int .u8 (u13.toNat : Int)) ∧ w'.cell? ⟨w.heap.size + 1, k14.toNat, none⟩ = some (.int .u8 (s14.toNat : Int)) ∧ w'.cell? ⟨w.heap.size + 1, k15.toNat, none⟩ = some (.int .u8 (s15.toNat : Int)) ∧ w'.cell? ⟨w.heap.size + 1, k12.toNat, none⟩ = some (.int .u8 (s12.toNat : Int))) (first | exact ⟨c13, c14, c15, c12, b13, b14, b15, b12⟩ | exact sa _) (fail)
  have q3 : Row (wa.alloc (Obj.cells #[Value.int .u8 (s13.toNat : Int), Value.int .u8 (s14.toNat : Int), Value.int .u8 (s15.toNat : Int), Value.int .u8 (s12.toNat : Int)] 131 (0, 0))).drew (w.heap.size + 1 + 1 + 1) 131 (W.cellsOf (E.col k c 0)) := Row.new' (by rw [HC0.out]) hsz.symm
  have q0 := (r0.alloc (Obj.cells #[Value.int .u8 (s13.toNat : Int), Value.int .u8 (s14.toNat : Int), Value.int .u8 (s15.toNat : Int), Value.int .u8 (s12.toNat : Int)] 131 (0, 0))).drew
  have q2 := (r2.alloc (Obj.cells #[Value.int .u8 (s13.toNat : Int), Value.int .u8 (s14.toNat : Int), Value.int .u8 (s15.toNat : Int), Value.int .u8 (s12.toNat : Int)] 131 (0, 0))).drew
  have qb := (hba.alloc (by rw [hsz]; omega) (Obj.cells #[Value.int .u8 (s13.toNat : Int), Value.int .u8 (s14.toNat : Int), Value.int .u8 (s15.toNat : Int), Value.int .u8 (s12.toNat : Int)] 131 (0, 0))).drew
  clear sa zw hsz hba r0 r1 r2 c13 c14 c15 c12 b13 b14 b15 b12 HC0 hx l13 l14 l15 l12 HS HL
  generalize (wa.alloc (Obj.cells #[Value.int .u8 (s13.toNat : Int), Value.int .u8 (s14.toNat : Int), Value.int .u8 (s15.toNat : Int), Value.int .u8 (s12.toNat : Int)] 131 (0, 0))).drew = wb at *
  go_wp2
  go_loopw [8, 28] (fun _ iv wr => ∃ j : Nat, j ≤ 16 ∧ iv = .int .i64 j ∧ Row wr w.heap.size 51 (W.cellsOf (E.fill (E.next k c) k j)) ∧ Row wr (w.heap.size + 1 + 1) 51 (W.cellsOf (List.replicate 16 0)) ∧ Row wr (w.heap.size + 1 + 1 + 1) 131 (W.cellsOf (E.col k c j)) ∧ Below w.heap.size w wr) (fun _ iv _ => 16 - (intOf iv).toNat)
  case atStart => exact ⟨0, Nat.zero_le _, rfl, by rw [E.fill_zero]; exact q0, q2, q3, qb⟩
  case round =>
    clear q0 q2 q3 qb
    obtain ⟨j, hj, rfl, r0, r2, r3, hbl⟩ := hrel
    by_cases hlt : j < 16
    · have hlen : j < k.length := by rw [HB.out]; exact hlt
      have hm4 : j % 4 < 4 := Nat.mod_lt _ (by decide)
      have c0 := (r0.cell j).trans (c8_at (by rw [E.fill_length HF.out]; exact hlen))
      rw [E.fill_at HF.out hlen] at c0
      have f0 := r0.frozen j
      have c3 := (r3.cell (j % 4)).trans (c8_at (by rw [E.col_length]; exact hm4))
      have f3 := r3.frozen (j % 4)
      have hx := xor8 ((E.col k c j).getD (j % 4) 0) (k.getD j 0)
      have HC : Hid ((E.col k c j).set (j % 4) ((E.col k c j).getD (j % 4) 0 ^^^ k.getD j 0) = E.col k c (j + 1)) := rfl
      have HN : Hid ((E.next k c).getD j 0 = (E.col k c j).getD (j % 4) 0 ^^^ k.getD j 0) := by
        have h1 : (E.next k c).getD j 0 = (E.col k c (j + 1)).getD (j % 4) 0 := by simp [E.next, hlt]
        show _ = _
        rw [h1, ← HC.out, List.getD_eq_getElem?_getD, List.getElem?_set_self (by rw [E.col_length]; exact hm4)]
        rfl
      have r3' := r3.set (j % 4) (.int .u8 (((E.col k c j).getD (j % 4) 0 ^^^ k.getD j 0).toNat : Int))
      rw [c8_set, HC.out] at r3'
      have K0 : Hid (∀ wx, Row wx w.heap.size 51 (W.cellsOf (E.fill (E.next k c) k j)) → Row (wx.setCell ⟨w.heap.size, j, none⟩ (.int .u8 (((E.col k c j).getD (j % 4) 0 ^^^ k.getD j 0).toNat : Int))) w.heap.size 51 (W.cellsOf (E.fill (E.next k c) k (j + 1)))) := fun wx h => by
        have := h.set j (.int .u8 (((E.next k c).getD j 0).toNat : Int))
        rwa [c8_set, E.fill_step HF.out hlen, HN.out] at this
      clear HC HN
      generalize (E.col k c j).getD (j % 4) 0 ^^^ k.getD j 0 = z at *
      generalize (E.col k c j).getD (j % 4) 0 = x at *
      generalize k.getD j 0 = y at *
      have hs : (j : Int) < 16 := by omega
      have hq : (j : Int) % 4 = ((j % 4 : Nat) : Int) := by omega
      generalize j % 4 = q at *
      have hb3 : w.heap.size ≠ w.heap.size + 1 + 1 + 1 := by omega
      go_wp2
      go_region
      go_wp2
      go_roundw
      case rel => exact ⟨j + 1, by omega, by go_num, (K0.out _ (r0.other (by omega) _)).drew, ((r2.other (by omega) _).other (by omega) _).drew, (r3'.other (by omega) _).drew, ((hbl.setCell (by simp; omega) _).setCell (by simp) _).drew⟩
      case measure => simp [intOf]; omega
    · obtain rfl : j = 16 := by omega
      rw [HFull.out] at r0
      have hi := info16 (E.next_length k c)
      go_wp2_with (first | refine wpList_load_row rfl 51 _ rfl w.heap.size rfl _ _ _ _ r0 Try.underlying51 rfl hi ?_ | refine wpList_store_row rfl 51 (.tmp 6) (.tmp 47) rfl (w.heap.size + 1 + 1) _ rfl rfl _ _ r2 hi (by simp [c8_len, E.next_length]) (c8_all _) ?_)
      exact bodyPost_ret (results_cell_row rfl _ _ (w.heap.size + 1 + 1) _ _ _ _ rfl (r2.setRow (W.cellsOf (E.next k c))) Try.underlying51 rfl hi) rfl ⟨rfl, below_row hbl (by omega) _⟩

end Go.Proofs.Ytbkeodgiflfakaa
