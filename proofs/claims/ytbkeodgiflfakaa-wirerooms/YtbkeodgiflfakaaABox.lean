/-
  Layer 5: Box.
-/
import Derived.Test.YtbkeodgiflfakaaARows
import Derived.WalkMore
namespace Go.Proofs.Ytbkeodgiflfakaa
open Go.RowKit
set_option linter.unusedVariables false
set_option maxRecDepth 20000

/-- Which power of 3 a byte is. -/
def lgOf (v : Value) : Nat := E.lgs.getD (intOf v).toNat 0

set_option maxHeartbeats 800000 in
theorem box_any (w : World) :
    Calls Try.prog 71 #[] w fun e w' => e = .returned (.agg (W.cellsOf E.sbox).toArray) ∧ Below w.heap.size w w' := by
  have HZ := Lib.hid E.bx_zero
  have HFull := Lib.hid E.bx_full
  obtain ⟨z, hz⟩ : ∃ z : List UInt8, z = List.replicate 256 0 := ⟨_, rfl⟩
  have HZL : Hid (z.length = 256) := by rw [hz]; exact List.length_replicate
  go_enter Try.func71, Try.ntmps71
  go_wp2_with fail
  go_step3
  go_wp2_with fail
  refine (spread_any 0 _).mono ?_
  rintro e w1 ⟨rfl, rfl⟩
  have hb0 : Below w.heap.size w ((w.alloc (Obj.cells Try.zeroCells114 114 (0, 0))).alloc (Obj.cells Try.zeroCells114 114 (0, 0))) := ((Below.refl w.heap.size w).alloc (Nat.le_refl _) _).alloc (by simp) _
  have hzc : Try.zeroCells114 = (W.cellsOf z).toArray := by rw [hz]; kernel_rfl
  have r0 : Row ((w.alloc (Obj.cells Try.zeroCells114 114 (0, 0))).alloc (Obj.cells Try.zeroCells114 114 (0, 0))) w.heap.size 114 (W.cellsOf z) := (Row.new' hzc rfl).alloc _
  have r1 : Row ((w.alloc (Obj.cells Try.zeroCells114 114 (0, 0))).alloc (Obj.cells Try.zeroCells114 114 (0, 0))) (w.heap.size + 1) 114 (W.cellsOf z) := Row.new' hzc (by simp)
  generalize (w.alloc (Obj.cells Try.zeroCells114 114 (0, 0))).alloc (Obj.cells Try.zeroCells114 114 (0, 0)) = wa at *
  have f1 := r1.frozen 0
  have c1 := (r1.cell 0).trans (c8_at (by rw [HZL.out]; decide))
  have q1 := r1.set 0 (.int .u8 ((E.spread 0).toNat : Int))
  rw [c8_set, hz, HZ.out] at q1
  have q0 := r0.other (show w.heap.size ≠ w.heap.size + 1 by omega) (i := 0) (.int .u8 ((E.spread 0).toNat : Int))
  have hb1 := hb0.setCell (p := ⟨w.heap.size + 1, 0, none⟩) (by simp) (.int .u8 ((E.spread 0).toNat : Int))
  clear hb0 hzc r0 r1 hz
  generalize (E.spread 0).toNat = s0 at *
  go_wp2
  go_step3
  go_wp2
  go_loopw [2, 3] (fun pv nv wr => ∃ k : Nat, k < 255 ∧ pv = .int .u8 ((E.PW.getD k 0).toNat : Int) ∧ nv = .int .u8 ((E.IV.getD k 0).toNat : Int) ∧ Row wr w.heap.size 114 (W.cellsOf z) ∧ Row wr (w.heap.size + 1) 114 (W.cellsOf (E.bx k)) ∧ Below w.heap.size w wr) (fun pv _ _ => 255 - lgOf pv)
  case atStart => exact ⟨0, by decide, rfl, rfl, q0, q1, hb1⟩
  case round =>
    clear q0 q1 hb1
    obtain ⟨k, hk, rfl, rfl, r0, r1, hbl⟩ := hrel
    have hp := E.pw_step k hk
    have hi := E.iv_step k hk
    have hb := E.bx_step k hk
    have hl1 := E.lg_pw k hk
    have hlt := (E.PW.getD k 0).toNat_lt
    have f1 := r1.frozen (E.PW.getD k 0).toNat
    have c1 := (r1.cell (E.PW.getD k 0).toNat).trans (c8_at (by rw [E.bx_length]; exact hlt))
    have r1' := r1.set (E.PW.getD k 0).toNat (.int .u8 ((E.spread (E.IV.getD k 0)).toNat : Int))
    rw [c8_set, hb] at r1'
    have hx := xor8 (E.dbl (E.PW.getD k 0)) (E.PW.getD k 0)
    rw [hp] at hx
    have HI := Lib.hid hi
    have CS : Hid (∀ w', Calls Try.prog 85 #[.int .u8 ((E.IV.getD k 0).toNat : Int)] w' fun e w'' => e = .returned (.int .u8 ((E.spread (E.IV.getD k 0)).toNat : Int)) ∧ w'' = w') := fun w' => spread_any _ w'
    have CD : Hid (∀ w', Calls Try.prog 86 #[.int .u8 ((E.PW.getD k 0).toNat : Int)] w' fun e w'' => e = .returned (.int .u8 ((E.dbl (E.PW.getD k 0)).toNat : Int)) ∧ w'' = w') := fun w' => double_any _ w'
    have CT : Hid (∀ w', Calls Try.prog 87 #[.int .u8 ((E.IV.getD k 0).toNat : Int), .int .u8 246] w' fun e w'' => e = .returned (.int .u8 ((E.IV.getD (k + 1) 0).toNat : Int)) ∧ w'' = w') := fun w' => by rw [← hi]; exact times_any _ 246 w'
    have HL0 : Hid (∀ k, k < 255 → lgOf (.int .u8 ((E.PW.getD k 0).toNat : Int)) = k) := fun k hk => by simpa [lgOf, intOf] using E.lg_pw k hk
    have HLk := Lib.hid (HL0.out k hk)
    have HLk' : Hid (k < 254 → lgOf (.int .u8 ((E.PW.getD (k + 1) 0).toNat : Int)) = k + 1) := fun h => HL0.out (k + 1) (by omega)
    have H1 : Hid (k < 254 → (E.PW.getD (k + 1) 0).toNat ≠ 1) := E.pw_one k
    have H2 : Hid (k = 254 → (E.PW.getD (k + 1) 0).toNat = 1) := fun h => by subst h; decide +kernel
    have hrel' : Hid (∀ pv nv, pv = (E.PW.getD (k + 1) 0) → nv = (E.IV.getD (k + 1) 0) → ∀ wr, Row wr w.heap.size 114 (W.cellsOf z) → Row wr (w.heap.size + 1) 114 (W.cellsOf (E.bx (k + 1))) → Below w.heap.size w wr → k + 1 < 255 →
      ∃ k : Nat, k < 255 ∧ Value.int .u8 (pv.toNat : Int) = .int .u8 ((E.PW.getD k 0).toNat : Int) ∧ Value.int .u8 (nv.toNat : Int) = .int .u8 ((E.IV.getD k 0).toNat : Int) ∧ Row wr w.heap.size 114 (W.cellsOf z) ∧ Row wr (w.heap.size + 1) 114 (W.cellsOf (E.bx k)) ∧ Below w.heap.size w wr) :=
      fun pv nv h1 h2 wr a b c d => ⟨k + 1, d, by rw [h1], by rw [h2], a, b, c⟩
    clear hp hi hb hl1 HI HL0
    obtain ⟨p', hp'⟩ : ∃ p', p' = E.PW.getD (k + 1) 0 := ⟨_, rfl⟩
    obtain ⟨v', hv'⟩ : ∃ v', v' = E.IV.getD (k + 1) 0 := ⟨_, rfl⟩
    have HP' := Lib.hid hp'
    have HV' := Lib.hid hv'
    rw [← hp'] at HLk' H1 H2 hx
    rw [← hv'] at CT
    clear hp' hv'
    generalize E.PW.getD k 0 = p at *
    generalize E.IV.getD k 0 = v at *
    obtain ⟨bk, hbk⟩ : ∃ bk, bk = E.bx (k + 1) := ⟨_, rfl⟩
    have HBK := Lib.hid hbk
    rw [← hbk] at r1'
    clear hbk
    generalize (E.spread v).toNat = s at *
    generalize (E.dbl p).toNat = d at *
    go_wp2_with fail
    refine (CS.out _).mono ?_
    rintro e w1 ⟨rfl, rfl⟩
    go_wp2_with fail
    refine (CD.out _).mono ?_
    rintro e w1 ⟨rfl, rfl⟩
    go_wp2_with fail
    refine (CT.out _).mono ?_
    rintro e w1 ⟨rfl, rfl⟩
    by_cases hlast : k < 254
    · have hne : ¬ ((p'.toNat : Int) = 1) := by have := H1.out hlast; omega
      go_wp2
      go_roundw
      case rel => exact hrel'.out _ _ HP'.out HV'.out _ (r0.other (by omega) _) (by rw [← HBK.out]; exact r1') (hbl.setCell (by simp) _) (by omega)
      case measure => rw [HLk.out, HLk'.out hlast]; omega
    · obtain rfl : k = 254 := by omega
      rw [HBK.out, HFull.out] at r1'
      have e1 : (p'.toNat : Int) = 1 := by have := H2.out rfl; omega
      clear hrel' HBK
      have hi := info256 E.sbox_length
      go_wp2_with (first | refine wpList_load_row rfl 114 _ rfl (w.heap.size + 1) rfl _ _ _ _ r1' Try.underlying114 rfl hi ?_ | refine wpList_store_row rfl 114 (.tmp 0) (.tmp 18) rfl w.heap.size _ rfl rfl _ _ (r0.other (by omega) _) hi (by rw [List.size_toArray, List.size_toArray, c8_len, c8_len, HZL.out, E.sbox_length]) (c8_all _) ?_)
      try rw [Exit.noGoto_ret]
      exact bodyPost_ret (results_cell_row rfl _ _ w.heap.size _ _ _ _ rfl ((r0.other (by omega) _).setRow (W.cellsOf E.sbox)) Try.underlying114 rfl hi) rfl ⟨rfl, below_row (hbl.setCell (by simp) _) (by omega) _⟩

end Go.Proofs.Ytbkeodgiflfakaa
