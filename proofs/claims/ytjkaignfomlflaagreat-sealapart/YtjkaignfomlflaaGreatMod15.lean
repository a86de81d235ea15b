/-
  Several texts in one module: ABy, ARefEnc.
-/
import Derived.Test.YtjkaignfomlflaaGreatMod1
import Derived.Test.YtjkaignfomlflaaGreatMod14
/-
  Layer 5: the document's By: a block, by a key's words.
-/
namespace Go.Proofs.YtjkaignfomlflaaGreat
open Go.RowKit
set_option linter.unusedVariables false
set_option maxRecDepth 20000

/-- What stays while the document's By goes on: the result's place, and all that was there. -/
def Keeps (w wx : World) : Prop := Row wx (w.heap.size + 1) 31 (W.cellsOf (List.replicate 16 0)) ∧ Below w.heap.size w wx
theorem Keeps.set {w wx : World} (h : Keeps w wx) {k i : Nat} (hk : w.heap.size + 1 < k) (v : Value) : Keeps w (wx.setCell ⟨k, i, none⟩ v) := ⟨h.1.other (by omega) v, h.2.setCell (by simp; omega) v⟩
theorem Keeps.drew {w wx : World} (h : Keeps w wx) : Keeps w wx.drew := ⟨h.1.drew, h.2.drew⟩
theorem Keeps.alloc {w wx : World} (h : Keeps w wx) (o : Obj) : Keeps w (wx.alloc o) := ⟨h.1.alloc o, h.2.alloc h.2.size o⟩
theorem set_other {w : World} {g k i o : Nat} {v x : Value} (h : w.cell? ⟨g, o, none⟩ = some x) (hk : g ≠ k) : (w.setCell ⟨k, i, none⟩ v).cell? ⟨g, o, none⟩ = some x := by
  rw [World.cell?_setCell_other _ _ _ _ (fun h => by have := congrArg Addr.block h; simp at this; omega)]; exact h

set_option maxRecDepth 50000 in
set_option maxHeartbeats 8000000 in
theorem by_any (k b : List UInt8) (hk : k.length = 16) (hb : b.length = 16) (gb capb gw capw : Nat) (w : World) (hgb : gb < w.heap.size) (hgw : gw < w.heap.size)
    (hbox : ∀ x : UInt8, w.cell? ⟨gb, x.toNat, none⟩ = some (.int .u8 ((E.sub x).toNat : Int))) (hwd : ∀ j, j < 176 → w.cell? ⟨gw, j, none⟩ = some (.int .u8 (((E.rks k 11).getD j 0).toNat : Int))) :
    Calls Tryz.prog 56 #[.slice (some ⟨gb, 0, none⟩) 256 capb, .slice (some ⟨gw, 0, none⟩) 44 capw, .agg (W.cellsOf b).toArray] w fun e w' => e = .returned (.agg (W.cellsOf (E.enc k b)).toArray) ∧ Below w.heap.size w w' := by
  have HB := Lib.hid hb
  have HBW : Hid (∀ wx, Keeps w wx → ∀ x : UInt8, wx.cell? ⟨gb, x.toNat, none⟩ = some (.int .u8 ((E.sub x).toNat : Int))) := fun wx h x => by rw [h.2.cell (p := ⟨gb, _, none⟩) hgb]; exact hbox x
  have HKW : Hid (∀ wx, Keeps w wx → ∀ j, j < 176 → wx.cell? ⟨gw, j, none⟩ = some (.int .u8 (((E.rks k 11).getD j 0).toNat : Int))) := fun wx h j hj => by rw [h.2.cell (p := ⟨gw, _, none⟩) hgw]; exact hwd j hj
  have HOV : Hid (∀ Z n r c, n < 11 → r < 4 → c < 4 → (E.tr Z).getD (r * 4 + c) 0 ^^^ (E.rks k 11).getD ((4 * n + c) * 4 + r) 0 = (E.tr (E.over Z (E.rk k n))).getD (r * 4 + c) 0) := fun Z n r c h1 h2 h3 => E.over_tr hk Z n r c h1 h2 h3
  have HST : Hid (∀ i, i < 16 → b.getD i 0 ^^^ (E.rks k 11).getD i 0 = (E.rnd k b 0).getD i 0) := fun i hi => by
    have h1 := E.rks_at hk (r := 0) (j := i) (by decide) hi
    rw [Nat.mul_zero, Nat.zero_add] at h1
    rw [h1]
    exact (E.over_at b (E.rk k 0) i hi).symm
  have HRS : Hid (∀ n, n < 9 → E.over (E.mix (E.shift (E.rnd k b n))) (E.rk k (n + 1)) = E.rnd k b (n + 1)) := fun n h => E.rnd_step k b n h
  have HRL : Hid (E.over (E.shift (E.rnd k b 9)) (E.rk k 10) = E.enc k b) := rfl
  have HR10 : Hid (E.rnd k b 10 = E.enc k b) := rfl
  have HRL10 : Hid (E.over (E.shift (E.rnd k b 9)) (E.rk k (9 + 1)) = E.rnd k b (9 + 1)) := rfl
  have HEL := Lib.hid (E.enc_length k b)
  clear hbox hwd hb hk
  generalize E.enc k b = eb at *
  generalize E.rnd k b = R at *
  generalize E.rks k 11 = K at *
  generalize E.rk k = RK at *
  obtain ⟨g0, hg0⟩ : ∃ g0, g0 = w.heap.size := ⟨_, rfl⟩
  have rI : Row (((w.alloc (.cells (W.cellsOf b).toArray 31 (0, 0))).alloc (.cells (W.cellsOf (List.replicate 16 0)).toArray 31 (0, 0))).alloc (.cells (W.cellsOf (List.replicate 16 0)).toArray 115 (0, 0))) w.heap.size 31 (W.cellsOf b) := ((Row.new' rfl rfl).alloc _).alloc _
  have kK : Keeps w (((w.alloc (.cells (W.cellsOf b).toArray 31 (0, 0))).alloc (.cells (W.cellsOf (List.replicate 16 0)).toArray 31 (0, 0))).alloc (.cells (W.cellsOf (List.replicate 16 0)).toArray 115 (0, 0))) := ⟨(Row.new' rfl (by simp)).alloc _, (((Below.refl _ _).alloc (Nat.le_refl _) _).alloc (by simp) _).alloc (by simp; omega) _⟩
  have rS : Row (((w.alloc (.cells (W.cellsOf b).toArray 31 (0, 0))).alloc (.cells (W.cellsOf (List.replicate 16 0)).toArray 31 (0, 0))).alloc (.cells (W.cellsOf (List.replicate 16 0)).toArray 115 (0, 0))) (w.heap.size + 1 + 1) 115 (W.cellsOf (List.replicate 16 0)) := Row.new' rfl (by simp)
  go_enter Tryz.func56, Tryz.ntmps56
  go_wp2
  go_loopw [8] (fun iv wq => ∃ j : Nat, j ≤ 16 ∧ iv = .int .i64 j ∧ Row wq w.heap.size 31 (W.cellsOf b) ∧ Row wq (w.heap.size + 1 + 1) 115 (W.cellsOf (E.fillT (E.tr (R 0)) (List.replicate 16 0) j)) ∧ Keeps w wq) (fun iv _ => 16 - (intOf iv).toNat)
  case atStart => exact ⟨0, Nat.zero_le _, rfl, rI, by rw [E.fillT_zero (by simp)]; exact rS, kK⟩
  case round =>
    clear rI rS kK
    obtain ⟨j, hj, rfl, rI, rS, kK⟩ := hrel
    by_cases hlt : j < 16
    · have hs : (j : Int) < 16 := by omega
      have hs0 : (0 : Int) ≤ (j : Int) := by omega
      have ci := (rI.cell j).trans (c8_at (by rw [HB.out]; exact hlt))
      have cw := HKW.out _ kK j (by omega)
      have htp : E.tp j = j % 4 * 4 + j / 4 := rfl
      have cs := (rS.cell (E.tp j)).trans (c8_at (by rw [E.fillT_length]; exact E.tp_lt hlt))
      have fs := rS.frozen (E.tp j)
      have hx := xor8 (b.getD j 0) (K.getD j 0)
      rw [HST.out j hlt] at hx
      have rS' := rS.set (E.tp j) (.int .u8 (((R 0).getD j 0).toNat : Int))
      rw [c8_set, ← E.tr_back (R 0) j hlt, E.fillT_step _ _ j hlt, E.tr_back (R 0) j hlt] at rS'
      have hm : (j : Int) % 4 = ((j % 4 : Nat) : Int) := by omega
      have hd : (j : Int) / 4 = ((j / 4 : Nat) : Int) := by omega
      have hm' : (j : Int).tmod 4 = ((j % 4 : Nat) : Int) := by rw [Int.tmod_eq_emod_of_nonneg hs0]; omega
      have hwc : IntKind.i64.wrap ((j / 4 : Nat) : Int) = ((j / 4 : Nat) : Int) := by rw [IntKind.wrap_i64]; omega
      have hjj : j = j / 4 * 4 + j % 4 := by omega
      rw [htp] at cs fs rS'
      rw [hjj] at cw
      generalize hK0 : K.getD (j / 4 * 4 + j % 4) 0 = kk at cw
      rw [← hjj] at hK0
      rw [hK0] at hx
      have hr4 : ((j % 4 : Nat) : Int) < 4 := by omega
      have hc4 : ((j / 4 : Nat) : Int) < 4 := by omega
      have hc44 : ((j / 4 : Nat) : Int) < 44 := by omega
      have HJ := Lib.hid hjj
      clear hjj htp hK0
      generalize j % 4 = r at *
      generalize j / 4 = c at *
      generalize (R 0).getD j 0 = xx at *
      generalize b.getD j 0 = bb at *
      have kc := set_other (k := w.heap.size + 1 + 1) (i := r * 4 + c) (v := .int .u8 (xx.toNat : Int)) ci (by omega)
      have kw := set_other (k := w.heap.size + 1 + 1) (i := r * 4 + c) (v := .int .u8 (xx.toNat : Int)) cw (by omega)
      go_wp2_with fail
      refine wp_region_held_drew (S := fun w' => w'.cell? ⟨w.heap.size, j, none⟩ = some (.int .u8 (bb.toNat : Int)) ∧ w'.cell? ⟨gw, c * 4 + r, none⟩ = some (.int .u8 (kk.toNat : Int))) (by kernel_rfl) ⟨ci, cw⟩ (fun hHeld => ?_)
      refine take_d 0 (some 26) (.int .i64 (j : Int)) rfl (by kernel_rfl) (by kernel_rfl) (by kernel_rfl) (fun _ _ _ h => h) (fun oi h => by cases h; exact Or.inl ⟨by rfl, fun w' hS' => by go_simp⟩) hHeld ?_
      try simp only [Act.put, List.setIfInBounds_toArray, List.set_cons_zero, List.set_cons_succ]
      refine take_d 1 (some 27) (.int .i64 (r : Int)) rfl (by kernel_rfl) (by kernel_rfl) (by kernel_rfl) (fun _ _ _ h => h) (fun oi h => by cases h; exact Or.inl ⟨by rfl, fun w' hS' => by go_simp⟩) hHeld ?_
      try simp only [Act.put, List.setIfInBounds_toArray, List.set_cons_zero, List.set_cons_succ]
      refine take_d 2 (some 28) (.int .i64 (j : Int)) rfl (by kernel_rfl) (by kernel_rfl) (by kernel_rfl) (fun _ _ _ h => h) (fun oi h => by cases h; exact Or.inl ⟨by rfl, fun w' hS' => by go_simp⟩) hHeld ?_
      try simp only [Act.put, List.setIfInBounds_toArray, List.set_cons_zero, List.set_cons_succ]
      refine take_d 3 (some 29) (.int .i64 (c : Int)) rfl (by kernel_rfl) (by kernel_rfl) (by kernel_rfl) (fun _ _ _ h => h) (fun oi h => by cases h; exact Or.inl ⟨by rfl, fun w' hS' => by go_simp⟩) hHeld ?_
      try simp only [Act.put, List.setIfInBounds_toArray, List.set_cons_zero, List.set_cons_succ]
      refine take_d 4 (some 30) (.int .i64 (j : Int)) rfl (by kernel_rfl) (by kernel_rfl) (by kernel_rfl) (fun _ _ _ h => h) (fun oi h => by cases h; exact Or.inl ⟨by rfl, fun w' hS' => by go_simp⟩) hHeld ?_
      try simp only [Act.put, List.setIfInBounds_toArray, List.set_cons_zero, List.set_cons_succ]
      refine take_d 5 (some 31) (.pointer (some ⟨w.heap.size, j, none⟩)) rfl (by kernel_rfl) (by kernel_rfl) (by kernel_rfl) (fun _ _ _ h => h) (fun oi h => by cases h; exact Or.inl ⟨by rfl, fun w' hS' => by go_simp⟩) hHeld ?_
      try simp only [Act.put, List.setIfInBounds_toArray, List.set_cons_zero, List.set_cons_succ]
      refine take_d 6 (some 32) (.int .u8 (bb.toNat : Int)) rfl (by kernel_rfl) (by kernel_rfl) (by kernel_rfl) (fun _ _ _ h => h) (fun oi h => by cases h; exact Or.inl ⟨by rfl, fun w' hS' => by have c := hS'.1; go_simp⟩) hHeld ?_
      try simp only [Act.put, List.setIfInBounds_toArray, List.set_cons_zero, List.set_cons_succ]
      refine take_d 7 (some 33) (.slice (some ⟨gw, 0, none⟩) 44 capw) rfl (by kernel_rfl) (by kernel_rfl) (by kernel_rfl) (fun _ _ _ h => h) (fun oi h => by cases h; exact Or.inl ⟨by rfl, fun w' hS' => by go_simp⟩) hHeld ?_
      try simp only [Act.put, List.setIfInBounds_toArray, List.set_cons_zero, List.set_cons_succ]
      refine take_d 8 (some 34) (.int .i64 (j : Int)) rfl (by kernel_rfl) (by kernel_rfl) (by kernel_rfl) (fun _ _ _ h => h) (fun oi h => by cases h; exact Or.inl ⟨by rfl, fun w' hS' => by go_simp⟩) hHeld ?_
      try simp only [Act.put, List.setIfInBounds_toArray, List.set_cons_zero, List.set_cons_succ]
      refine take_d 9 (some 35) (.int .i64 (c : Int)) rfl (by kernel_rfl) (by kernel_rfl) (by kernel_rfl) (fun _ _ _ h => h) (fun oi h => by cases h; exact Or.inl ⟨by rfl, fun w' hS' => by go_simp⟩) hHeld ?_
      try simp only [Act.put, List.setIfInBounds_toArray, List.set_cons_zero, List.set_cons_succ]
      refine take_d 10 (some 36) (.int .i64 (j : Int)) rfl (by kernel_rfl) (by kernel_rfl) (by kernel_rfl) (fun _ _ _ h => h) (fun oi h => by cases h; exact Or.inl ⟨by rfl, fun w' hS' => by go_simp⟩) hHeld ?_
      try simp only [Act.put, List.setIfInBounds_toArray, List.set_cons_zero, List.set_cons_succ]
      refine take_d 11 (some 37) (.int .i64 (r : Int)) rfl (by kernel_rfl) (by kernel_rfl) (by kernel_rfl) (fun _ _ _ h => h) (fun oi h => by cases h; exact Or.inl ⟨by rfl, fun w' hS' => by go_simp⟩) hHeld ?_
      try simp only [Act.put, List.setIfInBounds_toArray, List.set_cons_zero, List.set_cons_succ]
      refine take_d 12 (some 38) (.pointer (some ⟨gw, c * 4, none⟩)) rfl (by kernel_rfl) (by kernel_rfl) (by kernel_rfl) (fun _ _ _ h => h) (fun oi h => by cases h; exact Or.inl ⟨by rfl, fun w' hS' => by go_simp⟩) hHeld ?_
      try simp only [Act.put, List.setIfInBounds_toArray, List.set_cons_zero, List.set_cons_succ]
      refine take_d 13 (some 39) (.pointer (some ⟨gw, c * 4 + r, none⟩)) rfl (by kernel_rfl) (by kernel_rfl) (by kernel_rfl) (fun _ _ _ h => h) (fun oi h => by cases h; exact Or.inl ⟨by rfl, fun w' hS' => by go_simp⟩) hHeld ?_
      try simp only [Act.put, List.setIfInBounds_toArray, List.set_cons_zero, List.set_cons_succ]
      refine take_d 14 (some 40) (.int .u8 (kk.toNat : Int)) rfl (by kernel_rfl) (by kernel_rfl) (by kernel_rfl) (fun _ _ _ h => h) (fun oi h => by cases h; exact Or.inl ⟨by rfl, fun w' hS' => by have c := hS'.2; go_simp⟩) hHeld ?_
      try simp only [Act.put, List.setIfInBounds_toArray, List.set_cons_zero, List.set_cons_succ]
      refine take_d 15 (some 41) (.int .u8 (xx.toNat : Int)) rfl (by kernel_rfl) (by kernel_rfl) (by kernel_rfl) (fun _ _ _ h => h) (fun oi h => by cases h; exact Or.inl ⟨by rfl, fun w' hS' => by go_simp⟩) hHeld ?_
      try simp only [Act.put, List.setIfInBounds_toArray, List.set_cons_zero, List.set_cons_succ]
      refine take_d 16 (some 42) (.pointer (some ⟨w.heap.size + 1 + 1, r * 4, none⟩)) rfl (by kernel_rfl) (by kernel_rfl) (by kernel_rfl) (fun _ _ _ h => h) (fun oi h => by cases h; exact Or.inl ⟨by rfl, fun w' hS' => by go_simp⟩) hHeld ?_
      try simp only [Act.put, List.setIfInBounds_toArray, List.set_cons_zero, List.set_cons_succ]
      refine take_d 17 (some 43) (.pointer (some ⟨w.heap.size + 1 + 1, r * 4 + c, none⟩)) rfl (by kernel_rfl) (by kernel_rfl) (by kernel_rfl) (fun _ _ _ h => h) (fun oi h => by cases h; exact Or.inl ⟨by rfl, fun w' hS' => by go_simp⟩) hHeld ?_
      try simp only [Act.put, List.setIfInBounds_toArray, List.set_cons_zero, List.set_cons_succ]
      refine one_d 18 none rfl (by kernel_rfl) ?_
      intro o ho' hd K' hK
      cases ho'
      go_simp
      refine hK.out _ _ ⟨kc, kw⟩ (fun hHeld => ?_)
      clear hK K' hHeld hd
      refine wpAnyH_done (by kernel_rfl) ?_ _
      try simp only [Act.put]
      go_wp2
      go_roundw
      case rel => exact ⟨j + 1, by omega, by go_num, (rI.other (by omega) _).drew, rS'.drew, (kK.set (by omega) _).drew⟩
      case measure => simp [intOf]; omega
    · have hj16 : j = 16 := by omega
      have hs16 : ¬ (j : Int) < 16 := by omega
      rw [hj16, E.fillT_full (E.tr_length _)] at rS
      clear rI hlt hj hj16 HST HB
      go_wp2
      go_loopw [9, 10, 11, 12, 13, 14, 15, 16, 17, 18, 19] (fun nv _ _ _ _ _ _ _ _ _ _ wq => ∃ n : Nat, n ≤ 10 ∧ nv = .int .i64 ((n : Int) + 1) ∧ Row wq (w.heap.size + 1 + 1) 115 (W.cellsOf (E.tr (R n))) ∧ Keeps w wq) (fun nv _ _ _ _ _ _ _ _ _ _ _ => 11 - (intOf nv).toNat)
      case atStart => exact ⟨0, Nat.zero_le _, rfl, rS, kK⟩
      case round =>
        clear rS kK
        obtain ⟨n, hn, rfl, rS, kK⟩ := hrel
        by_cases hn10 : n < 10
        · have hsn : (n : Int) + 1 ≤ 10 := by omega
          obtain ⟨gt, hgt⟩ : ∃ gt, gt = wr.heap.size := ⟨_, rfl⟩
          have rT : Row (wr.alloc (.cells (W.cellsOf (List.replicate 16 0)).toArray 115 (0, 0))) gt 115 (W.cellsOf (List.replicate 16 0)) := Row.new' rfl hgt
          have hgl : w.heap.size + 1 + 1 < gt := by rw [hgt]; exact rS.lt
          have rS1 := rS.alloc (.cells (W.cellsOf (List.replicate 16 0)).toArray 115 (0, 0))
          have kK1 := kK.alloc (.cells (W.cellsOf (List.replicate 16 0)).toArray 115 (0, 0))
          clear rS kK
          go_wp2
          rw [← hgt]
          clear hgt
          go_loopw [11, 12] (fun rv _ wq => ∃ r : Nat, r ≤ 4 ∧ rv = .int .i64 r ∧ Row wq (w.heap.size + 1 + 1) 115 (W.cellsOf (E.tr (R n))) ∧ Row wq gt 115 (W.cellsOf (E.fill (E.tr (E.shift (R n))) (List.replicate 16 0) (4 * r))) ∧ Keeps w wq) (fun rv _ _ => 4 - (intOf rv).toNat)
          case atStart => exact ⟨0, Nat.zero_le _, rfl, rS1, by rw [E.fill_zero]; exact rT, kK1⟩
          case round =>
            clear rS1 rT kK1
            obtain ⟨r, hr, rfl, rS, rT, kK⟩ := hrel
            by_cases hr4 : r < 4
            · have hsr : (r : Int) < 4 := by omega
              have hsr0 : (0 : Int) ≤ (r : Int) := by omega
              go_wp2
              go_loopw [12] (fun cv wq => ∃ c : Nat, c ≤ 4 ∧ cv = .int .i64 c ∧ Row wq (w.heap.size + 1 + 1) 115 (W.cellsOf (E.tr (R n))) ∧ Row wq gt 115 (W.cellsOf (E.fill (E.tr (E.shift (R n))) (List.replicate 16 0) (r * 4 + c))) ∧ Keeps w wq) (fun cv _ => 4 - (intOf cv).toNat)
              case atStart => exact ⟨0, Nat.zero_le _, rfl, rS, by rw [Nat.mul_comm r 4]; exact rT, kK⟩
              case round =>
                clear rS rT kK
                obtain ⟨c, hc, rfl, rS, rT, kK⟩ := hrel
                by_cases hc4 : c < 4
                · have hsc : (c : Int) < 4 := by omega
                  have hsc0 : (0 : Int) ≤ (c : Int) := by omega
                  have cs := (rS.cell (r * 4 + (c + r) % 4)).trans (c8_at (by rw [E.tr_length]; omega))
                  have hx := (HBW.out _ kK) ((E.tr (R n)).getD (r * 4 + (c + r) % 4) 0)
                  rw [E.shift_tr (R n) r c hr4 hc4] at hx
                  have hxl := ((E.tr (R n)).getD (r * 4 + (c + r) % 4) 0).toNat_lt
                  have hF : (E.tr (E.shift (R n))).length = (List.replicate 16 (0 : UInt8)).length := by rw [E.tr_length]; simp
                  have ct := (rT.cell (r * 4 + c)).trans (c8_at (by rw [E.fill_length hF]; simp; omega))
                  have ft := rT.frozen (r * 4 + c)
                  have rT' := rT.set (r * 4 + c) (.int .u8 (((E.tr (E.shift (R n))).getD (r * 4 + c) 0).toNat : Int))
                  rw [c8_set, E.fill_step hF (by simp; omega)] at rT'
                  have hm : ((c : Int) + (r : Int)) % 4 = (((c + r) % 4 : Nat) : Int) := by omega
                  have hm' : ((c : Int) + (r : Int)).tmod 4 = (((c + r) % 4 : Nat) : Int) := by rw [Int.tmod_eq_emod_of_nonneg (by omega)]; omega
                  have hwa : IntKind.i64.wrap ((c : Int) + (r : Int)) = (c : Int) + (r : Int) := by rw [IntKind.wrap_i64]; omega
                  have hml : (((c + r) % 4 : Nat) : Int) < 4 := by omega
                  have hxs : (((E.tr (R n)).getD (r * 4 + (c + r) % 4) 0).toNat : Int) < 256 := by omega
                  generalize (E.tr (E.shift (R n))).getD (r * 4 + c) 0 = z at *
                  generalize (E.tr (R n)).getD (r * 4 + (c + r) % 4) 0 = x at *
                  generalize (c + r) % 4 = m at *
                  have kc := set_other (k := gt) (i := r * 4 + c) (v := .int .u8 (z.toNat : Int)) cs (by omega)
                  have kx := set_other (k := gt) (i := r * 4 + c) (v := .int .u8 (z.toNat : Int)) hx (by omega)
                  clear hF hxl
                  go_wp2_with fail
                  refine wp_region_held_drew (S := fun w' => w'.cell? ⟨w.heap.size + 1 + 1, r * 4 + m, none⟩ = some (.int .u8 (x.toNat : Int)) ∧ w'.cell? ⟨gb, x.toNat, none⟩ = some (.int .u8 (z.toNat : Int))) (by kernel_rfl) ⟨cs, hx⟩ (fun hHeld => ?_)
                  refine take_d 0 (some 56) (.int .i64 (r : Int)) rfl (by kernel_rfl) (by kernel_rfl) (by kernel_rfl) (fun _ _ _ h => h) (fun oi h => by cases h; exact Or.inl ⟨by rfl, fun w' hS' => by go_simp⟩) hHeld ?_
                  try simp only [Act.put, List.setIfInBounds_toArray, List.set_cons_zero, List.set_cons_succ]
                  refine take_d 1 (some 57) (.int .i64 (c : Int)) rfl (by kernel_rfl) (by kernel_rfl) (by kernel_rfl) (fun _ _ _ h => h) (fun oi h => by cases h; exact Or.inl ⟨by rfl, fun w' hS' => by go_simp⟩) hHeld ?_
                  try simp only [Act.put, List.setIfInBounds_toArray, List.set_cons_zero, List.set_cons_succ]
                  refine take_d 2 (some 58) (.slice (some ⟨gb, 0, none⟩) 256 capb) rfl (by kernel_rfl) (by kernel_rfl) (by kernel_rfl) (fun _ _ _ h => h) (fun oi h => by cases h; exact Or.inl ⟨by rfl, fun w' hS' => by go_simp⟩) hHeld ?_
                  try simp only [Act.put, List.setIfInBounds_toArray, List.set_cons_zero, List.set_cons_succ]
                  refine take_d 3 (some 59) (.int .i64 (r : Int)) rfl (by kernel_rfl) (by kernel_rfl) (by kernel_rfl) (fun _ _ _ h => h) (fun oi h => by cases h; exact Or.inl ⟨by rfl, fun w' hS' => by go_simp⟩) hHeld ?_
                  try simp only [Act.put, List.setIfInBounds_toArray, List.set_cons_zero, List.set_cons_succ]
                  refine take_d 4 (some 60) (.int .i64 (c : Int)) rfl (by kernel_rfl) (by kernel_rfl) (by kernel_rfl) (fun _ _ _ h => h) (fun oi h => by cases h; exact Or.inl ⟨by rfl, fun w' hS' => by go_simp⟩) hHeld ?_
                  try simp only [Act.put, List.setIfInBounds_toArray, List.set_cons_zero, List.set_cons_succ]
                  refine take_d 5 (some 61) (.int .i64 (r : Int)) rfl (by kernel_rfl) (by kernel_rfl) (by kernel_rfl) (fun _ _ _ h => h) (fun oi h => by cases h; exact Or.inl ⟨by rfl, fun w' hS' => by go_simp⟩) hHeld ?_
                  try simp only [Act.put, List.setIfInBounds_toArray, List.set_cons_zero, List.set_cons_succ]
                  refine take_d 6 (some 62) (.int .i64 ((c : Int) + (r : Int))) rfl (by kernel_rfl) (by kernel_rfl) (by kernel_rfl) (fun _ _ _ h => h) (fun oi h => by cases h; exact Or.inl ⟨by rfl, fun w' hS' => by go_simp⟩) hHeld ?_
                  try simp only [Act.put, List.setIfInBounds_toArray, List.set_cons_zero, List.set_cons_succ]
                  refine take_d 7 (some 63) (.int .i64 (m : Int)) rfl (by kernel_rfl) (by kernel_rfl) (by kernel_rfl) (fun _ _ _ h => h) (fun oi h => by cases h; exact Or.inl ⟨by rfl, fun w' hS' => by go_simp⟩) hHeld ?_
                  try simp only [Act.put, List.setIfInBounds_toArray, List.set_cons_zero, List.set_cons_succ]
                  refine take_d 8 (some 64) (.pointer (some ⟨w.heap.size + 1 + 1, r * 4, none⟩)) rfl (by kernel_rfl) (by kernel_rfl) (by kernel_rfl) (fun _ _ _ h => h) (fun oi h => by cases h; exact Or.inl ⟨by rfl, fun w' hS' => by go_simp⟩) hHeld ?_
                  try simp only [Act.put, List.setIfInBounds_toArray, List.set_cons_zero, List.set_cons_succ]
                  refine take_d 9 (some 65) (.pointer (some ⟨w.heap.size + 1 + 1, r * 4 + m, none⟩)) rfl (by kernel_rfl) (by kernel_rfl) (by kernel_rfl) (fun _ _ _ h => h) (fun oi h => by cases h; exact Or.inl ⟨by rfl, fun w' hS' => by go_simp⟩) hHeld ?_
                  try simp only [Act.put, List.setIfInBounds_toArray, List.set_cons_zero, List.set_cons_succ]
                  refine take_d 10 (some 66) (.int .u8 (x.toNat : Int)) rfl (by kernel_rfl) (by kernel_rfl) (by kernel_rfl) (fun _ _ _ h => h) (fun oi h => by cases h; exact Or.inl ⟨by rfl, fun w' hS' => by have c := hS'.1; go_simp⟩) hHeld ?_
                  try simp only [Act.put, List.setIfInBounds_toArray, List.set_cons_zero, List.set_cons_succ]
                  refine take_d 11 (some 67) (.pointer (some ⟨gb, x.toNat, none⟩)) rfl (by kernel_rfl) (by kernel_rfl) (by kernel_rfl) (fun _ _ _ h => h) (fun oi h => by cases h; exact Or.inl ⟨by rfl, fun w' hS' => by go_simp⟩) hHeld ?_
                  try simp only [Act.put, List.setIfInBounds_toArray, List.set_cons_zero, List.set_cons_succ]
                  refine take_d 12 (some 68) (.int .u8 (z.toNat : Int)) rfl (by kernel_rfl) (by kernel_rfl) (by kernel_rfl) (fun _ _ _ h => h) (fun oi h => by cases h; exact Or.inl ⟨by rfl, fun w' hS' => by have c := hS'.2; go_simp⟩) hHeld ?_
                  try simp only [Act.put, List.setIfInBounds_toArray, List.set_cons_zero, List.set_cons_succ]
                  refine take_d 13 (some 69) (.pointer (some ⟨gt, r * 4, none⟩)) rfl (by kernel_rfl) (by kernel_rfl) (by kernel_rfl) (fun _ _ _ h => h) (fun oi h => by cases h; exact Or.inl ⟨by rfl, fun w' hS' => by go_simp⟩) hHeld ?_
                  try simp only [Act.put, List.setIfInBounds_toArray, List.set_cons_zero, List.set_cons_succ]
                  refine take_d 14 (some 70) (.pointer (some ⟨gt, r * 4 + c, none⟩)) rfl (by kernel_rfl) (by kernel_rfl) (by kernel_rfl) (fun _ _ _ h => h) (fun oi h => by cases h; exact Or.inl ⟨by rfl, fun w' hS' => by go_simp⟩) hHeld ?_
                  try simp only [Act.put, List.setIfInBounds_toArray, List.set_cons_zero, List.set_cons_succ]
                  refine one_d 15 none rfl (by kernel_rfl) ?_
                  intro o ho' hd K' hK
                  cases ho'
                  go_simp
                  refine hK.out _ _ ⟨kc, kx⟩ (fun hHeld => ?_)
                  clear hK K' hHeld hd
                  refine wpAnyH_done (by kernel_rfl) ?_ _
                  try simp only [Act.put]
                  go_wp2
                  go_roundw
                  case rel => exact ⟨c + 1, by omega, by go_num, (rS.other (by omega) _).drew, rT'.drew, (kK.set (by omega) _).drew⟩
                  case measure => simp [intOf]; omega
                · have hc4' : c = 4 := by omega
                  rw [hc4', show r * 4 + 4 = 4 * (r + 1) from by omega] at rT
                  have hsc : ¬ (c : Int) < 4 := by omega
                  go_wp2
                  go_roundw
                  case rel => exact ⟨r + 1, by omega, by go_num, rS, rT, kK⟩
                  case measure => simp [intOf]; omega
            · have hr4' : r = 4 := by omega
              rw [hr4', E.fill_full (n := 16) (E.tr_length _) (by simp)] at rT
              have hsr : ¬ (r : Int) < 4 := by omega
              clear hr hr4 hr4'
              by_cases h9 : n < 9
              · have hs9 : (n : Int) + 1 < 10 := by omega
                go_wp2
                go_loopw [13, 14, 15, 16, 17] (fun cv _ _ _ _ wq => ∃ c : Nat, c ≤ 4 ∧ cv = .int .i64 c ∧ Row wq (w.heap.size + 1 + 1) 115 (W.cellsOf (E.tr (R n))) ∧ Row wq gt 115 (W.cellsOf (E.mixC (E.shift (R n)) c)) ∧ Keeps w wq) (fun cv _ _ _ _ _ => 4 - (intOf cv).toNat)
                case atStart => exact ⟨0, Nat.zero_le _, rfl, rS, by rw [E.mixC_zero]; exact rT, kK⟩
                case round =>
                  clear rS rT kK
                  obtain ⟨c, hc, rfl, rS, rT, kK⟩ := hrel
                  by_cases hc4 : c < 4
                  · have hsc : (c : Int) < 4 := by omega
                    have hsc0 : (0 : Int) ≤ (c : Int) := by omega
                    have HNOW := Lib.hid (E.mixC_now4 (E.shift (R n)) c hc4)
                    have HSTEP := Lib.hid (E.mixC_step (E.shift (R n)) c hc4)
                    have HCOL := Lib.hid (E.mix_col (E.shift (R n)) c hc4 _ _ _ _ rfl rfl rfl rfl)
                    have c0 := (rT.cell c).trans (c8_at (by rw [E.mixC_length]; omega))
                    have c1 := (rT.cell (4 + c)).trans (c8_at (by rw [E.mixC_length]; omega))
                    have c2 := (rT.cell (8 + c)).trans (c8_at (by rw [E.mixC_length]; omega))
                    have c3 := (rT.cell (12 + c)).trans (c8_at (by rw [E.mixC_length]; omega))
                    rw [HNOW.out.1] at c0
                    rw [HNOW.out.2.1] at c1
                    rw [HNOW.out.2.2.1] at c2
                    rw [HNOW.out.2.2.2] at c3
                    have hlM := E.mixC_length (E.shift (R n)) c
                    rw [HCOL.out.1, HCOL.out.2.1, HCOL.out.2.2.1, HCOL.out.2.2.2] at HSTEP
                    clear HNOW HCOL
                    generalize (E.shift (R n)).getD (4 * c) 0 = a at *
                    generalize (E.shift (R n)).getD (4 * c + 1) 0 = b' at *
                    generalize (E.shift (R n)).getD (4 * c + 2) 0 = d at *
                    generalize (E.shift (R n)).getD (4 * c + 3) 0 = e' at *
                    generalize E.mixC (E.shift (R n)) c = M at *
                    have T2a : Hid (∀ wx, Calls Tryz.prog 78 #[.int .u8 (a.toNat : Int), .int .u8 2] wx fun e w' => e = .returned (.int .u8 ((E.dbl a).toNat : Int)) ∧ w' = wx) := fun wx => by have := refTimes_any a 2 wx; rw [E.mul_two] at this; exact this
                    have T2b : Hid (∀ wx, Calls Tryz.prog 78 #[.int .u8 (b'.toNat : Int), .int .u8 2] wx fun e w' => e = .returned (.int .u8 ((E.dbl b').toNat : Int)) ∧ w' = wx) := fun wx => by have := refTimes_any b' 2 wx; rw [E.mul_two] at this; exact this
                    have T2d : Hid (∀ wx, Calls Tryz.prog 78 #[.int .u8 (d.toNat : Int), .int .u8 2] wx fun e w' => e = .returned (.int .u8 ((E.dbl d).toNat : Int)) ∧ w' = wx) := fun wx => by have := refTimes_any d 2 wx; rw [E.mul_two] at this; exact this
                    have T2e : Hid (∀ wx, Calls Tryz.prog 78 #[.int .u8 (e'.toNat : Int), .int .u8 2] wx fun e w' => e = .returned (.int .u8 ((E.dbl e').toNat : Int)) ∧ w' = wx) := fun wx => by have := refTimes_any e' 2 wx; rw [E.mul_two] at this; exact this
                    have T3a : Hid (∀ wx, Calls Tryz.prog 78 #[.int .u8 (a.toNat : Int), .int .u8 3] wx fun e w' => e = .returned (.int .u8 ((E.dbl a ^^^ a).toNat : Int)) ∧ w' = wx) := fun wx => by have := refTimes_any a 3 wx; rw [E.mul_three] at this; exact this
                    have T3b : Hid (∀ wx, Calls Tryz.prog 78 #[.int .u8 (b'.toNat : Int), .int .u8 3] wx fun e w' => e = .returned (.int .u8 ((E.dbl b' ^^^ b').toNat : Int)) ∧ w' = wx) := fun wx => by have := refTimes_any b' 3 wx; rw [E.mul_three] at this; exact this
                    have T3d : Hid (∀ wx, Calls Tryz.prog 78 #[.int .u8 (d.toNat : Int), .int .u8 3] wx fun e w' => e = .returned (.int .u8 ((E.dbl d ^^^ d).toNat : Int)) ∧ w' = wx) := fun wx => by have := refTimes_any d 3 wx; rw [E.mul_three] at this; exact this
                    have T3e : Hid (∀ wx, Calls Tryz.prog 78 #[.int .u8 (e'.toNat : Int), .int .u8 3] wx fun e w' => e = .returned (.int .u8 ((E.dbl e' ^^^ e').toNat : Int)) ∧ w' = wx) := fun wx => by have := refTimes_any e' 3 wx; rw [E.mul_three] at this; exact this
                    generalize E.dbl a ^^^ a = a3 at *
                    generalize E.dbl b' ^^^ b' = b3 at *
                    generalize E.dbl d ^^^ d = d3 at *
                    generalize E.dbl e' ^^^ e' = e3 at *
                    generalize E.dbl a = a2 at *
                    generalize E.dbl b' = b2 at *
                    generalize E.dbl d = d2 at *
                    generalize E.dbl e' = e2 at *
                    have x01 := xor8 a2 b3
                    have x02 := xor8 (a2 ^^^ b3) d
                    have x03 := xor8 (a2 ^^^ b3 ^^^ d) e'
                    have x11 := xor8 a b2
                    have x12 := xor8 (a ^^^ b2) d3
                    have x13 := xor8 (a ^^^ b2 ^^^ d3) e'
                    have x21 := xor8 a b'
                    have x22 := xor8 (a ^^^ b') d2
                    have x23 := xor8 (a ^^^ b' ^^^ d2) e3
                    have x31 := xor8 a3 b'
                    have x32 := xor8 (a3 ^^^ b') d
                    have x33 := xor8 (a3 ^^^ b' ^^^ d) e2
                    generalize a2 ^^^ b3 ^^^ d ^^^ e' = m0 at *
                    generalize a2 ^^^ b3 ^^^ d = p2 at *
                    generalize a2 ^^^ b3 = p1 at *
                    generalize a ^^^ b2 ^^^ d3 ^^^ e' = m1 at *
                    generalize a ^^^ b2 ^^^ d3 = q2 at *
                    generalize a ^^^ b2 = q1 at *
                    generalize a ^^^ b' ^^^ d2 ^^^ e3 = m2 at *
                    generalize a ^^^ b' ^^^ d2 = r2 at *
                    generalize a ^^^ b' = r1 at *
                    generalize a3 ^^^ b' ^^^ d ^^^ e2 = m3 at *
                    generalize a3 ^^^ b' ^^^ d = s2 at *
                    generalize a3 ^^^ b' = s1 at *
                    go_wp2_with fail
                    refine wp_region_held_drew (S := fun w' => w'.cell? ⟨gt, c, none⟩ = some (.int .u8 (a.toNat : Int)) ∧ w'.cell? ⟨gt, 4 + c, none⟩ = some (.int .u8 (b'.toNat : Int)) ∧ w'.cell? ⟨gt, 8 + c, none⟩ = some (.int .u8 (d.toNat : Int)) ∧ w'.cell? ⟨gt, 12 + c, none⟩ = some (.int .u8 (e'.toNat : Int))) (by kernel_rfl) ⟨c0, c1, c2, c3⟩ (fun hHeld => ?_)
                    refine take_d 0 (some 77) (.int .i64 (c : Int)) rfl (by kernel_rfl) (by kernel_rfl) (by kernel_rfl) (fun _ _ _ h => h) (fun oi h => by cases h; exact Or.inl ⟨by rfl, fun w' hS' => by go_simp⟩) hHeld ?_
                    try simp only [Act.put, List.setIfInBounds_toArray, List.set_cons_zero, List.set_cons_succ]
                    refine take_d 1 (some 78) (.pointer (some ⟨gt, 0, none⟩)) rfl (by kernel_rfl) (by kernel_rfl) (by kernel_rfl) (fun _ _ _ h => h) (fun oi h => by cases h; exact Or.inl ⟨by rfl, fun w' hS' => by go_simp⟩) hHeld ?_
                    try simp only [Act.put, List.setIfInBounds_toArray, List.set_cons_zero, List.set_cons_succ]
                    refine take_d 2 (some 79) (.pointer (some ⟨gt, c, none⟩)) rfl (by kernel_rfl) (by kernel_rfl) (by kernel_rfl) (fun _ _ _ h => h) (fun oi h => by cases h; exact Or.inl ⟨by rfl, fun w' hS' => by go_simp⟩) hHeld ?_
                    try simp only [Act.put, List.setIfInBounds_toArray, List.set_cons_zero, List.set_cons_succ]
                    refine take_d 3 (some 80) (.int .u8 (a.toNat : Int)) rfl (by kernel_rfl) (by kernel_rfl) (by kernel_rfl) (fun _ _ _ h => h) (fun oi h => by cases h; exact Or.inl ⟨by rfl, fun w' hS' => by have c := hS'.1; go_simp⟩) hHeld ?_
                    try simp only [Act.put, List.setIfInBounds_toArray, List.set_cons_zero, List.set_cons_succ]
                    refine take_d 4 (some 81) (.int .i64 (c : Int)) rfl (by kernel_rfl) (by kernel_rfl) (by kernel_rfl) (fun _ _ _ h => h) (fun oi h => by cases h; exact Or.inl ⟨by rfl, fun w' hS' => by go_simp⟩) hHeld ?_
                    try simp only [Act.put, List.setIfInBounds_toArray, List.set_cons_zero, List.set_cons_succ]
                    refine take_d 5 (some 82) (.pointer (some ⟨gt, 4, none⟩)) rfl (by kernel_rfl) (by kernel_rfl) (by kernel_rfl) (fun _ _ _ h => h) (fun oi h => by cases h; exact Or.inl ⟨by rfl, fun w' hS' => by go_simp⟩) hHeld ?_
                    try simp only [Act.put, List.setIfInBounds_toArray, List.set_cons_zero, List.set_cons_succ]
                    refine take_d 6 (some 83) (.pointer (some ⟨gt, 4 + c, none⟩)) rfl (by kernel_rfl) (by kernel_rfl) (by kernel_rfl) (fun _ _ _ h => h) (fun oi h => by cases h; exact Or.inl ⟨by rfl, fun w' hS' => by go_simp⟩) hHeld ?_
                    try simp only [Act.put, List.setIfInBounds_toArray, List.set_cons_zero, List.set_cons_succ]
                    refine take_d 7 (some 84) (.int .u8 (b'.toNat : Int)) rfl (by kernel_rfl) (by kernel_rfl) (by kernel_rfl) (fun _ _ _ h => h) (fun oi h => by cases h; exact Or.inl ⟨by rfl, fun w' hS' => by have c := hS'.2.1; go_simp⟩) hHeld ?_
                    try simp only [Act.put, List.setIfInBounds_toArray, List.set_cons_zero, List.set_cons_succ]
                    refine take_d 8 (some 85) (.int .i64 (c : Int)) rfl (by kernel_rfl) (by kernel_rfl) (by kernel_rfl) (fun _ _ _ h => h) (fun oi h => by cases h; exact Or.inl ⟨by rfl, fun w' hS' => by go_simp⟩) hHeld ?_
                    try simp only [Act.put, List.setIfInBounds_toArray, List.set_cons_zero, List.set_cons_succ]
                    refine take_d 9 (some 86) (.pointer (some ⟨gt, 8, none⟩)) rfl (by kernel_rfl) (by kernel_rfl) (by kernel_rfl) (fun _ _ _ h => h) (fun oi h => by cases h; exact Or.inl ⟨by rfl, fun w' hS' => by go_simp⟩) hHeld ?_
                    try simp only [Act.put, List.setIfInBounds_toArray, List.set_cons_zero, List.set_cons_succ]
                    refine take_d 10 (some 87) (.pointer (some ⟨gt, 8 + c, none⟩)) rfl (by kernel_rfl) (by kernel_rfl) (by kernel_rfl) (fun _ _ _ h => h) (fun oi h => by cases h; exact Or.inl ⟨by rfl, fun w' hS' => by go_simp⟩) hHeld ?_
                    try simp only [Act.put, List.setIfInBounds_toArray, List.set_cons_zero, List.set_cons_succ]
                    refine take_d 11 (some 88) (.int .u8 (d.toNat : Int)) rfl (by kernel_rfl) (by kernel_rfl) (by kernel_rfl) (fun _ _ _ h => h) (fun oi h => by cases h; exact Or.inl ⟨by rfl, fun w' hS' => by have c := hS'.2.2.1; go_simp⟩) hHeld ?_
                    try simp only [Act.put, List.setIfInBounds_toArray, List.set_cons_zero, List.set_cons_succ]
                    refine take_d 12 (some 89) (.int .i64 (c : Int)) rfl (by kernel_rfl) (by kernel_rfl) (by kernel_rfl) (fun _ _ _ h => h) (fun oi h => by cases h; exact Or.inl ⟨by rfl, fun w' hS' => by go_simp⟩) hHeld ?_
                    try simp only [Act.put, List.setIfInBounds_toArray, List.set_cons_zero, List.set_cons_succ]
                    refine take_d 13 (some 90) (.pointer (some ⟨gt, 12, none⟩)) rfl (by kernel_rfl) (by kernel_rfl) (by kernel_rfl) (fun _ _ _ h => h) (fun oi h => by cases h; exact Or.inl ⟨by rfl, fun w' hS' => by go_simp⟩) hHeld ?_
                    try simp only [Act.put, List.setIfInBounds_toArray, List.set_cons_zero, List.set_cons_succ]
                    refine take_d 14 (some 91) (.pointer (some ⟨gt, 12 + c, none⟩)) rfl (by kernel_rfl) (by kernel_rfl) (by kernel_rfl) (fun _ _ _ h => h) (fun oi h => by cases h; exact Or.inl ⟨by rfl, fun w' hS' => by go_simp⟩) hHeld ?_
                    try simp only [Act.put, List.setIfInBounds_toArray, List.set_cons_zero, List.set_cons_succ]
                    refine take_d 15 (some 92) (.int .u8 (e'.toNat : Int)) rfl (by kernel_rfl) (by kernel_rfl) (by kernel_rfl) (fun _ _ _ h => h) (fun oi h => by cases h; exact Or.inl ⟨by rfl, fun w' hS' => by have c := hS'.2.2.2; go_simp⟩) hHeld ?_
                    try simp only [Act.put, List.setIfInBounds_toArray, List.set_cons_zero, List.set_cons_succ]
                    refine take_d 16 (some 14) (.int .u8 (a.toNat : Int)) rfl (by kernel_rfl) (by kernel_rfl) (by kernel_rfl) (fun _ _ _ h => h) (fun oi h => by cases h; exact Or.inl ⟨by rfl, fun w' hS' => by go_simp⟩) hHeld ?_
                    try simp only [Act.put, List.setIfInBounds_toArray, List.set_cons_zero, List.set_cons_succ]
                    refine take_d 17 (some 15) (.int .u8 (b'.toNat : Int)) rfl (by kernel_rfl) (by kernel_rfl) (by kernel_rfl) (fun _ _ _ h => h) (fun oi h => by cases h; exact Or.inl ⟨by rfl, fun w' hS' => by go_simp⟩) hHeld ?_
                    try simp only [Act.put, List.setIfInBounds_toArray, List.set_cons_zero, List.set_cons_succ]
                    refine take_d 18 (some 16) (.int .u8 (d.toNat : Int)) rfl (by kernel_rfl) (by kernel_rfl) (by kernel_rfl) (fun _ _ _ h => h) (fun oi h => by cases h; exact Or.inl ⟨by rfl, fun w' hS' => by go_simp⟩) hHeld ?_
                    try simp only [Act.put, List.setIfInBounds_toArray, List.set_cons_zero, List.set_cons_succ]
                    refine take_d 19 (some 17) (.int .u8 (e'.toNat : Int)) rfl (by kernel_rfl) (by kernel_rfl) (by kernel_rfl) (fun _ _ _ h => h) (fun oi h => by cases h; exact Or.inl ⟨by rfl, fun w' hS' => by go_simp⟩) hHeld ?_
                    try simp only [Act.put, List.setIfInBounds_toArray, List.set_cons_zero, List.set_cons_succ]
                    clear hHeld
                    refine wpAnyH_done (by kernel_rfl) ?_ _
                    try simp only [Act.put]
                    have rS1 := rS.drew
                    have rT1 := rT.drew
                    have kK1 := kK.drew
                    clear rS rT kK c0 c1 c2 c3
                    generalize wr.drew = v0 at *
                    have ct := (rT1.cell (c)).trans (c8_at (by first | omega | (simp only [List.length_set]; omega)))
                    have ft := rT1.frozen (c)
                    go_wp2_with fail
                    refine (T2a.out _).mono ?_
                    rintro e wy ⟨rfl, hwy⟩
                    rw [hwy]
                    clear hwy wy
                    go_wp2_with fail
                    refine (T3b.out _).mono ?_
                    rintro e wy ⟨rfl, hwy⟩
                    rw [hwy]
                    clear hwy wy
                    have rT2 := rT1.set (c) (.int .u8 (m0.toNat : Int))
                    rw [c8_set] at rT2
                    have rS2 := rS1.other (k := gt) (i := c) (by omega) (.int .u8 (m0.toNat : Int))
                    have kK2 := kK1.set (k := gt) (i := c) (by omega) (.int .u8 (m0.toNat : Int))
                    go_wp2_with fail
                    clear ct ft rT1 rS1 kK1 x01 x02 x03
                    generalize v0.setCell ⟨gt, c, none⟩ (.int .u8 (m0.toNat : Int)) = v1 at *
                    have rT1 := rT2
                    have rS1 := rS2
                    have kK1 := kK2
                    clear rT2 rS2 kK2
                    have ct := (rT1.cell (4 + c)).trans (c8_at (by first | omega | (simp only [List.length_set]; omega)))
                    have ft := rT1.frozen (4 + c)
                    refine (T2b.out _).mono ?_
                    rintro e wy ⟨rfl, hwy⟩
                    rw [hwy]
                    clear hwy wy
                    go_wp2_with fail
                    refine (T3d.out _).mono ?_
                    rintro e wy ⟨rfl, hwy⟩
                    rw [hwy]
                    clear hwy wy
                    have rT2 := rT1.set (4 + c) (.int .u8 (m1.toNat : Int))
                    rw [c8_set] at rT2
                    have rS2 := rS1.other (k := gt) (i := 4 + c) (by omega) (.int .u8 (m1.toNat : Int))
                    have kK2 := kK1.set (k := gt) (i := 4 + c) (by omega) (.int .u8 (m1.toNat : Int))
                    go_wp2_with fail
                    clear ct ft rT1 rS1 kK1 x11 x12 x13
                    generalize v1.setCell ⟨gt, 4 + c, none⟩ (.int .u8 (m1.toNat : Int)) = v2 at *
                    have rT1 := rT2
                    have rS1 := rS2
                    have kK1 := kK2
                    clear rT2 rS2 kK2
                    have ct := (rT1.cell (8 + c)).trans (c8_at (by first | omega | (simp only [List.length_set]; omega)))
                    have ft := rT1.frozen (8 + c)
                    refine (T2d.out _).mono ?_
                    rintro e wy ⟨rfl, hwy⟩
                    rw [hwy]
                    clear hwy wy
                    go_wp2_with fail
                    refine (T3e.out _).mono ?_
                    rintro e wy ⟨rfl, hwy⟩
                    rw [hwy]
                    clear hwy wy
                    have rT2 := rT1.set (8 + c) (.int .u8 (m2.toNat : Int))
                    rw [c8_set] at rT2
                    have rS2 := rS1.other (k := gt) (i := 8 + c) (by omega) (.int .u8 (m2.toNat : Int))
                    have kK2 := kK1.set (k := gt) (i := 8 + c) (by omega) (.int .u8 (m2.toNat : Int))
                    go_wp2_with fail
                    clear ct ft rT1 rS1 kK1 x21 x22 x23
                    generalize v2.setCell ⟨gt, 8 + c, none⟩ (.int .u8 (m2.toNat : Int)) = v3 at *
                    have rT1 := rT2
                    have rS1 := rS2
                    have kK1 := kK2
                    clear rT2 rS2 kK2
                    have ct := (rT1.cell (12 + c)).trans (c8_at (by first | omega | (simp only [List.length_set]; omega)))
                    have ft := rT1.frozen (12 + c)
                    refine (T3a.out _).mono ?_
                    rintro e wy ⟨rfl, hwy⟩
                    rw [hwy]
                    clear hwy wy
                    go_wp2_with fail
                    refine (T2e.out _).mono ?_
                    rintro e wy ⟨rfl, hwy⟩
                    rw [hwy]
                    clear hwy wy
                    have rT2 := rT1.set (12 + c) (.int .u8 (m3.toNat : Int))
                    rw [c8_set] at rT2
                    have rS2 := rS1.other (k := gt) (i := 12 + c) (by omega) (.int .u8 (m3.toNat : Int))
                    have kK2 := kK1.set (k := gt) (i := 12 + c) (by omega) (.int .u8 (m3.toNat : Int))
                    rw [HSTEP.out] at rT2
                    go_wp2
                    go_roundw
                    case rel => exact ⟨c + 1, by omega, by go_num, rS2, rT2, kK2⟩
                    case measure => simp [intOf]; omega
                  · have hc4' : c = 4 := by omega
                    rw [hc4', E.mixC_full] at rT
                    have hsc : ¬ (c : Int) < 4 := by omega
                    clear hc hc4 hc4'
                    go_wp2
                    go_loopw [18, 19] (fun rv _ wq => ∃ r : Nat, r ≤ 4 ∧ rv = .int .i64 r ∧ Row wq (w.heap.size + 1 + 1) 115 (W.cellsOf (E.fill (E.tr (E.over (E.mix (E.shift (R n))) (RK (n + 1)))) (E.tr (R n)) (4 * r))) ∧ Row wq gt 115 (W.cellsOf (E.tr (E.mix (E.shift (R n))))) ∧ Keeps w wq) (fun rv _ _ => 4 - (intOf rv).toNat)
                    case atStart => exact ⟨0, Nat.zero_le _, rfl, by rw [E.fill_zero]; exact rS, rT, kK⟩
                    case round =>
                      clear rS rT kK
                      obtain ⟨r, hr, rfl, rS, rT, kK⟩ := hrel
                      by_cases hr4 : r < 4
                      · have hsr : (r : Int) < 4 := by omega
                        have hsr0 : (0 : Int) ≤ (r : Int) := by omega
                        go_wp2
                        go_loopw [19] (fun cv wq => ∃ c : Nat, c ≤ 4 ∧ cv = .int .i64 c ∧ Row wq (w.heap.size + 1 + 1) 115 (W.cellsOf (E.fill (E.tr (E.over (E.mix (E.shift (R n))) (RK (n + 1)))) (E.tr (R n)) (r * 4 + c))) ∧ Row wq gt 115 (W.cellsOf (E.tr (E.mix (E.shift (R n))))) ∧ Keeps w wq) (fun cv _ => 4 - (intOf cv).toNat)
                        case atStart => exact ⟨0, Nat.zero_le _, rfl, by rw [Nat.mul_comm r 4]; exact rS, rT, kK⟩
                        case round =>
                          clear rS rT kK
                          obtain ⟨c, hc, rfl, rS, rT, kK⟩ := hrel
                          by_cases hc4 : c < 4
                          · have hsc : (c : Int) < 4 := by omega
                            have hsc0 : (0 : Int) ≤ (c : Int) := by omega
                            have ct := (rT.cell (r * 4 + c)).trans (c8_at (by rw [E.tr_length]; omega))
                            have cw := HKW.out _ kK ((4 * (n + 1) + c) * 4 + r) (by omega)
                            have hx := xor8 ((E.tr (E.mix (E.shift (R n)))).getD (r * 4 + c) 0) (K.getD ((4 * (n + 1) + c) * 4 + r) 0)
                            rw [HOV.out (E.mix (E.shift (R n))) (n + 1) r c (by omega) hr4 hc4] at hx
                            have hF : (E.tr (E.over (E.mix (E.shift (R n))) (RK (n + 1)))).length = (E.tr (R n)).length := by rw [E.tr_length, E.tr_length]
                            have cs := (rS.cell (r * 4 + c)).trans (c8_at (by rw [E.fill_length hF, E.tr_length]; omega))
                            have fs := rS.frozen (r * 4 + c)
                            have rS' := rS.set (r * 4 + c) (.int .u8 (((E.tr (E.over (E.mix (E.shift (R n))) (RK (n + 1)))).getD (r * 4 + c) 0).toNat : Int))
                            rw [c8_set, E.fill_step hF (by rw [E.tr_length]; omega)] at rS'
                            have hw1 : IntKind.i64.wrap (4 * ((n : Int) + 1)) = 4 * ((n : Int) + 1) := by rw [IntKind.wrap_i64]; omega
                            have hw2 : IntKind.i64.wrap (4 * ((n : Int) + 1) + (c : Int)) = ((4 * (n + 1) + c : Nat) : Int) := by rw [IntKind.wrap_i64]; omega
                            have hq44 : ((4 * (n + 1) + c : Nat) : Int) < 44 := by omega
                            generalize (E.tr (E.over (E.mix (E.shift (R n))) (RK (n + 1)))).getD (r * 4 + c) 0 = z at *
                            generalize (E.tr (E.mix (E.shift (R n)))).getD (r * 4 + c) 0 = x at *
                            generalize K.getD ((4 * (n + 1) + c) * 4 + r) 0 = kk at *
                            generalize 4 * (n + 1) + c = q at *
                            have kc := set_other (k := w.heap.size + 1 + 1) (i := r * 4 + c) (v := .int .u8 (z.toNat : Int)) ct (by omega)
                            have kw := set_other (k := w.heap.size + 1 + 1) (i := r * 4 + c) (v := .int .u8 (z.toNat : Int)) cw (by omega)
                            clear hF
                            go_wp2_with fail
                            refine wp_region_held_drew (S := fun w' => w'.cell? ⟨gt, r * 4 + c, none⟩ = some (.int .u8 (x.toNat : Int)) ∧ w'.cell? ⟨gw, q * 4 + r, none⟩ = some (.int .u8 (kk.toNat : Int))) (by kernel_rfl) ⟨ct, cw⟩ (fun hHeld => ?_)
                            refine take_d 0 (some 149) (.int .i64 (r : Int)) rfl (by kernel_rfl) (by kernel_rfl) (by kernel_rfl) (fun _ _ _ h => h) (fun oi h => by cases h; exact Or.inl ⟨by rfl, fun w' hS' => by go_simp⟩) hHeld ?_
                            try simp only [Act.put, List.setIfInBounds_toArray, List.set_cons_zero, List.set_cons_succ]
                            refine take_d 1 (some 150) (.int .i64 (c : Int)) rfl (by kernel_rfl) (by kernel_rfl) (by kernel_rfl) (fun _ _ _ h => h) (fun oi h => by cases h; exact Or.inl ⟨by rfl, fun w' hS' => by go_simp⟩) hHeld ?_
                            try simp only [Act.put, List.setIfInBounds_toArray, List.set_cons_zero, List.set_cons_succ]
                            refine take_d 2 (some 151) (.int .i64 (r : Int)) rfl (by kernel_rfl) (by kernel_rfl) (by kernel_rfl) (fun _ _ _ h => h) (fun oi h => by cases h; exact Or.inl ⟨by rfl, fun w' hS' => by go_simp⟩) hHeld ?_
                            try simp only [Act.put, List.setIfInBounds_toArray, List.set_cons_zero, List.set_cons_succ]
                            refine take_d 3 (some 152) (.int .i64 (c : Int)) rfl (by kernel_rfl) (by kernel_rfl) (by kernel_rfl) (fun _ _ _ h => h) (fun oi h => by cases h; exact Or.inl ⟨by rfl, fun w' hS' => by go_simp⟩) hHeld ?_
                            try simp only [Act.put, List.setIfInBounds_toArray, List.set_cons_zero, List.set_cons_succ]
                            refine take_d 4 (some 153) (.pointer (some ⟨gt, r * 4, none⟩)) rfl (by kernel_rfl) (by kernel_rfl) (by kernel_rfl) (fun _ _ _ h => h) (fun oi h => by cases h; exact Or.inl ⟨by rfl, fun w' hS' => by go_simp⟩) hHeld ?_
                            try simp only [Act.put, List.setIfInBounds_toArray, List.set_cons_zero, List.set_cons_succ]
                            refine take_d 5 (some 154) (.pointer (some ⟨gt, r * 4 + c, none⟩)) rfl (by kernel_rfl) (by kernel_rfl) (by kernel_rfl) (fun _ _ _ h => h) (fun oi h => by cases h; exact Or.inl ⟨by rfl, fun w' hS' => by go_simp⟩) hHeld ?_
                            try simp only [Act.put, List.setIfInBounds_toArray, List.set_cons_zero, List.set_cons_succ]
                            refine take_d 6 (some 155) (.int .u8 (x.toNat : Int)) rfl (by kernel_rfl) (by kernel_rfl) (by kernel_rfl) (fun _ _ _ h => h) (fun oi h => by cases h; exact Or.inl ⟨by rfl, fun w' hS' => by have c := hS'.1; go_simp⟩) hHeld ?_
                            try simp only [Act.put, List.setIfInBounds_toArray, List.set_cons_zero, List.set_cons_succ]
                            refine take_d 7 (some 156) (.slice (some ⟨gw, 0, none⟩) 44 capw) rfl (by kernel_rfl) (by kernel_rfl) (by kernel_rfl) (fun _ _ _ h => h) (fun oi h => by cases h; exact Or.inl ⟨by rfl, fun w' hS' => by go_simp⟩) hHeld ?_
                            try simp only [Act.put, List.setIfInBounds_toArray, List.set_cons_zero, List.set_cons_succ]
                            refine take_d 8 (some 157) (.int .i64 ((n : Int) + 1)) rfl (by kernel_rfl) (by kernel_rfl) (by kernel_rfl) (fun _ _ _ h => h) (fun oi h => by cases h; exact Or.inl ⟨by rfl, fun w' hS' => by go_simp⟩) hHeld ?_
                            try simp only [Act.put, List.setIfInBounds_toArray, List.set_cons_zero, List.set_cons_succ]
                            refine take_d 9 (some 158) (.int .i64 (4 * ((n : Int) + 1))) rfl (by kernel_rfl) (by kernel_rfl) (by kernel_rfl) (fun _ _ _ h => h) (fun oi h => by cases h; exact Or.inl ⟨by rfl, fun w' hS' => by go_simp⟩) hHeld ?_
                            try simp only [Act.put, List.setIfInBounds_toArray, List.set_cons_zero, List.set_cons_succ]
                            refine take_d 10 (some 159) (.int .i64 (c : Int)) rfl (by kernel_rfl) (by kernel_rfl) (by kernel_rfl) (fun _ _ _ h => h) (fun oi h => by cases h; exact Or.inl ⟨by rfl, fun w' hS' => by go_simp⟩) hHeld ?_
                            try simp only [Act.put, List.setIfInBounds_toArray, List.set_cons_zero, List.set_cons_succ]
                            refine take_d 11 (some 160) (.int .i64 (q : Int)) rfl (by kernel_rfl) (by kernel_rfl) (by kernel_rfl) (fun _ _ _ h => h) (fun oi h => by cases h; exact Or.inl ⟨by rfl, fun w' hS' => by go_simp⟩) hHeld ?_
                            try simp only [Act.put, List.setIfInBounds_toArray, List.set_cons_zero, List.set_cons_succ]
                            refine take_d 12 (some 161) (.int .i64 (r : Int)) rfl (by kernel_rfl) (by kernel_rfl) (by kernel_rfl) (fun _ _ _ h => h) (fun oi h => by cases h; exact Or.inl ⟨by rfl, fun w' hS' => by go_simp⟩) hHeld ?_
                            try simp only [Act.put, List.setIfInBounds_toArray, List.set_cons_zero, List.set_cons_succ]
                            refine take_d 13 (some 162) (.pointer (some ⟨gw, q * 4, none⟩)) rfl (by kernel_rfl) (by kernel_rfl) (by kernel_rfl) (fun _ _ _ h => h) (fun oi h => by cases h; exact Or.inl ⟨by rfl, fun w' hS' => by go_simp⟩) hHeld ?_
                            try simp only [Act.put, List.setIfInBounds_toArray, List.set_cons_zero, List.set_cons_succ]
                            refine take_d 14 (some 163) (.pointer (some ⟨gw, q * 4 + r, none⟩)) rfl (by kernel_rfl) (by kernel_rfl) (by kernel_rfl) (fun _ _ _ h => h) (fun oi h => by cases h; exact Or.inl ⟨by rfl, fun w' hS' => by go_simp⟩) hHeld ?_
                            try simp only [Act.put, List.setIfInBounds_toArray, List.set_cons_zero, List.set_cons_succ]
                            refine take_d 15 (some 164) (.int .u8 (kk.toNat : Int)) rfl (by kernel_rfl) (by kernel_rfl) (by kernel_rfl) (fun _ _ _ h => h) (fun oi h => by cases h; exact Or.inl ⟨by rfl, fun w' hS' => by have c := hS'.2; go_simp⟩) hHeld ?_
                            try simp only [Act.put, List.setIfInBounds_toArray, List.set_cons_zero, List.set_cons_succ]
                            refine take_d 16 (some 165) (.int .u8 (z.toNat : Int)) rfl (by kernel_rfl) (by kernel_rfl) (by kernel_rfl) (fun _ _ _ h => h) (fun oi h => by cases h; exact Or.inl ⟨by rfl, fun w' hS' => by go_simp⟩) hHeld ?_
                            try simp only [Act.put, List.setIfInBounds_toArray, List.set_cons_zero, List.set_cons_succ]
                            refine take_d 17 (some 166) (.pointer (some ⟨w.heap.size + 1 + 1, r * 4, none⟩)) rfl (by kernel_rfl) (by kernel_rfl) (by kernel_rfl) (fun _ _ _ h => h) (fun oi h => by cases h; exact Or.inl ⟨by rfl, fun w' hS' => by go_simp⟩) hHeld ?_
                            try simp only [Act.put, List.setIfInBounds_toArray, List.set_cons_zero, List.set_cons_succ]
                            refine take_d 18 (some 167) (.pointer (some ⟨w.heap.size + 1 + 1, r * 4 + c, none⟩)) rfl (by kernel_rfl) (by kernel_rfl) (by kernel_rfl) (fun _ _ _ h => h) (fun oi h => by cases h; exact Or.inl ⟨by rfl, fun w' hS' => by go_simp⟩) hHeld ?_
                            try simp only [Act.put, List.setIfInBounds_toArray, List.set_cons_zero, List.set_cons_succ]
                            refine one_d 19 none rfl (by kernel_rfl) ?_
                            intro o ho' hd K' hK
                            cases ho'
                            go_simp
                            refine hK.out _ _ ⟨kc, kw⟩ (fun hHeld => ?_)
                            clear hK K' hHeld hd
                            refine wpAnyH_done (by kernel_rfl) ?_ _
                            try simp only [Act.put]
                            go_wp2
                            go_roundw
                            case rel => exact ⟨c + 1, by omega, by go_num, rS'.drew, (rT.other (by omega) _).drew, (kK.set (by omega) _).drew⟩
                            case measure => simp [intOf]; omega
                          · have hc4' : c = 4 := by omega
                            rw [hc4', show r * 4 + 4 = 4 * (r + 1) from by omega] at rS
                            have hsc : ¬ (c : Int) < 4 := by omega
                            go_wp2
                            go_roundw
                            case rel => exact ⟨r + 1, by omega, by go_num, rS, rT, kK⟩
                            case measure => simp [intOf]; omega
                      · have hr4' : r = 4 := by omega
                        rw [hr4', E.fill_full (n := 16) (E.tr_length _) (E.tr_length _), HRS.out n h9] at rS
                        have hsr : ¬ (r : Int) < 4 := by omega
                        go_wp2
                        go_roundw
                        case rel => exact ⟨n + 1, by omega, by go_num, rS, kK⟩
                        case measure => simp [intOf]; omega
              · have hn9 : n = 9 := by omega
                have HFN : Hid (E.over (E.shift (R n)) (RK (n + 1)) = R (n + 1)) := by rw [hn9]; exact HRL10.out
                have hs9 : ¬ (n : Int) + 1 < 10 := by omega
                clear hn9
                go_wp2
                go_loopw [18, 19] (fun rv _ wq => ∃ r : Nat, r ≤ 4 ∧ rv = .int .i64 r ∧ Row wq (w.heap.size + 1 + 1) 115 (W.cellsOf (E.fill (E.tr (E.over (E.shift (R n)) (RK (n + 1)))) (E.tr (R n)) (4 * r))) ∧ Row wq gt 115 (W.cellsOf (E.tr (E.shift (R n)))) ∧ Keeps w wq) (fun rv _ _ => 4 - (intOf rv).toNat)
                case atStart => exact ⟨0, Nat.zero_le _, rfl, by rw [E.fill_zero]; exact rS, rT, kK⟩
                case round =>
                  clear rS rT kK
                  obtain ⟨r, hr, rfl, rS, rT, kK⟩ := hrel
                  by_cases hr4 : r < 4
                  · have hsr : (r : Int) < 4 := by omega
                    have hsr0 : (0 : Int) ≤ (r : Int) := by omega
                    go_wp2
                    go_loopw [19] (fun cv wq => ∃ c : Nat, c ≤ 4 ∧ cv = .int .i64 c ∧ Row wq (w.heap.size + 1 + 1) 115 (W.cellsOf (E.fill (E.tr (E.over (E.shift (R n)) (RK (n + 1)))) (E.tr (R n)) (r * 4 + c))) ∧ Row wq gt 115 (W.cellsOf (E.tr (E.shift (R n)))) ∧ Keeps w wq) (fun cv _ => 4 - (intOf cv).toNat)
                    case atStart => exact ⟨0, Nat.zero_le _, rfl, by rw [Nat.mul_comm r 4]; exact rS, rT, kK⟩
                    case round =>
                      clear rS rT kK
                      obtain ⟨c, hc, rfl, rS, rT, kK⟩ := hrel
                      by_cases hc4 : c < 4
                      · have hsc : (c : Int) < 4 := by omega
                        have hsc0 : (0 : Int) ≤ (c : Int) := by omega
                        have ct := (rT.cell (r * 4 + c)).trans (c8_at (by rw [E.tr_length]; omega))
                        have cw := HKW.out _ kK ((4 * (n + 1) + c) * 4 + r) (by omega)
                        have hx := xor8 ((E.tr (E.shift (R n))).getD (r * 4 + c) 0) (K.getD ((4 * (n + 1) + c) * 4 + r) 0)
                        rw [HOV.out (E.shift (R n)) (n + 1) r c (by omega) hr4 hc4] at hx
                        have hF : (E.tr (E.over (E.shift (R n)) (RK (n + 1)))).length = (E.tr (R n)).length := by rw [E.tr_length, E.tr_length]
                        have cs := (rS.cell (r * 4 + c)).trans (c8_at (by rw [E.fill_length hF, E.tr_length]; omega))
                        have fs := rS.frozen (r * 4 + c)
                        have rS' := rS.set (r * 4 + c) (.int .u8 (((E.tr (E.over (E.shift (R n)) (RK (n + 1)))).getD (r * 4 + c) 0).toNat : Int))
                        rw [c8_set, E.fill_step hF (by rw [E.tr_length]; omega)] at rS'
                        have hw1 : IntKind.i64.wrap (4 * ((n : Int) + 1)) = 4 * ((n : Int) + 1) := by rw [IntKind.wrap_i64]; omega
                        have hw2 : IntKind.i64.wrap (4 * ((n : Int) + 1) + (c : Int)) = ((4 * (n + 1) + c : Nat) : Int) := by rw [IntKind.wrap_i64]; omega
                        have hq44 : ((4 * (n + 1) + c : Nat) : Int) < 44 := by omega
                        generalize (E.tr (E.over (E.shift (R n)) (RK (n + 1)))).getD (r * 4 + c) 0 = z at *
                        generalize (E.tr (E.shift (R n))).getD (r * 4 + c) 0 = x at *
                        generalize K.getD ((4 * (n + 1) + c) * 4 + r) 0 = kk at *
                        generalize 4 * (n + 1) + c = q at *
                        have kc := set_other (k := w.heap.size + 1 + 1) (i := r * 4 + c) (v := .int .u8 (z.toNat : Int)) ct (by omega)
                        have kw := set_other (k := w.heap.size + 1 + 1) (i := r * 4 + c) (v := .int .u8 (z.toNat : Int)) cw (by omega)
                        clear hF
                        go_wp2_with fail
                        refine wp_region_held_drew (S := fun w' => w'.cell? ⟨gt, r * 4 + c, none⟩ = some (.int .u8 (x.toNat : Int)) ∧ w'.cell? ⟨gw, q * 4 + r, none⟩ = some (.int .u8 (kk.toNat : Int))) (by kernel_rfl) ⟨ct, cw⟩ (fun hHeld => ?_)
                        refine take_d 0 (some 149) (.int .i64 (r : Int)) rfl (by kernel_rfl) (by kernel_rfl) (by kernel_rfl) (fun _ _ _ h => h) (fun oi h => by cases h; exact Or.inl ⟨by rfl, fun w' hS' => by go_simp⟩) hHeld ?_
                        try simp only [Act.put, List.setIfInBounds_toArray, List.set_cons_zero, List.set_cons_succ]
                        refine take_d 1 (some 150) (.int .i64 (c : Int)) rfl (by kernel_rfl) (by kernel_rfl) (by kernel_rfl) (fun _ _ _ h => h) (fun oi h => by cases h; exact Or.inl ⟨by rfl, fun w' hS' => by go_simp⟩) hHeld ?_
                        try simp only [Act.put, List.setIfInBounds_toArray, List.set_cons_zero, List.set_cons_succ]
                        refine take_d 2 (some 151) (.int .i64 (r : Int)) rfl (by kernel_rfl) (by kernel_rfl) (by kernel_rfl) (fun _ _ _ h => h) (fun oi h => by cases h; exact Or.inl ⟨by rfl, fun w' hS' => by go_simp⟩) hHeld ?_
                        try simp only [Act.put, List.setIfInBounds_toArray, List.set_cons_zero, List.set_cons_succ]
                        refine take_d 3 (some 152) (.int .i64 (c : Int)) rfl (by kernel_rfl) (by kernel_rfl) (by kernel_rfl) (fun _ _ _ h => h) (fun oi h => by cases h; exact Or.inl ⟨by rfl, fun w' hS' => by go_simp⟩) hHeld ?_
                        try simp only [Act.put, List.setIfInBounds_toArray, List.set_cons_zero, List.set_cons_succ]
                        refine take_d 4 (some 153) (.pointer (some ⟨gt, r * 4, none⟩)) rfl (by kernel_rfl) (by kernel_rfl) (by kernel_rfl) (fun _ _ _ h => h) (fun oi h => by cases h; exact Or.inl ⟨by rfl, fun w' hS' => by go_simp⟩) hHeld ?_
                        try simp only [Act.put, List.setIfInBounds_toArray, List.set_cons_zero, List.set_cons_succ]
                        refine take_d 5 (some 154) (.pointer (some ⟨gt, r * 4 + c, none⟩)) rfl (by kernel_rfl) (by kernel_rfl) (by kernel_rfl) (fun _ _ _ h => h) (fun oi h => by cases h; exact Or.inl ⟨by rfl, fun w' hS' => by go_simp⟩) hHeld ?_
                        try simp only [Act.put, List.setIfInBounds_toArray, List.set_cons_zero, List.set_cons_succ]
                        refine take_d 6 (some 155) (.int .u8 (x.toNat : Int)) rfl (by kernel_rfl) (by kernel_rfl) (by kernel_rfl) (fun _ _ _ h => h) (fun oi h => by cases h; exact Or.inl ⟨by rfl, fun w' hS' => by have c := hS'.1; go_simp⟩) hHeld ?_
                        try simp only [Act.put, List.setIfInBounds_toArray, List.set_cons_zero, List.set_cons_succ]
                        refine take_d 7 (some 156) (.slice (some ⟨gw, 0, none⟩) 44 capw) rfl (by kernel_rfl) (by kernel_rfl) (by kernel_rfl) (fun _ _ _ h => h) (fun oi h => by cases h; exact Or.inl ⟨by rfl, fun w' hS' => by go_simp⟩) hHeld ?_
                        try simp only [Act.put, List.setIfInBounds_toArray, List.set_cons_zero, List.set_cons_succ]
                        refine take_d 8 (some 157) (.int .i64 ((n : Int) + 1)) rfl (by kernel_rfl) (by kernel_rfl) (by kernel_rfl) (fun _ _ _ h => h) (fun oi h => by cases h; exact Or.inl ⟨by rfl, fun w' hS' => by go_simp⟩) hHeld ?_
                        try simp only [Act.put, List.setIfInBounds_toArray, List.set_cons_zero, List.set_cons_succ]
                        refine take_d 9 (some 158) (.int .i64 (4 * ((n : Int) + 1))) rfl (by kernel_rfl) (by kernel_rfl) (by kernel_rfl) (fun _ _ _ h => h) (fun oi h => by cases h; exact Or.inl ⟨by rfl, fun w' hS' => by go_simp⟩) hHeld ?_
                        try simp only [Act.put, List.setIfInBounds_toArray, List.set_cons_zero, List.set_cons_succ]
                        refine take_d 10 (some 159) (.int .i64 (c : Int)) rfl (by kernel_rfl) (by kernel_rfl) (by kernel_rfl) (fun _ _ _ h => h) (fun oi h => by cases h; exact Or.inl ⟨by rfl, fun w' hS' => by go_simp⟩) hHeld ?_
                        try simp only [Act.put, List.setIfInBounds_toArray, List.set_cons_zero, List.set_cons_succ]
                        refine take_d 11 (some 160) (.int .i64 (q : Int)) rfl (by kernel_rfl) (by kernel_rfl) (by kernel_rfl) (fun _ _ _ h => h) (fun oi h => by cases h; exact Or.inl ⟨by rfl, fun w' hS' => by go_simp⟩) hHeld ?_
                        try simp only [Act.put, List.setIfInBounds_toArray, List.set_cons_zero, List.set_cons_succ]
                        refine take_d 12 (some 161) (.int .i64 (r : Int)) rfl (by kernel_rfl) (by kernel_rfl) (by kernel_rfl) (fun _ _ _ h => h) (fun oi h => by cases h; exact Or.inl ⟨by rfl, fun w' hS' => by go_simp⟩) hHeld ?_
                        try simp only [Act.put, List.setIfInBounds_toArray, List.set_cons_zero, List.set_cons_succ]
                        refine take_d 13 (some 162) (.pointer (some ⟨gw, q * 4, none⟩)) rfl (by kernel_rfl) (by kernel_rfl) (by kernel_rfl) (fun _ _ _ h => h) (fun oi h => by cases h; exact Or.inl ⟨by rfl, fun w' hS' => by go_simp⟩) hHeld ?_
                        try simp only [Act.put, List.setIfInBounds_toArray, List.set_cons_zero, List.set_cons_succ]
                        refine take_d 14 (some 163) (.pointer (some ⟨gw, q * 4 + r, none⟩)) rfl (by kernel_rfl) (by kernel_rfl) (by kernel_rfl) (fun _ _ _ h => h) (fun oi h => by cases h; exact Or.inl ⟨by rfl, fun w' hS' => by go_simp⟩) hHeld ?_
                        try simp only [Act.put, List.setIfInBounds_toArray, List.set_cons_zero, List.set_cons_succ]
                        refine take_d 15 (some 164) (.int .u8 (kk.toNat : Int)) rfl (by kernel_rfl) (by kernel_rfl) (by kernel_rfl) (fun _ _ _ h => h) (fun oi h => by cases h; exact Or.inl ⟨by rfl, fun w' hS' => by have c := hS'.2; go_simp⟩) hHeld ?_
                        try simp only [Act.put, List.setIfInBounds_toArray, List.set_cons_zero, List.set_cons_succ]
                        refine take_d 16 (some 165) (.int .u8 (z.toNat : Int)) rfl (by kernel_rfl) (by kernel_rfl) (by kernel_rfl) (fun _ _ _ h => h) (fun oi h => by cases h; exact Or.inl ⟨by rfl, fun w' hS' => by go_simp⟩) hHeld ?_
                        try simp only [Act.put, List.setIfInBounds_toArray, List.set_cons_zero, List.set_cons_succ]
                        refine take_d 17 (some 166) (.pointer (some ⟨w.heap.size + 1 + 1, r * 4, none⟩)) rfl (by kernel_rfl) (by kernel_rfl) (by kernel_rfl) (fun _ _ _ h => h) (fun oi h => by cases h; exact Or.inl ⟨by rfl, fun w' hS' => by go_simp⟩) hHeld ?_
                        try simp only [Act.put, List.setIfInBounds_toArray, List.set_cons_zero, List.set_cons_succ]
                        refine take_d 18 (some 167) (.pointer (some ⟨w.heap.size + 1 + 1, r * 4 + c, none⟩)) rfl (by kernel_rfl) (by kernel_rfl) (by kernel_rfl) (fun _ _ _ h => h) (fun oi h => by cases h; exact Or.inl ⟨by rfl, fun w' hS' => by go_simp⟩) hHeld ?_
                        try simp only [Act.put, List.setIfInBounds_toArray, List.set_cons_zero, List.set_cons_succ]
                        refine one_d 19 none rfl (by kernel_rfl) ?_
                        intro o ho' hd K' hK
                        cases ho'
                        go_simp
                        refine hK.out _ _ ⟨kc, kw⟩ (fun hHeld => ?_)
                        clear hK K' hHeld hd
                        refine wpAnyH_done (by kernel_rfl) ?_ _
                        try simp only [Act.put]
                        go_wp2
                        go_roundw
                        case rel => exact ⟨c + 1, by omega, by go_num, rS'.drew, (rT.other (by omega) _).drew, (kK.set (by omega) _).drew⟩
                        case measure => simp [intOf]; omega
                      · have hc4' : c = 4 := by omega
                        rw [hc4', show r * 4 + 4 = 4 * (r + 1) from by omega] at rS
                        have hsc : ¬ (c : Int) < 4 := by omega
                        go_wp2
                        go_roundw
                        case rel => exact ⟨r + 1, by omega, by go_num, rS, rT, kK⟩
                        case measure => simp [intOf]; omega
                  · have hr4' : r = 4 := by omega
                    rw [hr4', E.fill_full (n := 16) (E.tr_length _) (E.tr_length _), HFN.out] at rS
                    have hsr : ¬ (r : Int) < 4 := by omega
                    go_wp2
                    go_roundw
                    case rel => exact ⟨n + 1, by omega, by go_num, rS, kK⟩
                    case measure => simp [intOf]; omega
        · have hn' : n = 10 := by omega
          have hsn : ¬ (n : Int) + 1 ≤ 10 := by omega
          rw [hn', HR10.out] at rS
          clear hn hn10 hn' HRS HRL HR10 HRL10 HOV
          obtain ⟨go, hgo⟩ : ∃ go, go = wr.heap.size := ⟨_, rfl⟩
          have rO1 : Row (wr.alloc (.cells (W.cellsOf (List.replicate 16 0)).toArray 31 (0, 0))) go 31 (W.cellsOf (List.replicate 16 0)) := Row.new' rfl hgo
          have hgl : w.heap.size + 1 + 1 < go := by rw [hgo]; exact rS.lt
          have rS1 := rS.alloc (.cells (W.cellsOf (List.replicate 16 0)).toArray 31 (0, 0))
          have kK1 := kK.alloc (.cells (W.cellsOf (List.replicate 16 0)).toArray 31 (0, 0))
          clear rS kK
          go_wp2
          rw [← hgo]
          clear hgo
          go_loopw [21] (fun iv wq => ∃ j : Nat, j ≤ 16 ∧ iv = .int .i64 j ∧ Row wq (w.heap.size + 1 + 1) 115 (W.cellsOf (E.tr eb)) ∧ Row wq go 31 (W.cellsOf (E.fill eb (List.replicate 16 0) j)) ∧ Keeps w wq) (fun iv _ => 16 - (intOf iv).toNat)
          case atStart => exact ⟨0, Nat.zero_le _, rfl, rS1, by rw [E.fill_zero]; exact rO1, kK1⟩
          case round =>
            clear rS1 rO1 kK1
            obtain ⟨j, hj, rfl, rS, rO, kK⟩ := hrel
            have hF : eb.length = (List.replicate 16 (0 : UInt8)).length := by rw [HEL.out]; simp
            by_cases hlt : j < 16
            · have hs : (j : Int) < 16 := by omega
              have hs0 : (0 : Int) ≤ (j : Int) := by omega
              have htp : E.tp j = j % 4 * 4 + j / 4 := rfl
              have cs := (rS.cell (E.tp j)).trans (c8_at (by rw [E.tr_length]; exact E.tp_lt hlt))
              rw [E.tr_back eb j hlt, htp] at cs
              have co := (rO.cell j).trans (c8_at (by rw [E.fill_length hF]; simp; omega))
              have fo := rO.frozen j
              have rO' := rO.set j (.int .u8 ((eb.getD j 0).toNat : Int))
              rw [c8_set, E.fill_step hF (by simp; omega)] at rO'
              have hm : (j : Int) % 4 = ((j % 4 : Nat) : Int) := by omega
              have hd : (j : Int) / 4 = ((j / 4 : Nat) : Int) := by omega
              have hm' : (j : Int).tmod 4 = ((j % 4 : Nat) : Int) := by rw [Int.tmod_eq_emod_of_nonneg hs0]; omega
              have hwc : IntKind.i64.wrap ((j / 4 : Nat) : Int) = ((j / 4 : Nat) : Int) := by rw [IntKind.wrap_i64]; omega
              have hr4 : ((j % 4 : Nat) : Int) < 4 := by omega
              have hc4 : ((j / 4 : Nat) : Int) < 4 := by omega
              clear htp hF
              generalize j % 4 = r at *
              generalize j / 4 = c at *
              generalize eb.getD j 0 = xx at *
              go_wp2
              go_roundw
              case rel => exact ⟨j + 1, by omega, by go_num, rS.other (by omega) _, rO', kK.set (by omega) _⟩
              case measure => simp [intOf]; omega
            · have hj16 : j = 16 := by omega
              have hs : ¬ (j : Int) < 16 := by omega
              rw [hj16, E.fill_full (n := 16) HEL.out (by simp)] at rO
              have hi := info16 HEL.out
              have k1 := kK.1
              have k2 := kK.2
              clear hj hlt hj16 hF
              go_wp2_with (first | refine wpList_load_row rfl 31 _ rfl go rfl _ _ _ _ rO Tryz.underlying31 rfl hi ?_ | refine wpList_store_row rfl 31 (.tmp 6) (.tmp 181) rfl (w.heap.size + 1) _ rfl rfl _ _ k1 hi (by rw [List.size_toArray, List.size_toArray, c8_len, c8_len, HEL.out]; rfl) (c8_all _) ?_)
              exact bodyPost_ret (results_cell_row rfl _ _ (w.heap.size + 1) _ _ _ _ rfl (k1.setRow (W.cellsOf eb)) Tryz.underlying31 rfl hi) rfl ⟨rfl, below_row k2 (by omega) _⟩

end Go.Proofs.YtjkaignfomlflaaGreat

/-
  Layer 5: the document's Encrypt; its box and words, told by their cells.
-/
namespace Go.Proofs.YtjkaignfomlflaaGreat
open Go.RowKit
set_option linter.unusedVariables false
set_option maxRecDepth 20000

theorem refBoxC_any (w : World) :
    Calls Tryz.prog 54 #[] w fun e w' => ∃ gb cap, e = .returned (.slice (some ⟨gb, 0, none⟩) 256 cap) ∧ w.heap.size ≤ gb ∧ gb < w'.heap.size ∧ 256 ≤ cap ∧ (∀ x : UInt8, w'.cell? ⟨gb, x.toNat, none⟩ = some (.int .u8 ((E.sub x).toNat : Int))) ∧ Below w.heap.size w w' := by
  refine (refBox_any w).mono ?_
  rintro e w' ⟨v, rfl, hown, hb⟩
  obtain ⟨box, hbox⟩ : ∃ b : List UInt8, b = E.sbox := ⟨_, rfl⟩
  have hl : box.length = 256 := by rw [hbox]; exact E.sbox_length
  have hs : ∀ x : UInt8, box.getD x.toNat 0 = E.sub x := fun x => by rw [hbox]; rfl
  rw [← hbox, ← hl] at hown
  obtain ⟨g, cap, hv, h1, h2, h3, h4⟩ := owns_cells hown (by omega)
  rw [hl] at h3
  refine ⟨g, cap, by rw [hv, hl], h1, h2, h3, fun x => ?_, hb⟩
  rw [h4 _ (by rw [hl]; exact x.toNat_lt), hs]

theorem wordsC_any (s : ByteArray) (hs : s.size = 16) (gb capb : Nat) (w : World) (hgb : gb < w.heap.size) (hcap : 256 ≤ capb) (hbox : ∀ x : UInt8, w.cell? ⟨gb, x.toNat, none⟩ = some (.int .u8 ((E.sub x).toNat : Int))) :
    Calls Tryz.prog 55 #[.string s, .slice (some ⟨gb, 0, none⟩) 256 capb] w fun e w' => ∃ gw cap, e = .returned (.slice (some ⟨gw, 0, none⟩) 44 cap) ∧ w.heap.size ≤ gw ∧ gw < w'.heap.size ∧ (∀ j, j < 176 → w'.cell? ⟨gw, j, none⟩ = some (.int .u8 (((E.rks s.data.toList 11).getD j 0).toNat : Int))) ∧ Below w.heap.size w w' := by
  refine (words_any s hs gb capb w hgb hcap hbox).mono ?_
  rintro e w' ⟨v, rfl, hown, hb⟩
  obtain ⟨g, cap, hv, h1, h2, h3, h4⟩ := owns_row4 hown (by decide)
  exact ⟨g, cap, by rw [hv], h1, h2, fun j hj => h4 j (by omega), hb⟩

end Go.Proofs.YtjkaignfomlflaaGreat
