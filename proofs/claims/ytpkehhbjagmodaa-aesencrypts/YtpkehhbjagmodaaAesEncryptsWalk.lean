/-
  Layer 5: the walk of AesEncrypts: it answers true at every key and block.
-/
import Derived.Test.YtpkehhbjagmodaaAAwake
import Derived.Test.YtpkehhbjagmodaaARefEnc
import Derived.Test.YtpkehhbjagmodaaAConv
import Derived.Test.YtpkehhbjagmodaaIArr
namespace Go.Proofs.Ytpkehhbjagmodaa.AesEncryptsW
open Go.RowKit
set_option linter.unusedVariables false

theorem part_key (k : List UInt8) (hk : k.length = 16) (r : Nat) (hr : r < 11) (w : World) : (Instr.index 34 (.agg (W.cellsOf (E.rks k 11)).toArray) (.int .i64 (r : Int))).run Try.prog w = .ok (.agg (W.cellsOf (E.rk k r)).toArray) w := by
  have hs : ∀ wx, (sizeOf 23).run Try.prog wx = .ok 16 wx := fun wx => by kernel_rfl
  have e : List.take 16 (List.drop (r * 16) (W.cellsOf (E.rks k 11))) = W.cellsOf (E.rk k r) := by
    rw [c8_part, Nat.mul_comm r 16, rks_part hk hr]
  simp [Instr.index, run_underlying Try.underlying34, asIntOf, go_sem, part, hs, isAgg, run_underlying Try.underlying23, e]
  intro h
  omega
theorem make16 (w : World) : (Instr.makeSlice 30 (.int .i64 16) (.int .i64 16)).run Try.prog w = .ok (.slice (some ⟨w.heap.size, 0, none⟩) 16 16) (w.alloc (.cells (W.cellsOf (List.replicate 16 0)).toArray 5 (0, 0))) := by kernel_rfl
theorem zerosText {w : World} {g : Nat} (h : Row w g 5 (W.cellsOf (List.replicate 16 0))) : (convert 30 9 (.slice (some ⟨g, 0, none⟩) 16 16)).run Try.prog w = .ok (.string ⟨(List.replicate 16 0).toArray⟩) w :=
  run_convert_bytes_back (P := Try.prog) w 30 9 5 ⟨g, 0, none⟩ 16 (List.replicate 16 0) Try.underlying30 Try.underlying5 Try.underlying9 (fun t ht => by
    have ht' : t < 16 := by simpa using ht
    rw [addr0, h.cell, c8_at (by simpa using ht')]; simp [List.getD_eq_getElem?_getD, ht'])

set_option maxRecDepth 20000 in
set_option maxHeartbeats 4000000 in
theorem core (a0 : ByteArray) (b : List UInt8) (w : World) (w0 : a0.size ≤ maxLen) (hb : b.length = 16) :
    Calls Try.prog 3 #[.string a0, .agg (W.cellsOf b).toArray] w fun e w' => e = .returned (.bool true) ∧ Below w.heap.size w w' := by
  unfold maxLen at w0
  have HB := Lib.hid hb
  clear hb
  go_enter Try.func3, Try.ntmps3
  go_wp2_with fail
  refine (awake5_any _).mono ?_
  rintro e w1 ⟨rfl, hb1⟩
  have rb1 : Row w1 w.heap.size 23 (W.cellsOf b) := Row.below (Row.new' rfl rfl) hb1 (by simp)
  have hw1 : Below w.heap.size w w1 := ((Below.refl _ _).alloc (Nat.le_refl _) _).trans (hb1.mono (by simp))
  clear hb1
  by_cases h40 : 40 < a0.size
  case pos =>
    have h40' : (40 : Int) < a0.size := by omega
    go_wp2
    go_ret
    exact ⟨rfl, hw1⟩
  case neg =>
  have h40' : ¬ (40 : Int) < a0.size := by omega
  by_cases hL : a0.size = 16
  case neg =>
    have CN : Hid (∀ wx, Calls Try.prog 12 #[.string a0] wx fun e w' => e = .returned (.tuple #[.agg (W.cellsOf (List.replicate 16 0)).toArray, .int .i64 4]) ∧ Below wx.heap.size wx w') := fun wx => new_no a0 hL wx
    have hn : ¬ (a0.size : Int) = 16 := by omega
    obtain ⟨s, hsd⟩ : ∃ s : ByteArray, s = ⟨(List.replicate 16 (0 : UInt8)).toArray⟩ := ⟨_, rfl⟩
    have hs : s.size = 16 := by rw [hsd]; rfl
    obtain ⟨k, hkd⟩ : ∃ k : List UInt8, k = List.replicate 16 0 := ⟨_, rfl⟩
    have HKS : Hid (s.data.toList = k) := by rw [hsd, hkd]; rfl
    have HK : Hid (k.length = 16) := by rw [hkd]; rfl
    have HMK : Hid (∀ wx : World, (Instr.makeSlice 30 (.int .i64 16) (.int .i64 16)).run Try.prog wx = .ok (.slice (some ⟨wx.heap.size, 0, none⟩) 16 16) (wx.alloc (.cells (W.cellsOf k).toArray 5 (0, 0)))) := fun wx => by rw [hkd]; exact make16 wx
    have HZT : Hid (∀ wx g, Row wx g 5 (W.cellsOf k) → (convert 30 9 (.slice (some ⟨g, 0, none⟩) 16 16)).run Try.prog wx = .ok (.string s) wx) := fun wx g h => by rw [hsd]; rw [hkd] at h; exact zerosText h
    have HO0 : Hid (∀ z : Array Value, z = (W.cellsOf (List.replicate 16 0)).toArray → z.size = (W.cellsOf k).toArray.size) := fun z hz => by rw [hz, hkd]
    rw [← hkd] at CN
    have hik := info16k HK.out
    clear hsd hkd
    go_wp2_with fail
    refine (CN.out _).mono ?_
    rintro e w2 ⟨rfl, b2⟩
    have rb2 := Row.below rb1 b2 rb1.lt
    have hw2 := hw1.trans (b2.mono hw1.size)
    clear b2 rb1 hw1
    have rk := Row.new' (w := w2) (t := 26) (l := W.cellsOf k) rfl rfl
    have rb3 := rb2.alloc (.cells (W.cellsOf k).toArray 26 (0, 0))
    have hw3 := hw2.alloc hw2.size (.cells (W.cellsOf k).toArray 26 (0, 0))
    have hmk := HMK.out
    have hcv := HZT.out ((w2.alloc (.cells (W.cellsOf k).toArray 26 (0, 0))).alloc (.cells (W.cellsOf k).toArray 5 (0, 0))) (w2.heap.size + 1) (Row.new' rfl (by simp))
    have HS16 := Lib.hid hs
    clear hs
    go_wp2_with (first | refine wpList_store_new rfl 26 (.tmp 5) (.tmp 19) rfl w2 _ _ _ _ rfl rfl rfl hik (HO0.out _ rfl) (c8_all _) ?_)
    have rk5 := rk.alloc (.cells (W.cellsOf k).toArray 5 (0, 0))
    have rb5 := rb3.alloc (.cells (W.cellsOf k).toArray 5 (0, 0))
    have hw5 := hw3.alloc hw3.size (.cells (W.cellsOf k).toArray 5 (0, 0))
    clear hmk rk rb3 hw3 rb2 hw2 hcv HMK
    generalize (w2.alloc (.cells (W.cellsOf k).toArray 26 (0, 0))).alloc (.cells (W.cellsOf k).toArray 5 (0, 0)) = w5 at *
    generalize w2.heap.size = gk at *
    clear HZT
    have CW : Hid (∀ gb capb wx, gb < wx.heap.size → 256 ≤ capb → (∀ x : UInt8, wx.cell? ⟨gb, x.toNat, none⟩ = some (.int .u8 ((E.sub x).toNat : Int))) → Calls Try.prog 13 #[.string s, .slice (some ⟨gb, 0, none⟩) 256 capb] wx fun e w' => ∃ gw cap, e = .returned (.slice (some ⟨gw, 0, none⟩) 44 cap) ∧ wx.heap.size ≤ gw ∧ gw < w'.heap.size ∧ (∀ j, j < 176 → w'.cell? ⟨gw, j, none⟩ = some (.int .u8 (((E.rks k 11).getD j 0).toNat : Int))) ∧ Below wx.heap.size wx w') := fun gb capb wx h1 h2 h3 => by
      have := wordsC_any s HS16.out gb capb wx h1 h2 h3
      rw [HKS.out] at this; exact this
    have CRF : Hid (∀ wx, Calls Try.prog 17 #[.string s, .agg (W.cellsOf b).toArray] wx fun e w' => e = .returned (.agg (W.cellsOf (E.enc k b)).toArray) ∧ Below wx.heap.size wx w') := fun wx => by
      have := refEnc_any s HS16.out b HB.out wx
      rw [HKS.out] at this; exact this
    have CRS : Hid (∀ wx, Calls Try.prog 15 #[.agg (W.cellsOf k).toArray] wx fun e w' => e = .returned (.agg (W.cellsOf (E.rks k 11)).toArray) ∧ Below wx.heap.size wx w') := fun wx => rounds_any k HK.out wx
    have CEN : Hid (∀ wx, Calls Try.prog 16 #[.agg (W.cellsOf k).toArray, .agg (W.cellsOf b).toArray] wx fun e w' => e = .returned (.agg (W.cellsOf (E.enc k b)).toArray) ∧ Below wx.heap.size wx w') := fun wx => enc_any k b HK.out HB.out wx
    have HPK : Hid (∀ r : Nat, r < 11 → ∀ wx, (Instr.index 34 (.agg (W.cellsOf (E.rks k 11)).toArray) (.int .i64 (r : Int))).run Try.prog wx = .ok (.agg (W.cellsOf (E.rk k r)).toArray) wx) := fun r hr wx => part_key k HK.out r hr wx
    have HAT : Hid (∀ r i : Nat, r < 11 → i < 16 → (E.rks k 11).getD (16 * r + i) 0 = (E.rk k r).getD i 0) := fun r i hr hi => E.rks_at HK.out hr hi
    have HRL : Hid (∀ r, (E.rk k r).length = 16) := fun r => E.rk_length HK.out r
    have HEQ := Lib.hid (equal16 (E.enc k b) (E.enc k b) (E.enc_length _ _) (E.enc_length _ _))
    rw [show (E.enc k b == E.enc k b) = true by simp] at HEQ
    have hik' : (Try.prog.info? 26).map (·.size) = some (W.cellsOf k).length := by simpa using hik
    have huk : Try.prog.underlying 26 = some _ := Try.underlying26
    have hu1 : Try.prog.underlying 23 = some (.array 16 5) := Try.underlying23
    have hib := info16' HB.out
    generalize E.enc k b = eb at *
    generalize E.rks k 11 = K at *
    generalize E.rk k = RK at *
    have lk : Hid (∀ wx, Row wx gk 26 (W.cellsOf k) → wx.rangeAt gk 0 (W.cellsOf k)) := fun wx h => by have := h.rangeOf 0 16; rwa [List.drop_zero, List.take_of_length_le (by rw [c8_len, HK.out]; decide)] at this
    have lb : Hid (∀ wx, Row wx w.heap.size 23 (W.cellsOf b) → wx.rangeAt w.heap.size 0 (W.cellsOf b)) := fun wx h => by have := h.rangeOf 0 16; rwa [List.drop_zero, List.take_of_length_le (by rw [c8_len, HB.out]; decide)] at this
    clear HS16 HKS CN HO0
    refine (refBoxC_any _).mono ?_
    rintro e w6 ⟨gb, capb, rfl, hg1, hg2, hcap, hbx, b6⟩
    have rk6 := Row.below rk5 b6 rk5.lt
    have rb6 := Row.below rb5 b6 rb5.lt
    have hw6 := hw5.trans (b6.mono hw5.size)
    have HBX := Lib.hid hbx
    clear b6 rk5 rb5 hw5 hbx
    go_wp2_with fail
    refine (CW.out gb capb _ hg2 hcap HBX.out).mono ?_
    rintro e w7 ⟨gw, capw, rfl, hg3, hg4, hkw, b7⟩
    have rk7 := Row.below rk6 b7 rk6.lt
    have rb7 := Row.below rb6 b7 rb6.lt
    have hw7 := hw6.trans (b7.mono hw6.size)
    have HKW7 := Lib.hid hkw
    clear b7 rk6 rb6 hw6 hkw HBX CW
    go_wp2_with (first | refine wpList_load_row rfl 26 (.tmp 5) rfl gk rfl _ _ _ _ rk7 Try.underlying26 rfl hik ?_)
    refine (CRS.out _).mono ?_
    rintro e w8 ⟨rfl, b8⟩
    have rk8 := Row.below rk7 b8 rk7.lt
    have rb8 := Row.below rb7 b8 rb7.lt
    have hw8 := hw7.trans (b8.mono hw7.size)
    have HKW : Hid (∀ wx, Below w8.heap.size w8 wx → ∀ j, j < 176 → wx.cell? ⟨gw, j, none⟩ = some (.int .u8 ((K.getD j 0).toNat : Int))) := fun wx h j hj => by
      rw [h.cell (p := ⟨gw, _, none⟩) (Nat.lt_of_lt_of_le hg4 b8.size), b8.cell (p := ⟨gw, _, none⟩) hg4]; exact HKW7.out j hj
    clear b8 rk7 rb7 hw7 HKW7 CRS hg1 hg2 hg3 hg4
    go_wp2
    go_loopw [8, 9, 10, 35] (fun _ _ _ rv wq => ∃ r : Nat, r ≤ 11 ∧ rv = .int .i64 r ∧ Below w8.heap.size w8 wq) (fun _ _ _ rv _ => 11 - (intOf rv).toNat)
    case atStart => exact ⟨0, Nat.zero_le _, rfl, Below.refl _ _⟩
    case round =>
      obtain ⟨r, hr, rfl, hbq⟩ := hrel
      by_cases hr11 : r < 11
      · have hsr : (r : Int) < 11 := by omega
        have hsr0 : (0 : Int) ≤ (r : Int) := by omega
        have hpk := fun wx => HPK.out r hr11 wx
        have hir := info16 (HRL.out r)
        have hzr : ∀ z : Array Value, z = (W.cellsOf (List.replicate 16 0)).toArray → z.size = (W.cellsOf (RK r)).toArray.size := fun z hz => by rw [hz, List.size_toArray, List.size_toArray, c8_len, c8_len, HRL.out r]; rfl
        have rx := Row.new' (w := wr) (t := 23) (l := W.cellsOf (RK r)) rfl rfl
        have hbx := hbq.alloc hbq.size (.cells (W.cellsOf (RK r)).toArray 23 (0, 0))
        have hgx : w8.heap.size ≤ wr.heap.size := hbq.size
        go_wp2_with (first | refine wpList_store_new rfl 23 (.tmp 9) (.tmp 38) rfl wr _ _ _ _ rfl rfl rfl hir (hzr _ rfl) (c8_all _) ?_)
        clear hpk hir hzr
        generalize wr.alloc (.cells (W.cellsOf (RK r)).toArray 23 (0, 0)) = wy at *
        generalize wr.heap.size = gx at *
        clear hbq
        go_loopw [10, 39] (fun _ iv wq => ∃ i : Nat, i ≤ 16 ∧ iv = .int .i64 i ∧ Row wq gx 23 (W.cellsOf (RK r)) ∧ Below w8.heap.size w8 wq) (fun _ iv _ => 16 - (intOf iv).toNat)
        case atStart => exact ⟨0, Nat.zero_le _, rfl, rx, hbx⟩
        case round =>
          clear rx hbx
          obtain ⟨i, hi, rfl, rx, hbx⟩ := hrel
          by_cases hi16 : i < 16
          · have hsi : (i : Int) < 16 := by omega
            have hsi0 : (0 : Int) ≤ (i : Int) := by omega
            have cx := (rx.cell i).trans (c8_at (by rw [HRL.out]; exact hi16))
            have cw := HKW.out _ hbx ((4 * r + i / 4) * 4 + i % 4) (by omega)
            rw [show (4 * r + i / 4) * 4 + i % 4 = 16 * r + i from by omega, HAT.out r i hr11 hi16, show 16 * r + i = (4 * r + i / 4) * 4 + i % 4 from by omega] at cw
            have hm' : (i : Int).tmod 4 = ((i % 4 : Nat) : Int) := by rw [Int.tmod_eq_emod_of_nonneg hsi0]; omega
            have hm : (i : Int) % 4 = ((i % 4 : Nat) : Int) := by omega
            have hd : (i : Int) / 4 = ((i / 4 : Nat) : Int) := by omega
            have hwc : IntKind.i64.wrap ((i / 4 : Nat) : Int) = ((i / 4 : Nat) : Int) := by rw [IntKind.wrap_i64]; omega
            have hw1 : IntKind.i64.wrap (4 * (r : Int)) = 4 * (r : Int) := by rw [IntKind.wrap_i64]; omega
            have hw2 : IntKind.i64.wrap (4 * (r : Int) + ((i / 4 : Nat) : Int)) = ((4 * r + i / 4 : Nat) : Int) := by rw [IntKind.wrap_i64]; omega
            have hq44 : ((4 * r + i / 4 : Nat) : Int) < 44 := by omega
            have hr4 : ((i % 4 : Nat) : Int) < 4 := by omega
            generalize (RK r).getD i 0 = z at *
            generalize 4 * r + i / 4 = q at *
            generalize i % 4 = m at *
            generalize i / 4 = c at *
            go_wp2_with fail
            refine wp_region_held_drew (S := fun w' => w'.cell? ⟨gx, i, none⟩ = some (.int .u8 (z.toNat : Int)) ∧ w'.cell? ⟨gw, q * 4 + m, none⟩ = some (.int .u8 (z.toNat : Int))) (by kernel_rfl) ⟨cx, cw⟩ (fun hHeld => ?_)
            refine take_d 0 (some 42) (.int .i64 (i : Int)) rfl (by kernel_rfl) (by kernel_rfl) (by kernel_rfl) (fun _ _ _ h => h) (fun oi h => by cases h; exact Or.inl ⟨by rfl, fun w' hS' => by go_simp⟩) hHeld ?_
            try simp only [Act.put, List.setIfInBounds_toArray, List.set_cons_zero, List.set_cons_succ]
            refine take_d 1 (some 43) (.pointer (some ⟨gx, i, none⟩)) rfl (by kernel_rfl) (by kernel_rfl) (by kernel_rfl) (fun _ _ _ h => h) (fun oi h => by cases h; exact Or.inl ⟨by rfl, fun w' hS' => by go_simp⟩) hHeld ?_
            try simp only [Act.put, List.setIfInBounds_toArray, List.set_cons_zero, List.set_cons_succ]
            refine take_d 2 (some 44) (.int .u8 (z.toNat : Int)) rfl (by kernel_rfl) (by kernel_rfl) (by kernel_rfl) (fun _ _ _ h => h) (fun oi h => by cases h; exact Or.inl ⟨by rfl, fun w' hS' => by have c := hS'.1; go_simp⟩) hHeld ?_
            try simp only [Act.put, List.setIfInBounds_toArray, List.set_cons_zero, List.set_cons_succ]
            refine take_d 3 (some 45) (.slice (some ⟨gw, 0, none⟩) 44 capw) rfl (by kernel_rfl) (by kernel_rfl) (by kernel_rfl) (fun _ _ _ h => h) (fun oi h => by cases h; exact Or.inl ⟨by rfl, fun w' hS' => by go_simp⟩) hHeld ?_
            try simp only [Act.put, List.setIfInBounds_toArray, List.set_cons_zero, List.set_cons_succ]
            refine take_d 4 (some 46) (.int .i64 (r : Int)) rfl (by kernel_rfl) (by kernel_rfl) (by kernel_rfl) (fun _ _ _ h => h) (fun oi h => by cases h; exact Or.inl ⟨by rfl, fun w' hS' => by go_simp⟩) hHeld ?_
            try simp only [Act.put, List.setIfInBounds_toArray, List.set_cons_zero, List.set_cons_succ]
            refine take_d 5 (some 47) (.int .i64 (4 * (r : Int))) rfl (by kernel_rfl) (by kernel_rfl) (by kernel_rfl) (fun _ _ _ h => h) (fun oi h => by cases h; exact Or.inl ⟨by rfl, fun w' hS' => by go_simp⟩) hHeld ?_
            try simp only [Act.put, List.setIfInBounds_toArray, List.set_cons_zero, List.set_cons_succ]
            refine take_d 6 (some 48) (.int .i64 (i : Int)) rfl (by kernel_rfl) (by kernel_rfl) (by kernel_rfl) (fun _ _ _ h => h) (fun oi h => by cases h; exact Or.inl ⟨by rfl, fun w' hS' => by go_simp⟩) hHeld ?_
            try simp only [Act.put, List.setIfInBounds_toArray, List.set_cons_zero, List.set_cons_succ]
            refine take_d 7 (some 49) (.int .i64 (c : Int)) rfl (by kernel_rfl) (by kernel_rfl) (by kernel_rfl) (fun _ _ _ h => h) (fun oi h => by cases h; exact Or.inl ⟨by rfl, fun w' hS' => by go_simp⟩) hHeld ?_
            try simp only [Act.put, List.setIfInBounds_toArray, List.set_cons_zero, List.set_cons_succ]
            refine take_d 8 (some 50) (.int .i64 (q : Int)) rfl (by kernel_rfl) (by kernel_rfl) (by kernel_rfl) (fun _ _ _ h => h) (fun oi h => by cases h; exact Or.inl ⟨by rfl, fun w' hS' => by go_simp⟩) hHeld ?_
            try simp only [Act.put, List.setIfInBounds_toArray, List.set_cons_zero, List.set_cons_succ]
            refine take_d 9 (some 51) (.int .i64 (i : Int)) rfl (by kernel_rfl) (by kernel_rfl) (by kernel_rfl) (fun _ _ _ h => h) (fun oi h => by cases h; exact Or.inl ⟨by rfl, fun w' hS' => by go_simp⟩) hHeld ?_
            try simp only [Act.put, List.setIfInBounds_toArray, List.set_cons_zero, List.set_cons_succ]
            refine take_d 10 (some 52) (.int .i64 (m : Int)) rfl (by kernel_rfl) (by kernel_rfl) (by kernel_rfl) (fun _ _ _ h => h) (fun oi h => by cases h; exact Or.inl ⟨by rfl, fun w' hS' => by go_simp⟩) hHeld ?_
            try simp only [Act.put, List.setIfInBounds_toArray, List.set_cons_zero, List.set_cons_succ]
            refine take_d 11 (some 53) (.pointer (some ⟨gw, q * 4, none⟩)) rfl (by kernel_rfl) (by kernel_rfl) (by kernel_rfl) (fun _ _ _ h => h) (fun oi h => by cases h; exact Or.inl ⟨by rfl, fun w' hS' => by go_simp⟩) hHeld ?_
            try simp only [Act.put, List.setIfInBounds_toArray, List.set_cons_zero, List.set_cons_succ]
            refine take_d 12 (some 54) (.pointer (some ⟨gw, q * 4 + m, none⟩)) rfl (by kernel_rfl) (by kernel_rfl) (by kernel_rfl) (fun _ _ _ h => h) (fun oi h => by cases h; exact Or.inl ⟨by rfl, fun w' hS' => by go_simp⟩) hHeld ?_
            try simp only [Act.put, List.setIfInBounds_toArray, List.set_cons_zero, List.set_cons_succ]
            refine take_d 13 (some 55) (.int .u8 (z.toNat : Int)) rfl (by kernel_rfl) (by kernel_rfl) (by kernel_rfl) (fun _ _ _ h => h) (fun oi h => by cases h; exact Or.inl ⟨by rfl, fun w' hS' => by have c := hS'.2; go_simp⟩) hHeld ?_
            try simp only [Act.put, List.setIfInBounds_toArray, List.set_cons_zero, List.set_cons_succ]
            refine take_d 14 (some 56) (.bool false) rfl (by kernel_rfl) (by kernel_rfl) (by kernel_rfl) (fun _ _ _ h => h) (fun oi h => by cases h; exact Or.inl ⟨by rfl, fun w' hS' => by go_simp⟩) hHeld ?_
            try simp only [Act.put, List.setIfInBounds_toArray, List.set_cons_zero, List.set_cons_succ]
            clear hHeld
            refine wpAnyH_done (by kernel_rfl) ?_ _
            try simp only [Act.put]
            clear cx cw hm hm' hd hwc hw1 hw2 hq44 hr4
            have rx' := rx.drew
            have hbx' := hbx.drew
            go_wp2
            go_roundw
            case rel => exact ⟨i + 1, by omega, by go_num, rx', hbx'⟩
            case measure => simp [intOf]; omega
          · have hsi : ¬ (i : Int) < 16 := by omega
            go_wp2
            go_roundw
            case rel => exact ⟨r + 1, by omega, by go_num, hbx⟩
            case measure => simp [intOf]; omega
      · have hsr : ¬ (r : Int) < 11 := by omega
        have rk9 := Row.below rk8 hbq rk8.lt
        have rb9 := Row.below rb8 hbq rb8.lt
        have hw9 := hw8.trans (hbq.mono hw8.size)
        clear hbq rk8 rb8 hw8 HKW HPK HAT HRL hr hr11
        go_wp2_with fail
        refine wp_region_held_drew (S := fun w' => w'.rangeAt gk 0 (W.cellsOf k) ∧ w'.rangeAt w.heap.size 0 (W.cellsOf b)) (by kernel_rfl) ⟨lk.out _ rk9.drew, lb.out _ rb9.drew⟩ (fun hHeld => ?_)
        refine take_d 0 (some 59) (.agg (W.cellsOf k).toArray) rfl (by kernel_rfl) (by kernel_rfl) (by kernel_rfl) (fun _ _ _ h => h) (fun oi h => by cases h; exact yieldsIf_load_mid (by rfl) 26 (.tmp 5) rfl gk 0 rfl (W.cellsOf k) _ (fun w' hS' => hS'.1) huk rfl hik') hHeld ?_
        try simp only [Act.put, List.setIfInBounds_toArray, List.set_cons_zero, List.set_cons_succ]
        refine take_d 1 (some 60) (.agg (W.cellsOf b).toArray) rfl (by kernel_rfl) (by kernel_rfl) (by kernel_rfl) (fun _ _ _ h => h) (fun oi h => by cases h; exact yieldsIf_load_mid (by rfl) 23 (.tmp 3) rfl w.heap.size 0 rfl (W.cellsOf b) _ (fun w' hS' => hS'.2) hu1 rfl hib) hHeld ?_
        try simp only [Act.put, List.setIfInBounds_toArray, List.set_cons_zero, List.set_cons_succ]
        refine take_d 3 (some 62) (.string s) rfl (by kernel_rfl) (by kernel_rfl) (by kernel_rfl) (fun _ _ _ h => h) (fun oi h => by cases h; exact Or.inl ⟨by rfl, fun w' hS' => by go_simp⟩) hHeld ?_
        try simp only [Act.put, List.setIfInBounds_toArray, List.set_cons_zero, List.set_cons_succ]
        refine take_d 4 (some 63) (.agg (W.cellsOf b).toArray) rfl (by kernel_rfl) (by kernel_rfl) (by kernel_rfl) (fun _ _ _ h => h) (fun oi h => by cases h; exact yieldsIf_load_mid (by rfl) 23 (.tmp 3) rfl w.heap.size 0 rfl (W.cellsOf b) _ (fun w' hS' => hS'.2) hu1 rfl hib) hHeld ?_
        try simp only [Act.put, List.setIfInBounds_toArray, List.set_cons_zero, List.set_cons_succ]
        have rkD := rk9.drew
        have rbD := rb9.drew
        have hwD := hw9.drew
        clear rk9 rb9 hw9
        refine one_d 2 (some 61) rfl (by kernel_rfl) ?_
        intro o ho hd K' hK
        cases ho
        go_simp
        refine (CEN.out _).mono ?_
        rintro e wA ⟨rfl, bb⟩
        have rkE := Row.below rkD bb rkD.lt
        have rbE := Row.below rbD bb rbD.lt
        have hwE := hwD.trans (bb.mono hwD.size)
        clear bb hHeld hd rkD rbD hwD
        refine hK.out _ _ ⟨lk.out _ rkE, lb.out _ rbE⟩ (fun hHeld => ?_)
        clear hK K'
        try simp only [Act.put, List.setIfInBounds_toArray, List.set_cons_zero, List.set_cons_succ]
        refine one_d 5 (some 64) rfl (by kernel_rfl) ?_
        intro o ho hd K' hK
        cases ho
        go_simp
        refine (CRF.out _).mono ?_
        rintro e wB ⟨rfl, bb⟩
        have rkF := Row.below rkE bb rkE.lt
        have rbF := Row.below rbE bb rbE.lt
        have hwF := hwE.trans (bb.mono hwE.size)
        clear bb hHeld hd rkE rbE hwE
        refine hK.out _ _ ⟨lk.out _ rkF, lb.out _ rbF⟩ (fun hHeld => ?_)
        clear hK K'
        try simp only [Act.put, List.setIfInBounds_toArray, List.set_cons_zero, List.set_cons_succ]
        refine take_d 6 (some 65) (.bool true) rfl (by kernel_rfl) (by kernel_rfl) (by kernel_rfl) (fun _ _ _ h => h) (fun oi h => by cases h; exact Or.inl ⟨by rfl, fun w' hS' => by have heq := HEQ.out w'; go_simp⟩) hHeld ?_
        try simp only [Act.put, List.setIfInBounds_toArray, List.set_cons_zero, List.set_cons_succ]
        refine take_d 7 (some 4) (.bool true) rfl (by kernel_rfl) (by kernel_rfl) (by kernel_rfl) (fun _ _ _ h => h) (fun oi h => by cases h; exact Or.inl ⟨by rfl, fun w' hS' => by go_simp⟩) hHeld ?_
        try simp only [Act.put, List.setIfInBounds_toArray, List.set_cons_zero, List.set_cons_succ]
        clear hHeld
        refine wpAnyH_done (by kernel_rfl) ?_ _
        try simp only [Act.put]
        go_wp2
        go_ret
        exact ⟨rfl, hwF⟩
  case pos =>
    have CN : Hid (∀ wx, Calls Try.prog 12 #[.string a0] wx fun e w' => e = .returned (.tuple #[.agg (W.cellsOf a0.data.toList).toArray, .int .i64 0]) ∧ Below wx.heap.size wx w') := fun wx => new_yes a0 hL wx
    have hn : (a0.size : Int) = 16 := by omega
    have hs : a0.size = 16 := hL
    have HK : Hid (a0.data.toList.length = 16) := by simpa [Hid] using hL
    obtain ⟨k, hk⟩ : ∃ k, k = a0.data.toList := ⟨_, rfl⟩
    rw [← hk] at CN HK
    have HKS : Hid (a0.data.toList = k) := hk.symm
    clear hk
    have HS16 := Lib.hid hs
    have hik := info16k HK.out
    have HO0 : Hid (∀ z : Array Value, z = (W.cellsOf (List.replicate 16 0)).toArray → z.size = (W.cellsOf k).toArray.size) := fun z hz => by rw [hz, List.size_toArray, List.size_toArray, c8_len, c8_len, HK.out]; rfl
    clear hL hs
    go_wp2_with fail
    refine (CN.out _).mono ?_
    rintro e w2 ⟨rfl, b2⟩
    have rb2 := Row.below rb1 b2 rb1.lt
    have hw2 := hw1.trans (b2.mono hw1.size)
    clear b2 rb1 hw1
    have rk := Row.new' (w := w2) (t := 26) (l := W.cellsOf k) rfl rfl
    have rb3 := rb2.alloc (.cells (W.cellsOf k).toArray 26 (0, 0))
    have hw3 := hw2.alloc hw2.size (.cells (W.cellsOf k).toArray 26 (0, 0))
    go_wp2_with (first | refine wpList_store_new rfl 26 (.tmp 5) (.tmp 19) rfl w2 _ _ _ _ rfl rfl rfl hik (HO0.out _ rfl) (c8_all _) ?_)
    generalize w2.alloc (.cells (W.cellsOf k).toArray 26 (0, 0)) = w5 at *
    generalize w2.heap.size = gk at *
    have rk5 := rk
    have rb5 := rb3
    have hw5 := hw3
    clear rk rb3 hw3 rb2 hw2
    have CW : Hid (∀ gb capb wx, gb < wx.heap.size → 256 ≤ capb → (∀ x : UInt8, wx.cell? ⟨gb, x.toNat, none⟩ = some (.int .u8 ((E.sub x).toNat : Int))) → Calls Try.prog 13 #[.string a0, .slice (some ⟨gb, 0, none⟩) 256 capb] wx fun e w' => ∃ gw cap, e = .returned (.slice (some ⟨gw, 0, none⟩) 44 cap) ∧ wx.heap.size ≤ gw ∧ gw < w'.heap.size ∧ (∀ j, j < 176 → w'.cell? ⟨gw, j, none⟩ = some (.int .u8 (((E.rks k 11).getD j 0).toNat : Int))) ∧ Below wx.heap.size wx w') := fun gb capb wx h1 h2 h3 => by
      have := wordsC_any a0 HS16.out gb capb wx h1 h2 h3
      rw [HKS.out] at this; exact this
    have CRF : Hid (∀ wx, Calls Try.prog 17 #[.string a0, .agg (W.cellsOf b).toArray] wx fun e w' => e = .returned (.agg (W.cellsOf (E.enc k b)).toArray) ∧ Below wx.heap.size wx w') := fun wx => by
      have := refEnc_any a0 HS16.out b HB.out wx
      rw [HKS.out] at this; exact this
    have CRS : Hid (∀ wx, Calls Try.prog 15 #[.agg (W.cellsOf k).toArray] wx fun e w' => e = .returned (.agg (W.cellsOf (E.rks k 11)).toArray) ∧ Below wx.heap.size wx w') := fun wx => rounds_any k HK.out wx
    have CEN : Hid (∀ wx, Calls Try.prog 16 #[.agg (W.cellsOf k).toArray, .agg (W.cellsOf b).toArray] wx fun e w' => e = .returned (.agg (W.cellsOf (E.enc k b)).toArray) ∧ Below wx.heap.size wx w') := fun wx => enc_any k b HK.out HB.out wx
    have HPK : Hid (∀ r : Nat, r < 11 → ∀ wx, (Instr.index 34 (.agg (W.cellsOf (E.rks k 11)).toArray) (.int .i64 (r : Int))).run Try.prog wx = .ok (.agg (W.cellsOf (E.rk k r)).toArray) wx) := fun r hr wx => part_key k HK.out r hr wx
    have HAT : Hid (∀ r i : Nat, r < 11 → i < 16 → (E.rks k 11).getD (16 * r + i) 0 = (E.rk k r).getD i 0) := fun r i hr hi => E.rks_at HK.out hr hi
    have HRL : Hid (∀ r, (E.rk k r).length = 16) := fun r => E.rk_length HK.out r
    have HEQ := Lib.hid (equal16 (E.enc k b) (E.enc k b) (E.enc_length _ _) (E.enc_length _ _))
    rw [show (E.enc k b == E.enc k b) = true by simp] at HEQ
    have hik' : (Try.prog.info? 26).map (·.size) = some (W.cellsOf k).length := by simpa using hik
    have huk : Try.prog.underlying 26 = some _ := Try.underlying26
    have hu1 : Try.prog.underlying 23 = some (.array 16 5) := Try.underlying23
    have hib := info16' HB.out
    generalize E.enc k b = eb at *
    generalize E.rks k 11 = K at *
    generalize E.rk k = RK at *
    have lk : Hid (∀ wx, Row wx gk 26 (W.cellsOf k) → wx.rangeAt gk 0 (W.cellsOf k)) := fun wx h => by have := h.rangeOf 0 16; rwa [List.drop_zero, List.take_of_length_le (by rw [c8_len, HK.out]; decide)] at this
    have lb : Hid (∀ wx, Row wx w.heap.size 23 (W.cellsOf b) → wx.rangeAt w.heap.size 0 (W.cellsOf b)) := fun wx h => by have := h.rangeOf 0 16; rwa [List.drop_zero, List.take_of_length_le (by rw [c8_len, HB.out]; decide)] at this
    clear HS16 HKS CN HO0
    refine (refBoxC_any _).mono ?_
    rintro e w6 ⟨gb, capb, rfl, hg1, hg2, hcap, hbx, b6⟩
    have rk6 := Row.below rk5 b6 rk5.lt
    have rb6 := Row.below rb5 b6 rb5.lt
    have hw6 := hw5.trans (b6.mono hw5.size)
    have HBX := Lib.hid hbx
    clear b6 rk5 rb5 hw5 hbx
    go_wp2_with fail
    refine (CW.out gb capb _ hg2 hcap HBX.out).mono ?_
    rintro e w7 ⟨gw, capw, rfl, hg3, hg4, hkw, b7⟩
    have rk7 := Row.below rk6 b7 rk6.lt
    have rb7 := Row.below rb6 b7 rb6.lt
    have hw7 := hw6.trans (b7.mono hw6.size)
    have HKW7 := Lib.hid hkw
    clear b7 rk6 rb6 hw6 hkw HBX CW
    go_wp2_with (first | refine wpList_load_row rfl 26 (.tmp 5) rfl gk rfl _ _ _ _ rk7 Try.underlying26 rfl hik ?_)
    refine (CRS.out _).mono ?_
    rintro e w8 ⟨rfl, b8⟩
    have rk8 := Row.below rk7 b8 rk7.lt
    have rb8 := Row.below rb7 b8 rb7.lt
    have hw8 := hw7.trans (b8.mono hw7.size)
    have HKW : Hid (∀ wx, Below w8.heap.size w8 wx → ∀ j, j < 176 → wx.cell? ⟨gw, j, none⟩ = some (.int .u8 ((K.getD j 0).toNat : Int))) := fun wx h j hj => by
      rw [h.cell (p := ⟨gw, _, none⟩) (Nat.lt_of_lt_of_le hg4 b8.size), b8.cell (p := ⟨gw, _, none⟩) hg4]; exact HKW7.out j hj
    clear b8 rk7 rb7 hw7 HKW7 CRS hg1 hg2 hg3 hg4
    go_wp2
    go_loopw [8, 9, 10, 35] (fun _ _ _ rv wq => ∃ r : Nat, r ≤ 11 ∧ rv = .int .i64 r ∧ Below w8.heap.size w8 wq) (fun _ _ _ rv _ => 11 - (intOf rv).toNat)
    case atStart => exact ⟨0, Nat.zero_le _, rfl, Below.refl _ _⟩
    case round =>
      obtain ⟨r, hr, rfl, hbq⟩ := hrel
      by_cases hr11 : r < 11
      · have hsr : (r : Int) < 11 := by omega
        have hsr0 : (0 : Int) ≤ (r : Int) := by omega
        have hpk := fun wx => HPK.out r hr11 wx
        have hir := info16 (HRL.out r)
        have hzr : ∀ z : Array Value, z = (W.cellsOf (List.replicate 16 0)).toArray → z.size = (W.cellsOf (RK r)).toArray.size := fun z hz => by rw [hz, List.size_toArray, List.size_toArray, c8_len, c8_len, HRL.out r]; rfl
        have rx := Row.new' (w := wr) (t := 23) (l := W.cellsOf (RK r)) rfl rfl
        have hbx := hbq.alloc hbq.size (.cells (W.cellsOf (RK r)).toArray 23 (0, 0))
        have hgx : w8.heap.size ≤ wr.heap.size := hbq.size
        go_wp2_with (first | refine wpList_store_new rfl 23 (.tmp 9) (.tmp 38) rfl wr _ _ _ _ rfl rfl rfl hir (hzr _ rfl) (c8_all _) ?_)
        clear hpk hir hzr
        generalize wr.alloc (.cells (W.cellsOf (RK r)).toArray 23 (0, 0)) = wy at *
        generalize wr.heap.size = gx at *
        clear hbq
        go_loopw [10, 39] (fun _ iv wq => ∃ i : Nat, i ≤ 16 ∧ iv = .int .i64 i ∧ Row wq gx 23 (W.cellsOf (RK r)) ∧ Below w8.heap.size w8 wq) (fun _ iv _ => 16 - (intOf iv).toNat)
        case atStart => exact ⟨0, Nat.zero_le _, rfl, rx, hbx⟩
        case round =>
          clear rx hbx
          obtain ⟨i, hi, rfl, rx, hbx⟩ := hrel
          by_cases hi16 : i < 16
          · have hsi : (i : Int) < 16 := by omega
            have hsi0 : (0 : Int) ≤ (i : Int) := by omega
            have cx := (rx.cell i).trans (c8_at (by rw [HRL.out]; exact hi16))
            have cw := HKW.out _ hbx ((4 * r + i / 4) * 4 + i % 4) (by omega)
            rw [show (4 * r + i / 4) * 4 + i % 4 = 16 * r + i from by omega, HAT.out r i hr11 hi16, show 16 * r + i = (4 * r + i / 4) * 4 + i % 4 from by omega] at cw
            have hm' : (i : Int).tmod 4 = ((i % 4 : Nat) : Int) := by rw [Int.tmod_eq_emod_of_nonneg hsi0]; omega
            have hm : (i : Int) % 4 = ((i % 4 : Nat) : Int) := by omega
            have hd : (i : Int) / 4 = ((i / 4 : Nat) : Int) := by omega
            have hwc : IntKind.i64.wrap ((i / 4 : Nat) : Int) = ((i / 4 : Nat) : Int) := by rw [IntKind.wrap_i64]; omega
            have hw1 : IntKind.i64.wrap (4 * (r : Int)) = 4 * (r : Int) := by rw [IntKind.wrap_i64]; omega
            have hw2 : IntKind.i64.wrap (4 * (r : Int) + ((i / 4 : Nat) : Int)) = ((4 * r + i / 4 : Nat) : Int) := by rw [IntKind.wrap_i64]; omega
            have hq44 : ((4 * r + i / 4 : Nat) : Int) < 44 := by omega
            have hr4 : ((i % 4 : Nat) : Int) < 4 := by omega
            generalize (RK r).getD i 0 = z at *
            generalize 4 * r + i / 4 = q at *
            generalize i % 4 = m at *
            generalize i / 4 = c at *
            go_wp2_with fail
            refine wp_region_held_drew (S := fun w' => w'.cell? ⟨gx, i, none⟩ = some (.int .u8 (z.toNat : Int)) ∧ w'.cell? ⟨gw, q * 4 + m, none⟩ = some (.int .u8 (z.toNat : Int))) (by kernel_rfl) ⟨cx, cw⟩ (fun hHeld => ?_)
            refine take_d 0 (some 42) (.int .i64 (i : Int)) rfl (by kernel_rfl) (by kernel_rfl) (by kernel_rfl) (fun _ _ _ h => h) (fun oi h => by cases h; exact Or.inl ⟨by rfl, fun w' hS' => by go_simp⟩) hHeld ?_
            try simp only [Act.put, List.setIfInBounds_toArray, List.set_cons_zero, List.set_cons_succ]
            refine take_d 1 (some 43) (.pointer (some ⟨gx, i, none⟩)) rfl (by kernel_rfl) (by kernel_rfl) (by kernel_rfl) (fun _ _ _ h => h) (fun oi h => by cases h; exact Or.inl ⟨by rfl, fun w' hS' => by go_simp⟩) hHeld ?_
            try simp only [Act.put, List.setIfInBounds_toArray, List.set_cons_zero, List.set_cons_succ]
            refine take_d 2 (some 44) (.int .u8 (z.toNat : Int)) rfl (by kernel_rfl) (by kernel_rfl) (by kernel_rfl) (fun _ _ _ h => h) (fun oi h => by cases h; exact Or.inl ⟨by rfl, fun w' hS' => by have c := hS'.1; go_simp⟩) hHeld ?_
            try simp only [Act.put, List.setIfInBounds_toArray, List.set_cons_zero, List.set_cons_succ]
            refine take_d 3 (some 45) (.slice (some ⟨gw, 0, none⟩) 44 capw) rfl (by kernel_rfl) (by kernel_rfl) (by kernel_rfl) (fun _ _ _ h => h) (fun oi h => by cases h; exact Or.inl ⟨by rfl, fun w' hS' => by go_simp⟩) hHeld ?_
            try simp only [Act.put, List.setIfInBounds_toArray, List.set_cons_zero, List.set_cons_succ]
            refine take_d 4 (some 46) (.int .i64 (r : Int)) rfl (by kernel_rfl) (by kernel_rfl) (by kernel_rfl) (fun _ _ _ h => h) (fun oi h => by cases h; exact Or.inl ⟨by rfl, fun w' hS' => by go_simp⟩) hHeld ?_
            try simp only [Act.put, List.setIfInBounds_toArray, List.set_cons_zero, List.set_cons_succ]
            refine take_d 5 (some 47) (.int .i64 (4 * (r : Int))) rfl (by kernel_rfl) (by kernel_rfl) (by kernel_rfl) (fun _ _ _ h => h) (fun oi h => by cases h; exact Or.inl ⟨by rfl, fun w' hS' => by go_simp⟩) hHeld ?_
            try simp only [Act.put, List.setIfInBounds_toArray, List.set_cons_zero, List.set_cons_succ]
            refine take_d 6 (some 48) (.int .i64 (i : Int)) rfl (by kernel_rfl) (by kernel_rfl) (by kernel_rfl) (fun _ _ _ h => h) (fun oi h => by cases h; exact Or.inl ⟨by rfl, fun w' hS' => by go_simp⟩) hHeld ?_
            try simp only [Act.put, List.setIfInBounds_toArray, List.set_cons_zero, List.set_cons_succ]
            refine take_d 7 (some 49) (.int .i64 (c : Int)) rfl (by kernel_rfl) (by kernel_rfl) (by kernel_rfl) (fun _ _ _ h => h) (fun oi h => by cases h; exact Or.inl ⟨by rfl, fun w' hS' => by go_simp⟩) hHeld ?_
            try simp only [Act.put, List.setIfInBounds_toArray, List.set_cons_zero, List.set_cons_succ]
            refine take_d 8 (some 50) (.int .i64 (q : Int)) rfl (by kernel_rfl) (by kernel_rfl) (by kernel_rfl) (fun _ _ _ h => h) (fun oi h => by cases h; exact Or.inl ⟨by rfl, fun w' hS' => by go_simp⟩) hHeld ?_
            try simp only [Act.put, List.setIfInBounds_toArray, List.set_cons_zero, List.set_cons_succ]
            refine take_d 9 (some 51) (.int .i64 (i : Int)) rfl (by kernel_rfl) (by kernel_rfl) (by kernel_rfl) (fun _ _ _ h => h) (fun oi h => by cases h; exact Or.inl ⟨by rfl, fun w' hS' => by go_simp⟩) hHeld ?_
            try simp only [Act.put, List.setIfInBounds_toArray, List.set_cons_zero, List.set_cons_succ]
            refine take_d 10 (some 52) (.int .i64 (m : Int)) rfl (by kernel_rfl) (by kernel_rfl) (by kernel_rfl) (fun _ _ _ h => h) (fun oi h => by cases h; exact Or.inl ⟨by rfl, fun w' hS' => by go_simp⟩) hHeld ?_
            try simp only [Act.put, List.setIfInBounds_toArray, List.set_cons_zero, List.set_cons_succ]
            refine take_d 11 (some 53) (.pointer (some ⟨gw, q * 4, none⟩)) rfl (by kernel_rfl) (by kernel_rfl) (by kernel_rfl) (fun _ _ _ h => h) (fun oi h => by cases h; exact Or.inl ⟨by rfl, fun w' hS' => by go_simp⟩) hHeld ?_
            try simp only [Act.put, List.setIfInBounds_toArray, List.set_cons_zero, List.set_cons_succ]
            refine take_d 12 (some 54) (.pointer (some ⟨gw, q * 4 + m, none⟩)) rfl (by kernel_rfl) (by kernel_rfl) (by kernel_rfl) (fun _ _ _ h => h) (fun oi h => by cases h; exact Or.inl ⟨by rfl, fun w' hS' => by go_simp⟩) hHeld ?_
            try simp only [Act.put, List.setIfInBounds_toArray, List.set_cons_zero, List.set_cons_succ]
            refine take_d 13 (some 55) (.int .u8 (z.toNat : Int)) rfl (by kernel_rfl) (by kernel_rfl) (by kernel_rfl) (fun _ _ _ h => h) (fun oi h => by cases h; exact Or.inl ⟨by rfl, fun w' hS' => by have c := hS'.2; go_simp⟩) hHeld ?_
            try simp only [Act.put, List.setIfInBounds_toArray, List.set_cons_zero, List.set_cons_succ]
            refine take_d 14 (some 56) (.bool false) rfl (by kernel_rfl) (by kernel_rfl) (by kernel_rfl) (fun _ _ _ h => h) (fun oi h => by cases h; exact Or.inl ⟨by rfl, fun w' hS' => by go_simp⟩) hHeld ?_
            try simp only [Act.put, List.setIfInBounds_toArray, List.set_cons_zero, List.set_cons_succ]
            clear hHeld
            refine wpAnyH_done (by kernel_rfl) ?_ _
            try simp only [Act.put]
            clear cx cw hm hm' hd hwc hw1 hw2 hq44 hr4
            have rx' := rx.drew
            have hbx' := hbx.drew
            go_wp2
            go_roundw
            case rel => exact ⟨i + 1, by omega, by go_num, rx', hbx'⟩
            case measure => simp [intOf]; omega
          · have hsi : ¬ (i : Int) < 16 := by omega
            go_wp2
            go_roundw
            case rel => exact ⟨r + 1, by omega, by go_num, hbx⟩
            case measure => simp [intOf]; omega
      · have hsr : ¬ (r : Int) < 11 := by omega
        have rk9 := Row.below rk8 hbq rk8.lt
        have rb9 := Row.below rb8 hbq rb8.lt
        have hw9 := hw8.trans (hbq.mono hw8.size)
        clear hbq rk8 rb8 hw8 HKW HPK HAT HRL hr hr11
        go_wp2_with fail
        refine wp_region_held_drew (S := fun w' => w'.rangeAt gk 0 (W.cellsOf k) ∧ w'.rangeAt w.heap.size 0 (W.cellsOf b)) (by kernel_rfl) ⟨lk.out _ rk9.drew, lb.out _ rb9.drew⟩ (fun hHeld => ?_)
        refine take_d 0 (some 59) (.agg (W.cellsOf k).toArray) rfl (by kernel_rfl) (by kernel_rfl) (by kernel_rfl) (fun _ _ _ h => h) (fun oi h => by cases h; exact yieldsIf_load_mid (by rfl) 26 (.tmp 5) rfl gk 0 rfl (W.cellsOf k) _ (fun w' hS' => hS'.1) huk rfl hik') hHeld ?_
        try simp only [Act.put, List.setIfInBounds_toArray, List.set_cons_zero, List.set_cons_succ]
        refine take_d 1 (some 60) (.agg (W.cellsOf b).toArray) rfl (by kernel_rfl) (by kernel_rfl) (by kernel_rfl) (fun _ _ _ h => h) (fun oi h => by cases h; exact yieldsIf_load_mid (by rfl) 23 (.tmp 3) rfl w.heap.size 0 rfl (W.cellsOf b) _ (fun w' hS' => hS'.2) hu1 rfl hib) hHeld ?_
        try simp only [Act.put, List.setIfInBounds_toArray, List.set_cons_zero, List.set_cons_succ]
        refine take_d 3 (some 62) (.string a0) rfl (by kernel_rfl) (by kernel_rfl) (by kernel_rfl) (fun _ _ _ h => h) (fun oi h => by cases h; exact Or.inl ⟨by rfl, fun w' hS' => by go_simp⟩) hHeld ?_
        try simp only [Act.put, List.setIfInBounds_toArray, List.set_cons_zero, List.set_cons_succ]
        refine take_d 4 (some 63) (.agg (W.cellsOf b).toArray) rfl (by kernel_rfl) (by kernel_rfl) (by kernel_rfl) (fun _ _ _ h => h) (fun oi h => by cases h; exact yieldsIf_load_mid (by rfl) 23 (.tmp 3) rfl w.heap.size 0 rfl (W.cellsOf b) _ (fun w' hS' => hS'.2) hu1 rfl hib) hHeld ?_
        try simp only [Act.put, List.setIfInBounds_toArray, List.set_cons_zero, List.set_cons_succ]
        have rkD := rk9.drew
        have rbD := rb9.drew
        have hwD := hw9.drew
        clear rk9 rb9 hw9
        refine one_d 2 (some 61) rfl (by kernel_rfl) ?_
        intro o ho hd K' hK
        cases ho
        go_simp
        refine (CEN.out _).mono ?_
        rintro e wA ⟨rfl, bb⟩
        have rkE := Row.below rkD bb rkD.lt
        have rbE := Row.below rbD bb rbD.lt
        have hwE := hwD.trans (bb.mono hwD.size)
        clear bb hHeld hd rkD rbD hwD
        refine hK.out _ _ ⟨lk.out _ rkE, lb.out _ rbE⟩ (fun hHeld => ?_)
        clear hK K'
        try simp only [Act.put, List.setIfInBounds_toArray, List.set_cons_zero, List.set_cons_succ]
        refine one_d 5 (some 64) rfl (by kernel_rfl) ?_
        intro o ho hd K' hK
        cases ho
        go_simp
        refine (CRF.out _).mono ?_
        rintro e wB ⟨rfl, bb⟩
        have rkF := Row.below rkE bb rkE.lt
        have rbF := Row.below rbE bb rbE.lt
        have hwF := hwE.trans (bb.mono hwE.size)
        clear bb hHeld hd rkE rbE hwE
        refine hK.out _ _ ⟨lk.out _ rkF, lb.out _ rbF⟩ (fun hHeld => ?_)
        clear hK K'
        try simp only [Act.put, List.setIfInBounds_toArray, List.set_cons_zero, List.set_cons_succ]
        refine take_d 6 (some 65) (.bool true) rfl (by kernel_rfl) (by kernel_rfl) (by kernel_rfl) (fun _ _ _ h => h) (fun oi h => by cases h; exact Or.inl ⟨by rfl, fun w' hS' => by have heq := HEQ.out w'; go_simp⟩) hHeld ?_
        try simp only [Act.put, List.setIfInBounds_toArray, List.set_cons_zero, List.set_cons_succ]
        refine take_d 7 (some 4) (.bool true) rfl (by kernel_rfl) (by kernel_rfl) (by kernel_rfl) (fun _ _ _ h => h) (fun oi h => by cases h; exact Or.inl ⟨by rfl, fun w' hS' => by go_simp⟩) hHeld ?_
        try simp only [Act.put, List.setIfInBounds_toArray, List.set_cons_zero, List.set_cons_succ]
        clear hHeld
        refine wpAnyH_done (by kernel_rfl) ?_ _
        try simp only [Act.put]
        go_wp2
        go_ret
        exact ⟨rfl, hwF⟩

theorem walk (a0 : ByteArray) (a1 : List UInt8) (w : World) (w0 : a0.size ≤ maxLen) (w1 : a1.length = 16) :
    Calls Try.prog 3 #[.string a0, .agg (W.cellsOf a1).toArray] w fun e w' => e = .returned (.bool true) ∧ Below w.heap.size w w' := core a0 a1 w w0 w1

end Go.Proofs.Ytpkehhbjagmodaa.AesEncryptsW
