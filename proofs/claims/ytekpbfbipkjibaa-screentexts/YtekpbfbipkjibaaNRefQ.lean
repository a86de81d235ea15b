/-
  The document's side of layer 11: Parse.
-/
import Derived.Test.YtekpbfbipkjibaaNIs
import Derived.Test.YtekpbfbipkjibaaNWhole
import Derived.Test.YtekpbfbipkjibaaSTake
namespace Go.Proofs.Ytekpbfbipkjibaa
open Go.RowKit
set_option linter.unusedVariables false
set_option maxRecDepth 20000

set_option maxHeartbeats 8000000 in
theorem refParse_yes (t : ByteArray) (h : 4 ≤ t.size) (hs : t.size ≤ 100000) (wd ht x y : Nat) (e0 : (t[0]'(by omega)).toNat = wd) (e1 : (t[1]'(by omega)).toNat = ht) (e2 : (t[2]'(by omega)).toNat = x) (e3 : (t[3]'(by omega)).toNat = y) (h1 : ¬ wd < 1) (h2 : ¬ 80 < wd) (h3 : ¬ ht < 1) (h4 : ¬ 24 < ht) (h5 : t.size = 4 + wd * ht) (h6 : ¬ wd ≤ x) (h7 : ¬ ht ≤ y) (h8 : (t.data.toList.drop 4).all N11.shown = true) (w : World) :
    Calls Try.prog 19 #[.string t] w fun e w' => ∃ gq cap, e = .returned (.tuple #[.agg #[.int .i64 wd, .int .i64 ht, .int .i64 x, .int .i64 y, .slice (some ⟨gq, 0, none⟩) ht cap], .bool true]) ∧ w'.ownsRow 0 9 1 (.slice (some ⟨gq, 0, none⟩) ht cap) ht (txt (N11.rows wd ht (t.data.toList.drop 4))) ∧ Below w.heap.size w w' := by
  have l0 : wd < 256 := by rw [← e0]; exact UInt8.toNat_lt _
  have l1 : ht < 256 := by rw [← e1]; exact UInt8.toNat_lt _
  have l2 : x < 256 := by rw [← e2]; exact UInt8.toNat_lt _
  have l3 : y < 256 := by rw [← e3]; exact UInt8.toNat_lt _
  have g0 : ¬ (t.size : Int) < 4 := by omega
  have m0 : (0 : Nat) < t.size := by omega
  have m1 : 1 < t.size := by omega
  have m2 : 2 < t.size := by omega
  have m3 : 3 < t.size := by omega
  have i1 : (1 : Int) < (t.size : Int) := by omega
  have i2 : (2 : Int) < (t.size : Int) := by omega
  have i3 : (3 : Int) < (t.size : Int) := by omega
  have w0 : IntKind.i64.wrap (wd : Int) = (wd : Int) := by rw [IntKind.wrap_i64]; omega
  have w1 : IntKind.i64.wrap (ht : Int) = (ht : Int) := by rw [IntKind.wrap_i64]; omega
  have w2 : IntKind.i64.wrap (x : Int) = (x : Int) := by rw [IntKind.wrap_i64]; omega
  have w3 : IntKind.i64.wrap (y : Int) = (y : Int) := by rw [IntKind.wrap_i64]; omega
  have rz : Row (w.alloc (.cells #[.int .i64 0, .int .i64 0, .int .i64 0, .int .i64 0, .slice none 0 0] 33 (0, 0))) w.heap.size 33 [.int .i64 0, .int .i64 0, .int .i64 0, .int .i64 0, .slice none 0 0] := Row.new' rfl rfl
  have bz : Below w.heap.size w (w.alloc (.cells #[.int .i64 0, .int .i64 0, .int .i64 0, .int .i64 0, .slice none 0 0] 33 (0, 0))) := (Below.refl _ _).alloc (Nat.le_refl _) _
  have t1 : ¬ (wd : Int) < 1 := by omega
  have t2 : ¬ (80 : Int) < (wd : Int) := by omega
  have t3 : ¬ (ht : Int) < 1 := by omega
  have t4 : ¬ (24 : Int) < (ht : Int) := by omega
  obtain ⟨n, hn⟩ : ∃ n, n = wd * ht := ⟨_, rfl⟩
  have hn19 : n ≤ 80 * 24 := by rw [hn]; exact Nat.mul_le_mul (by omega) (by omega)
  obtain ⟨n4, hn4⟩ : ∃ n4, n4 = 4 + n := ⟨_, rfl⟩
  have em : (wd : Int) * (ht : Int) = (n : Int) := by rw [hn]; simp
  have wm : IntKind.i64.wrap (n : Int) = (n : Int) := by rw [IntKind.wrap_i64]; omega
  have em4 : (4 : Int) + (n : Int) = (n4 : Int) := by omega
  have wm4 : IntKind.i64.wrap (n4 : Int) = (n4 : Int) := by rw [IntKind.wrap_i64]; omega
  rw [← hn] at h5
  have t5 : ((t.size : Int) != (n4 : Int)) = false := by rw [bne_eq_false_iff_eq]; omega
  have t6 : ¬ (wd : Int) ≤ (x : Int) := by omega
  have t7 : ¬ (ht : Int) ≤ (y : Int) := by omega
  have h8' : ∀ i, 4 ≤ i → i < t.size → N11.shown (t.data.toList.getD i 0) = true := fun i h4i hi => by
    have hi' : i < t.data.toList.length := by simpa using hi
    rw [List.getD_eq_getElem?_getD, List.getElem?_eq_getElem hi', Option.getD_some]
    have := List.all_eq_true.1 h8 (t.data.toList[i]) (by
      have : (t.data.toList.drop 4)[i - 4]? = some t.data.toList[i] := by rw [List.getElem?_drop, show 4 + (i - 4) = i by omega, List.getElem?_eq_getElem hi']
      exact List.mem_of_getElem? this)
    exact this
  have HN := Lib.hid hn
  have HS5 := Lib.hid h5
  clear hn hn4 h5
  have H8 : Hid (∀ i, 4 ≤ i → i < t.size → N11.shown (t.data.toList.getD i 0) = true) := h8'
  clear h8'
  obtain ⟨i0, hi0, hz0, hz1, hz2⟩ := infoN infoStrN
  go_enter Try.func19, Try.ntmps19
  go_wp2
  generalize w.alloc (.cells #[.int .i64 0, .int .i64 0, .int .i64 0, .int .i64 0, .slice none 0 0] 33 (0, 0)) = w4 at *
  refine wp_region_held_drew (S := fun w' => Row w' w.heap.size 33 [.int .i64 0, .int .i64 0, .int .i64 0, .int .i64 0, .slice none 0 0] ∧ Below w.heap.size w w') (by kernel_rfl) (⟨rz.drew, bz.drew⟩) (fun hHeld => ?_)
  refine take_d 0 (some 13) (.string t) rfl (by kernel_rfl) (by kernel_rfl) (by kernel_rfl) (fun _ _ _ h => h) (fun oi h => by cases h; exact Or.inl ⟨by rfl, fun w' hS' => by go_simp⟩) hHeld ?_
  try simp only [Act.put, List.setIfInBounds_toArray, List.set_cons_zero, List.set_cons_succ]
  refine take_d 1 (some 14) (.int .u8 (wd : Int)) rfl (by kernel_rfl) (by kernel_rfl) (by kernel_rfl) (fun _ _ _ h => h) (fun oi h => by cases h; exact Or.inl ⟨by rfl, fun w' hS' => by go_simp⟩) hHeld ?_
  try simp only [Act.put, List.setIfInBounds_toArray, List.set_cons_zero, List.set_cons_succ]
  refine take_d 2 (some 15) (.int .i64 (wd : Int)) rfl (by kernel_rfl) (by kernel_rfl) (by kernel_rfl) (fun _ _ _ h => h) (fun oi h => by cases h; exact Or.inl ⟨by rfl, fun w' hS' => by go_simp⟩) hHeld ?_
  try simp only [Act.put, List.setIfInBounds_toArray, List.set_cons_zero, List.set_cons_succ]
  refine take_d 3 (some 16) (.string t) rfl (by kernel_rfl) (by kernel_rfl) (by kernel_rfl) (fun _ _ _ h => h) (fun oi h => by cases h; exact Or.inl ⟨by rfl, fun w' hS' => by go_simp⟩) hHeld ?_
  try simp only [Act.put, List.setIfInBounds_toArray, List.set_cons_zero, List.set_cons_succ]
  refine take_d 4 (some 17) (.int .u8 (ht : Int)) rfl (by kernel_rfl) (by kernel_rfl) (by kernel_rfl) (fun _ _ _ h => h) (fun oi h => by cases h; exact Or.inl ⟨by rfl, fun w' hS' => by go_simp⟩) hHeld ?_
  try simp only [Act.put, List.setIfInBounds_toArray, List.set_cons_zero, List.set_cons_succ]
  refine take_d 5 (some 18) (.int .i64 (ht : Int)) rfl (by kernel_rfl) (by kernel_rfl) (by kernel_rfl) (fun _ _ _ h => h) (fun oi h => by cases h; exact Or.inl ⟨by rfl, fun w' hS' => by go_simp⟩) hHeld ?_
  try simp only [Act.put, List.setIfInBounds_toArray, List.set_cons_zero, List.set_cons_succ]
  refine take_d 6 (some 4) (.int .i64 (wd : Int)) rfl (by kernel_rfl) (by kernel_rfl) (by kernel_rfl) (fun _ _ _ h => h) (fun oi h => by cases h; exact Or.inl ⟨by rfl, fun w' hS' => by go_simp⟩) hHeld ?_
  try simp only [Act.put, List.setIfInBounds_toArray, List.set_cons_zero, List.set_cons_succ]
  refine take_d 7 (some 5) (.int .i64 (ht : Int)) rfl (by kernel_rfl) (by kernel_rfl) (by kernel_rfl) (fun _ _ _ h => h) (fun oi h => by cases h; exact Or.inl ⟨by rfl, fun w' hS' => by go_simp⟩) hHeld ?_
  try simp only [Act.put, List.setIfInBounds_toArray, List.set_cons_zero, List.set_cons_succ]
  refine wpAnyH_done (by kernel_rfl) ?_ _
  try simp only [Act.put]
  have rz := hHeld.1
  have bz := hHeld.2
  go_wp2
  generalize w4.drew = w5 at *
  refine wp_region_held_drew (S := fun w' => Row w' w.heap.size 33 [.int .i64 0, .int .i64 0, .int .i64 0, .int .i64 0, .slice none 0 0] ∧ Below w.heap.size w w') (by kernel_rfl) (⟨rz.drew, bz.drew⟩) (fun hHeld => ?_)
  refine take_d 0 (some 19) (.int .i64 wd) rfl (by kernel_rfl) (by kernel_rfl) (by kernel_rfl) (fun _ _ _ h => h) (fun oi h => by cases h; exact Or.inl ⟨by rfl, fun w' hS' => by go_simp⟩) hHeld ?_
  try simp only [Act.put, List.setIfInBounds_toArray, List.set_cons_zero, List.set_cons_succ]
  refine take_d 1 (some 20) (.int .i64 ht) rfl (by kernel_rfl) (by kernel_rfl) (by kernel_rfl) (fun _ _ _ h => h) (fun oi h => by cases h; exact Or.inl ⟨by rfl, fun w' hS' => by go_simp⟩) hHeld ?_
  try simp only [Act.put, List.setIfInBounds_toArray, List.set_cons_zero, List.set_cons_succ]
  refine take_d 2 (some 21) (.string t) rfl (by kernel_rfl) (by kernel_rfl) (by kernel_rfl) (fun _ _ _ h => h) (fun oi h => by cases h; exact Or.inl ⟨by rfl, fun w' hS' => by go_simp⟩) hHeld ?_
  try simp only [Act.put, List.setIfInBounds_toArray, List.set_cons_zero, List.set_cons_succ]
  refine take_d 3 (some 22) (.int .u8 (x : Int)) rfl (by kernel_rfl) (by kernel_rfl) (by kernel_rfl) (fun _ _ _ h => h) (fun oi h => by cases h; exact Or.inl ⟨by rfl, fun w' hS' => by go_simp⟩) hHeld ?_
  try simp only [Act.put, List.setIfInBounds_toArray, List.set_cons_zero, List.set_cons_succ]
  refine take_d 4 (some 23) (.int .i64 (x : Int)) rfl (by kernel_rfl) (by kernel_rfl) (by kernel_rfl) (fun _ _ _ h => h) (fun oi h => by cases h; exact Or.inl ⟨by rfl, fun w' hS' => by go_simp⟩) hHeld ?_
  try simp only [Act.put, List.setIfInBounds_toArray, List.set_cons_zero, List.set_cons_succ]
  refine take_d 5 (some 24) (.string t) rfl (by kernel_rfl) (by kernel_rfl) (by kernel_rfl) (fun _ _ _ h => h) (fun oi h => by cases h; exact Or.inl ⟨by rfl, fun w' hS' => by go_simp⟩) hHeld ?_
  try simp only [Act.put, List.setIfInBounds_toArray, List.set_cons_zero, List.set_cons_succ]
  refine take_d 6 (some 25) (.int .u8 (y : Int)) rfl (by kernel_rfl) (by kernel_rfl) (by kernel_rfl) (fun _ _ _ h => h) (fun oi h => by cases h; exact Or.inl ⟨by rfl, fun w' hS' => by go_simp⟩) hHeld ?_
  try simp only [Act.put, List.setIfInBounds_toArray, List.set_cons_zero, List.set_cons_succ]
  refine take_d 7 (some 26) (.int .i64 (y : Int)) rfl (by kernel_rfl) (by kernel_rfl) (by kernel_rfl) (fun _ _ _ h => h) (fun oi h => by cases h; exact Or.inl ⟨by rfl, fun w' hS' => by go_simp⟩) hHeld ?_
  try simp only [Act.put, List.setIfInBounds_toArray, List.set_cons_zero, List.set_cons_succ]
  refine take_d 8 (some 27) (.agg #[.int .i64 wd, .int .i64 ht, .int .i64 x, .int .i64 y, .slice none 0 0]) rfl (by kernel_rfl) (by kernel_rfl) (by kernel_rfl) (fun _ _ _ h => h) (fun oi h => by cases h; exact Or.inl ⟨by rfl, fun w' hS' => by go_simp⟩) hHeld ?_
  try simp only [Act.put, List.setIfInBounds_toArray, List.set_cons_zero, List.set_cons_succ]
  refine one_d 9 (some 6) rfl (by kernel_rfl) ?_
  intro o ho1 hd
  cases ho1
  clear hd
  have lz : w.heap.size < w5.heap.size := hHeld.1.lt
  intro K hK
  go_simp
  refine hK.out _ _ ⟨hHeld.1.alloc _, hHeld.2.alloc hHeld.2.size _⟩ (fun hHeld => ?_)
  clear hK K
  try simp only [Act.put, List.setIfInBounds_toArray, List.set_cons_zero, List.set_cons_succ]
  have rp : Row (w5.alloc (.cells #[.int .i64 0, .int .i64 0, .int .i64 0, .int .i64 0, .slice none 0 0] 33 (0, 0))).drew w5.heap.size 33 [.int .i64 0, .int .i64 0, .int .i64 0, .int .i64 0, .slice none 0 0] := Row.new' rfl rfl
  generalize w5.heap.size = p at *
  generalize (w5.alloc (.cells #[.int .i64 0, .int .i64 0, .int .i64 0, .int .i64 0, .slice none 0 0] 33 (0, 0))).drew = v2 at *
  refine one_d 10 none rfl (by kernel_rfl) ?_
  intro o ho1 hd K hK
  cases ho1
  refine step_store_row rfl 33 (.tmp 6) (.tmp 27) rfl p [.int .i64 wd, .int .i64 ht, .int .i64 x, .int .i64 y, .slice none 0 0] rfl rfl _ _ rp infoRS rfl (by simp [Value.oneCell']) ?_
  rw [hd]
  have hz := hHeld.1.setRow_other (k := p) (by omega) (List.toArray [.int .i64 wd, .int .i64 ht, .int .i64 x, .int .i64 y, .slice none 0 0])
  have rp2 := rp.setRow [.int .i64 wd, .int .i64 ht, .int .i64 x, .int .i64 y, .slice none 0 0]
  have bl := below_row hHeld.2 (show w.heap.size ≤ p by omega) (List.toArray [.int .i64 wd, .int .i64 ht, .int .i64 x, .int .i64 y, .slice none 0 0])
  refine hK.out _ _ ⟨hz, bl⟩ (fun hHeld => ?_)
  clear hK K hd hHeld rp
  try simp only [Act.put]
  refine wpAnyH_done (by kernel_rfl) ?_ _
  try simp only [Act.put]
  have c2 := rp2.cell 2
  have c3 := rp2.cell 3
  simp only [List.getElem?_cons_zero, List.getElem?_cons_succ] at c2 c3
  generalize v2.setRow p (List.toArray [.int .i64 wd, .int .i64 ht, .int .i64 x, .int .i64 y, .slice none 0 0]) = w7 at *
  go_wp2
  go_loopw [7] (fun iv wr => ∃ i : Nat, 4 ≤ i ∧ i ≤ t.size ∧ iv = .int .i64 i ∧ Hid (∀ j, 4 ≤ j → j < i → N11.shown (t.data.toList.getD j 0) = true) ∧ wr = w7) (fun iv _ => t.size - (intOf iv).toNat)
  case atStart => exact ⟨4, Nat.le_refl _, h, rfl, fun j h1 h2 => by omega, rfl⟩
  case round =>
    obtain ⟨i, hi4, hi, rfl, HSH, rfl⟩ := hrel
    by_cases hlt : i < t.size
    · have hsi : (i : Int) < t.size := by omega
      have hat : t.data.toList.getD i 0 = t[i] := by
        have h' : i < t.data.toList.length := by simpa using hlt
        rw [List.getD_eq_getElem?_getD, List.getElem?_eq_getElem h']; rfl
      by_cases u1 : t[i].toNat < 32
      · have v1 : (t[i].toNat : Int) < 32 := by omega
        exfalso
        have hd := H8.out i hi4 hlt
        rw [hat] at hd
        unfold N11.shown at hd
        simp only [Bool.and_eq_true, decide_eq_true_eq] at hd
        omega
      · have v1 : ¬ (t[i].toNat : Int) < 32 := by omega
        by_cases u2 : 126 < t[i].toNat
        · have v2 : (126 : Int) < (t[i].toNat : Int) := by omega
          exfalso
          have hd := H8.out i hi4 hlt
          rw [hat] at hd
          unfold N11.shown at hd
          simp only [Bool.and_eq_true, decide_eq_true_eq] at hd
          omega
        · have v2 : ¬ (126 : Int) < (t[i].toNat : Int) := by omega
          have HSH' : Hid (∀ j, 4 ≤ j → j < i + 1 → N11.shown (t.data.toList.getD j 0) = true) := fun j hj4 hj => by
            by_cases hji : j < i
            · exact HSH.out j hj4 hji
            · obtain rfl : j = i := by omega
              rw [hat]; unfold N11.shown; simp; omega
          clear hat HSH
          go_wp2
          go_roundw
          case rel => exact ⟨i + 1, by omega, by omega, by go_num, HSH', by first | rfl | trivial⟩
          case measure => simp [intOf]; omega
    · obtain rfl : i = t.size := by omega
      clear HSH c2 c3
      go_wp2
      obtain ⟨wo, rfl⟩ : ∃ wo : World, wo = wr := ⟨_, rfl⟩
      go_loopw [8] (fun iv wq => ∃ (k : Nat) (v : Value), k ≤ ht ∧ iv = .int .i64 k ∧ Row wq w.heap.size 33 [.int .i64 0, .int .i64 0, .int .i64 0, .int .i64 0, .slice none 0 0] ∧ Row wq p 33 [.int .i64 wd, .int .i64 ht, .int .i64 x, .int .i64 y, v] ∧ wq.ownsRow (p + 1) 9 1 v k (txt (N11.rows wd k (t.data.toList.drop 4))) ∧ Below w.heap.size w wq) (fun iv _ => ht - (intOf iv).toNat)
      case atStart => exact ⟨0, .slice none 0 0, Nat.zero_le _, rfl, hz, rp2, World.ownsRow_nil _ _ _ _, bl⟩
      case round =>
        clear hz rp2 bl
        obtain ⟨k, v, hk, rfl, hz, rp2, ho, bl⟩ := hrel
        by_cases hkt : k < ht
        · have hks : (k : Int) < ht := by omega
          have c4 := rp2.cell 4
          simp only [List.getElem?_cons_zero, List.getElem?_cons_succ] at c4
          have hfit : k * wd + wd ≤ wd * ht := N11.row_le hkt
          obtain ⟨a, ha⟩ : ∃ a, a = k * wd := ⟨_, rfl⟩
          obtain ⟨lo, hlo⟩ : ∃ lo, lo = 4 + a := ⟨_, rfl⟩
          obtain ⟨j, hj⟩ : ∃ j, j = k + 1 := ⟨_, rfl⟩
          obtain ⟨b, hb⟩ : ∃ b, b = j * wd := ⟨_, rfl⟩
          obtain ⟨hh, hhh⟩ : ∃ hh, hh = 4 + b := ⟨_, rfl⟩
          have hab : b = a + wd := by rw [hb, hj, Nat.add_mul, Nat.one_mul, ha]
          have hs5 := HS5.out
          have hn' := HN.out
          have x1 : (k : Int) * (wd : Int) = (a : Int) := by rw [ha]; simp
          have x2 : IntKind.i64.wrap (a : Int) = (a : Int) := by rw [IntKind.wrap_i64]; omega
          have x3 : (4 : Int) + (a : Int) = (lo : Int) := by omega
          have x4 : IntKind.i64.wrap (lo : Int) = (lo : Int) := by rw [IntKind.wrap_i64]; omega
          have x5 : (k : Int) + 1 = (j : Int) := by omega
          have x6 : IntKind.i64.wrap (j : Int) = (j : Int) := by rw [IntKind.wrap_i64]; omega
          have x7 : (j : Int) * (wd : Int) = (b : Int) := by rw [hb]; simp
          have x8 : IntKind.i64.wrap (b : Int) = (b : Int) := by rw [IntKind.wrap_i64]; omega
          have x9 : (4 : Int) + (b : Int) = (hh : Int) := by omega
          have x10 : IntKind.i64.wrap (hh : Int) = (hh : Int) := by rw [IntKind.wrap_i64]; omega
          have y1 : ¬ (t.size : Int) < (hh : Int) := by omega
          have y2 : ¬ (hh : Int) < (lo : Int) := by omega
          have y3 : hh ≤ t.size := by omega
          have y4 : lo ≤ hh := by omega
          obtain ⟨RQ, hRQ⟩ : ∃ RQ : ByteArray, RQ = ⟨(N11.row wd (t.data.toList.drop 4) k).toArray⟩ := ⟨_, rfl⟩
          have hX : t.extract lo hh = RQ := by
            rw [hRQ]
            apply ByteArray.ext
            apply Array.ext'
            unfold N11.row
            rw [ByteArray.data_extract, Array.toList_extract, List.extract_eq_take_drop, List.drop_drop, hlo, hhh, hab, ha, show 4 + (k * wd + wd) - (4 + k * wd) = wd by omega]
          have HTK : Hid (txt (N11.rows wd k (t.data.toList.drop 4)) ++ [.string RQ] = txt (N11.rows wd (k + 1) (t.data.toList.drop 4))) := by
            show _ = _
            rw [show N11.rows wd (k + 1) (t.data.toList.drop 4) = N11.rows wd k (t.data.toList.drop 4) ++ [N11.row wd (t.data.toList.drop 4) k] from by simp [N11.rows, List.range_succ], txt_snoc, hRQ]
          have c4a := (rp2.alloc (.cells #[.string RQ] 9 (0, 0))).cell 4
          simp only [List.getElem?_cons_zero, List.getElem?_cons_succ] at c4a
          clear ha hlo hj hb hhh hab hs5 hn' hRQ hfit
          go_wp2
          refine wp_region_held_drew (S := fun w' => Below w.heap.size w w') (by kernel_rfl) (bl.drew) (fun hHeld => ?_)
          refine take_d 0 (some 86) (.pointer (some ⟨p, 4, none⟩)) rfl (by kernel_rfl) (by kernel_rfl) (by kernel_rfl) (fun _ _ _ h => h) (fun oi h => by cases h; exact Or.inl ⟨by rfl, fun w' hS' => by go_simp⟩) hHeld ?_
          try simp only [Act.put, List.setIfInBounds_toArray, List.set_cons_zero, List.set_cons_succ]
          refine take_d 2 (some 88) (.string t) rfl (by kernel_rfl) (by kernel_rfl) (by kernel_rfl) (fun _ _ _ h => h) (fun oi h => by cases h; exact Or.inl ⟨by rfl, fun w' hS' => by go_simp⟩) hHeld ?_
          try simp only [Act.put, List.setIfInBounds_toArray, List.set_cons_zero, List.set_cons_succ]
          refine take_d 3 (some 89) (.int .i64 k) rfl (by kernel_rfl) (by kernel_rfl) (by kernel_rfl) (fun _ _ _ h => h) (fun oi h => by cases h; exact Or.inl ⟨by rfl, fun w' hS' => by go_simp⟩) hHeld ?_
          try simp only [Act.put, List.setIfInBounds_toArray, List.set_cons_zero, List.set_cons_succ]
          refine take_d 4 (some 90) (.int .i64 wd) rfl (by kernel_rfl) (by kernel_rfl) (by kernel_rfl) (fun _ _ _ h => h) (fun oi h => by cases h; exact Or.inl ⟨by rfl, fun w' hS' => by go_simp⟩) hHeld ?_
          try simp only [Act.put, List.setIfInBounds_toArray, List.set_cons_zero, List.set_cons_succ]
          refine take_d 5 (some 91) (.int .i64 (a : Int)) rfl (by kernel_rfl) (by kernel_rfl) (by kernel_rfl) (fun _ _ _ h => h) (fun oi h => by cases h; exact Or.inl ⟨by rfl, fun w' hS' => by go_simp⟩) hHeld ?_
          try simp only [Act.put, List.setIfInBounds_toArray, List.set_cons_zero, List.set_cons_succ]
          refine take_d 6 (some 92) (.int .i64 (lo : Int)) rfl (by kernel_rfl) (by kernel_rfl) (by kernel_rfl) (fun _ _ _ h => h) (fun oi h => by cases h; exact Or.inl ⟨by rfl, fun w' hS' => by go_simp⟩) hHeld ?_
          try simp only [Act.put, List.setIfInBounds_toArray, List.set_cons_zero, List.set_cons_succ]
          refine take_d 7 (some 93) (.int .i64 k) rfl (by kernel_rfl) (by kernel_rfl) (by kernel_rfl) (fun _ _ _ h => h) (fun oi h => by cases h; exact Or.inl ⟨by rfl, fun w' hS' => by go_simp⟩) hHeld ?_
          try simp only [Act.put, List.setIfInBounds_toArray, List.set_cons_zero, List.set_cons_succ]
          refine take_d 8 (some 94) (.int .i64 (j : Int)) rfl (by kernel_rfl) (by kernel_rfl) (by kernel_rfl) (fun _ _ _ h => h) (fun oi h => by cases h; exact Or.inl ⟨by rfl, fun w' hS' => by go_simp⟩) hHeld ?_
          try simp only [Act.put, List.setIfInBounds_toArray, List.set_cons_zero, List.set_cons_succ]
          refine take_d 9 (some 95) (.int .i64 wd) rfl (by kernel_rfl) (by kernel_rfl) (by kernel_rfl) (fun _ _ _ h => h) (fun oi h => by cases h; exact Or.inl ⟨by rfl, fun w' hS' => by go_simp⟩) hHeld ?_
          try simp only [Act.put, List.setIfInBounds_toArray, List.set_cons_zero, List.set_cons_succ]
          refine take_d 10 (some 96) (.int .i64 (b : Int)) rfl (by kernel_rfl) (by kernel_rfl) (by kernel_rfl) (fun _ _ _ h => h) (fun oi h => by cases h; exact Or.inl ⟨by rfl, fun w' hS' => by go_simp⟩) hHeld ?_
          try simp only [Act.put, List.setIfInBounds_toArray, List.set_cons_zero, List.set_cons_succ]
          refine take_d 11 (some 97) (.int .i64 (hh : Int)) rfl (by kernel_rfl) (by kernel_rfl) (by kernel_rfl) (fun _ _ _ h => h) (fun oi h => by cases h; exact Or.inl ⟨by rfl, fun w' hS' => by go_simp⟩) hHeld ?_
          try simp only [Act.put, List.setIfInBounds_toArray, List.set_cons_zero, List.set_cons_succ]
          refine take_d 12 (some 98) (.string RQ) rfl (by kernel_rfl) (by kernel_rfl) (by kernel_rfl) (fun _ _ _ h => h) (fun oi h => by cases h; exact Or.inl ⟨by rfl, fun w' hS' => by go_simp⟩) hHeld ?_
          try simp only [Act.put, List.setIfInBounds_toArray, List.set_cons_zero, List.set_cons_succ]
          refine two_d 1 13 rfl rfl (by kernel_rfl) ?_ ?_
          · intro K hK
            go_simp
            refine hK.out _ _ hHeld (fun hHeld => ?_)
            clear hK K
            try simp only [Act.put, List.setIfInBounds_toArray, List.set_cons_zero, List.set_cons_succ]
            refine one_d 13 (some 99) rfl (by kernel_rfl) ?_
            intro o ho1 hd
            cases ho1
            clear hd
            intro K hK
            go_simp
            refine hK.out _ _ (hHeld.alloc hHeld.size _) (fun hHeld => ?_)
            clear hK K
            try simp only [Act.put, List.setIfInBounds_toArray, List.set_cons_zero, List.set_cons_succ]
            refine one_d 14 (some 100) rfl (by kernel_rfl) ?_
            intro o ho2 hd K hK
            cases ho2
            rw [if_pos (by rfl)]
            refine wp_append_own _ _ _ 31 rfl (p + 1) 9 i0 (.string ⟨#[]⟩) 1 16 Try.underlying31 hi0 hz0 hz1 hz2 rfl (by decide) v k _ rfl (ho.drew.alloc _) ⟨wr.heap.size, 0, none⟩ 1 1 [.string RQ] rfl rfl (by intro j u hj; match j, hj with | 0, hj => simp at hj; subst hj; simp [Addr.add]) (by intro u hu; simp at hu; subst hu; rfl) (by unfold maxLen; omega) (by omega) (by have := rp2.lt; simp; omega) ?_
            intro v' w6 ho6 hgrow hnil
            obtain ⟨g6, cap6, rfl, hg6, hlt6⟩ := World.ownsRow.form ho6 (by omega)
            have hb6 : Below (p + 1) (wr.drew.alloc (.cells #[.string RQ] 9 (0, 0))) w6 := (Below.refl _ _).grown hgrow (by have := rp2.lt; simp; omega) (fun k hk => ((ho.drew.alloc (.cells #[.string RQ] 9 (0, 0))).lt k hk).1)
            have s1 := (rp2.drew.alloc (.cells #[.string RQ] 9 (0, 0))).below hb6 (by omega)
            have s0 := (hz.drew.alloc (.cells #[.string RQ] 9 (0, 0))).below hb6 (by omega)
            have bb6 := (bl.drew.alloc bl.size (.cells #[.string RQ] 9 (0, 0))).trans (hb6.mono (by omega))
            clear hgrow hnil hb6
            rw [hd]
            refine hK.out _ _ bb6 (fun hHeld => ?_)
            clear hK K hd
            try simp only [Act.put, List.setIfInBounds_toArray, List.set_cons_zero, List.set_cons_succ]
            refine take_d 15 (some 101) (.pointer (some ⟨p, 4, none⟩)) rfl (by kernel_rfl) (by kernel_rfl) (by kernel_rfl) (fun _ _ _ h => h) (fun oi h => by cases h; exact Or.inl ⟨by rfl, fun w' hS' => by go_simp⟩) hHeld ?_
            try simp only [Act.put, List.setIfInBounds_toArray, List.set_cons_zero, List.set_cons_succ]
            refine one_d 16 none rfl (by kernel_rfl) ?_
            intro o ho3 hd K hK
            cases ho3
            have d4 := s1.cell 4
            have k4 := s1.frozen 4
            simp only [List.getElem?_cons_zero, List.getElem?_cons_succ] at d4
            have s1' : Row (w6.setCell ⟨p, 4, none⟩ (.slice (some ⟨g6, 0, none⟩) (k + 1) cap6)) p 33 [.int .i64 wd, .int .i64 ht, .int .i64 x, .int .i64 y, .slice (some ⟨g6, 0, none⟩) (k + 1) cap6] := s1.set 4 (.slice (some ⟨g6, 0, none⟩) (k + 1) cap6)
            have s0' := s0.other (k := p) (i := 4) (by omega) (.slice (some ⟨g6, 0, none⟩) (k + 1) cap6)
            have bb7 := bb6.setCell (p := ⟨p, 4, none⟩) (by show w.heap.size ≤ p; omega) (.slice (some ⟨g6, 0, none⟩) (k + 1) cap6)
            have ho7 : (w6.setCell ⟨p, 4, none⟩ (.slice (some ⟨g6, 0, none⟩) (k + 1) cap6)).ownsRow (p + 1) 9 1 (.slice (some ⟨g6, 0, none⟩) (k + 1) cap6) (k + 1) (txt (N11.rows wd k (t.data.toList.drop 4)) ++ [.string RQ]) := own_setCell ho6 (by omega)
            go_simp
            refine hK.out _ _ bb7 (fun hHeld => ?_)
            clear hK K hd hHeld d4 k4 s1 s0 bb6 ho6
            try simp only [Act.put]
            refine wpAnyH_done (by kernel_rfl) ?_ _
            try simp only [Act.put]
            rw [HTK.out] at ho7
            go_wp2
            go_roundw
            case rel => exact ⟨k + 1, .slice (some ⟨g6, 0, none⟩) (k + 1) cap6, by omega, by go_num, s0', s1', ho7, bb7⟩
            case measure => simp [intOf]; omega
          · intro K hK
            go_simp
            refine hK.out _ _ (hHeld.alloc hHeld.size _) (fun hHeld => ?_)
            clear hK K
            try simp only [Act.put, List.setIfInBounds_toArray, List.set_cons_zero, List.set_cons_succ]
            refine one_d 1 (some 87) rfl (by kernel_rfl) ?_
            intro o ho1 hd
            cases ho1
            clear hd
            intro K hK
            go_simp
            refine hK.out _ _ hHeld (fun hHeld => ?_)
            clear hK K
            try simp only [Act.put, List.setIfInBounds_toArray, List.set_cons_zero, List.set_cons_succ]
            refine one_d 14 (some 100) rfl (by kernel_rfl) ?_
            intro o ho2 hd K hK
            cases ho2
            rw [if_pos (by rfl)]
            refine wp_append_own _ _ _ 31 rfl (p + 1) 9 i0 (.string ⟨#[]⟩) 1 16 Try.underlying31 hi0 hz0 hz1 hz2 rfl (by decide) v k _ rfl (ho.drew.alloc _) ⟨wr.heap.size, 0, none⟩ 1 1 [.string RQ] rfl rfl (by intro j u hj; match j, hj with | 0, hj => simp at hj; subst hj; simp [Addr.add]) (by intro u hu; simp at hu; subst hu; rfl) (by unfold maxLen; omega) (by omega) (by have := rp2.lt; simp; omega) ?_
            intro v' w6 ho6 hgrow hnil
            obtain ⟨g6, cap6, rfl, hg6, hlt6⟩ := World.ownsRow.form ho6 (by omega)
            have hb6 : Below (p + 1) (wr.drew.alloc (.cells #[.string RQ] 9 (0, 0))) w6 := (Below.refl _ _).grown hgrow (by have := rp2.lt; simp; omega) (fun k hk => ((ho.drew.alloc (.cells #[.string RQ] 9 (0, 0))).lt k hk).1)
            have s1 := (rp2.drew.alloc (.cells #[.string RQ] 9 (0, 0))).below hb6 (by omega)
            have s0 := (hz.drew.alloc (.cells #[.string RQ] 9 (0, 0))).below hb6 (by omega)
            have bb6 := (bl.drew.alloc bl.size (.cells #[.string RQ] 9 (0, 0))).trans (hb6.mono (by omega))
            clear hgrow hnil hb6
            rw [hd]
            refine hK.out _ _ bb6 (fun hHeld => ?_)
            clear hK K hd
            try simp only [Act.put, List.setIfInBounds_toArray, List.set_cons_zero, List.set_cons_succ]
            refine take_d 15 (some 101) (.pointer (some ⟨p, 4, none⟩)) rfl (by kernel_rfl) (by kernel_rfl) (by kernel_rfl) (fun _ _ _ h => h) (fun oi h => by cases h; exact Or.inl ⟨by rfl, fun w' hS' => by go_simp⟩) hHeld ?_
            try simp only [Act.put, List.setIfInBounds_toArray, List.set_cons_zero, List.set_cons_succ]
            refine one_d 16 none rfl (by kernel_rfl) ?_
            intro o ho3 hd K hK
            cases ho3
            have d4 := s1.cell 4
            have k4 := s1.frozen 4
            simp only [List.getElem?_cons_zero, List.getElem?_cons_succ] at d4
            have s1' : Row (w6.setCell ⟨p, 4, none⟩ (.slice (some ⟨g6, 0, none⟩) (k + 1) cap6)) p 33 [.int .i64 wd, .int .i64 ht, .int .i64 x, .int .i64 y, .slice (some ⟨g6, 0, none⟩) (k + 1) cap6] := s1.set 4 (.slice (some ⟨g6, 0, none⟩) (k + 1) cap6)
            have s0' := s0.other (k := p) (i := 4) (by omega) (.slice (some ⟨g6, 0, none⟩) (k + 1) cap6)
            have bb7 := bb6.setCell (p := ⟨p, 4, none⟩) (by show w.heap.size ≤ p; omega) (.slice (some ⟨g6, 0, none⟩) (k + 1) cap6)
            have ho7 : (w6.setCell ⟨p, 4, none⟩ (.slice (some ⟨g6, 0, none⟩) (k + 1) cap6)).ownsRow (p + 1) 9 1 (.slice (some ⟨g6, 0, none⟩) (k + 1) cap6) (k + 1) (txt (N11.rows wd k (t.data.toList.drop 4)) ++ [.string RQ]) := own_setCell ho6 (by omega)
            go_simp
            refine hK.out _ _ bb7 (fun hHeld => ?_)
            clear hK K hd hHeld d4 k4 s1 s0 bb6 ho6
            try simp only [Act.put]
            refine wpAnyH_done (by kernel_rfl) ?_ _
            try simp only [Act.put]
            rw [HTK.out] at ho7
            go_wp2
            go_roundw
            case rel => exact ⟨k + 1, .slice (some ⟨g6, 0, none⟩) (k + 1) cap6, by omega, by go_num, s0', s1', ho7, bb7⟩
            case measure => simp [intOf]; omega
        · obtain rfl : ht = k := by omega
          obtain ⟨gq, cap, rfl, hgq, hlq⟩ := World.ownsRow.form ho (by omega)
          go_wp2_with (first | refine wpList_load_row rfl 33 (.tmp 6) rfl p rfl _ _ _ _ rp2 Try.underlying33 rfl infoRS ?_ | refine wpList_store_row rfl 33 (.tmp 2) (.tmp 102) rfl w.heap.size _ rfl rfl _ _ hz infoRS rfl (by simp [Value.oneCell']) ?_)
          refine bodyPost_ret (results_row_tmp rfl _ _ w.heap.size 33 [.int .i64 wd, .int .i64 ht, .int .i64 x, .int .i64 y, .slice (some ⟨gq, 0, none⟩) ht cap] _ rfl (hz.setRow [.int .i64 wd, .int .i64 ht, .int .i64 x, .int .i64 y, .slice (some ⟨gq, 0, none⟩) ht cap]) Try.underlying33 rfl infoRS) rfl ⟨gq, cap, rfl, ?_, below_row bl (Nat.le_refl _) _⟩
          exact own_setRow2 (own_monoN ho (Nat.zero_le _)) (by omega)

end Go.Proofs.Ytekpbfbipkjibaa
