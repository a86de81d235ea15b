/-
  ScreenPuts: the walk.
-/
import Derived.Test.YtekpbfbipkjibaaNAwake
import Derived.Test.YtekpbfbipkjibaaNIs
import Derived.Test.YtekpbfbipkjibaaSTake
import Derived.OpenShut
namespace Go.Proofs.Ytekpbfbipkjibaa
open Go.RowKit
set_option linter.unusedVariables false
set_option maxRecDepth 20000
namespace ScreenPutsW

structure Leaf (G : Prop) : Prop where
  out : G
theorem cut_here9 {G A : Prop} (h : Leaf G → A) (g : G) : A := h ⟨g⟩
theorem three_d {P : Program} {ops : Array Oper} {Q : Exit → Act → World → Prop} {md : Region.Mode} {S : World → Prop} (i j k : Nat) {fuel : Nat} {listed : Array Bool} {a : Act} {w : World} {oi oj ok : Oper} (hi : ops[i]? = some oi) (hj : ops[j]? = some oj) (hk : ops[k]? = some ok)
    (hr : Region.ready md ops listed = [i, j, k])
    (h1 : ∀ K' : Act → World → Prop, Shut (∀ a w, S w → (S w → wpAnyH P md ops Q S fuel (listed.setIfInBounds i true) a w) → K' a w) → if Region.wanted oi (yielded ops a.tmps) = true then Oper.wp P oi a w K' Q else K' (a.put oi.dst undef) w)
    (h2 : ∀ K' : Act → World → Prop, Shut (∀ a w, S w → (S w → wpAnyH P md ops Q S fuel (listed.setIfInBounds j true) a w) → K' a w) → if Region.wanted oj (yielded ops a.tmps) = true then Oper.wp P oj a w K' Q else K' (a.put oj.dst undef) w)
    (h3 : ∀ K' : Act → World → Prop, Shut (∀ a w, S w → (S w → wpAnyH P md ops Q S fuel (listed.setIfInBounds k true) a w) → K' a w) → if Region.wanted ok (yielded ops a.tmps) = true then Oper.wp P ok a w K' Q else K' (a.put ok.dst undef) w) :
    wpAnyH P md ops Q S (fuel + 1) listed a w :=
  wpAnyH_ready hr (by simp) (AllReadyH.cons hi h1 (AllReadyH.cons hj h2 (AllReadyH.cons hk h3 AllReadyH.nil)))

set_option maxHeartbeats 32000000 in
theorem core (wd ht : Nat) (a2 : ByteArray) (at_ : Nat) (w : World) (h1 : 1 ≤ wd) (h2 : wd ≤ 80) (h3 : 1 ≤ ht) (h4 : ht ≤ 24) (hs : a2.size ≤ 2000) (hat : at_ < 65536) :
    Calls Try.prog 3 #[.int .i64 wd, .int .i64 ht, .string a2, .int .u16 (at_ : Int)] w fun e w' => e = .returned (.bool true) ∧ Below w.heap.size w w' := by
  have hn19 : wd * ht ≤ 80 * 24 := Nat.mul_le_mul h2 h4
  obtain ⟨k, hk⟩ : ∃ k, k = at_ % (a2.size + 1) := ⟨_, rfl⟩
  have hkl : k ≤ a2.size := by have := Nat.mod_lt at_ (show 0 < a2.size + 1 by omega); omega
  obtain ⟨B0, hB0⟩ : ∃ B0 : ByteArray, B0 = ⟨(List.replicate (wd * ht) (32 : UInt8)).toArray⟩ := ⟨_, rfl⟩
  have C0 : Hid (∀ wx, Calls Try.prog 10 #[.int .i64 wd, .int .i64 ht] wx fun e w' => e = .returned (.tuple #[.agg #[.int .i64 wd, .int .i64 ht, .int .i64 0, .int .i64 0, .string B0], .int .i64 0]) ∧ Below wx.heap.size wx w') := fun wx => by
    rw [hB0]; exact scrNew_yes wd ht h1 h2 h3 h4 wx
  have OKn : N11.Ok wd ht (N11.new wd ht) := N11.new_ok h1 h3
  have OK := N11.put_ok a2.data.toList OKn
  have OKK := N11.put_ok (a2.extract 0 k).data.toList OKn
  have CP : Hid (∀ wx, Calls Try.prog 12 #[.agg #[.int .i64 wd, .int .i64 ht, .int .i64 0, .int .i64 0, .string B0], .string a2] wx fun e w' => e = .returned (.agg #[.int .i64 wd, .int .i64 ht, .int .i64 (N11.put wd ht (N11.new wd ht) a2.data.toList).x, .int .i64 (N11.put wd ht (N11.new wd ht) a2.data.toList).y, .string ⟨(N11.put wd ht (N11.new wd ht) a2.data.toList).c.toArray⟩]) ∧ Below wx.heap.size wx w') := fun wx => by
    have := put_any wd ht (N11.new wd ht) a2 wx h2 h4 OKn (by omega)
    rw [hB0]; exact this
  have CK1 : Hid (∀ wx, Calls Try.prog 12 #[.agg #[.int .i64 wd, .int .i64 ht, .int .i64 0, .int .i64 0, .string B0], .string (a2.extract 0 k)] wx fun e w' => e = .returned (.agg #[.int .i64 wd, .int .i64 ht, .int .i64 (N11.put wd ht (N11.new wd ht) (a2.extract 0 k).data.toList).x, .int .i64 (N11.put wd ht (N11.new wd ht) (a2.extract 0 k).data.toList).y, .string ⟨(N11.put wd ht (N11.new wd ht) (a2.extract 0 k).data.toList).c.toArray⟩]) ∧ Below wx.heap.size wx w') := fun wx => by
    have := put_any wd ht (N11.new wd ht) (a2.extract 0 k) wx h2 h4 OKn (by rw [ByteArray.size_extract]; omega)
    rw [hB0]; exact this
  have hparts : (a2.extract 0 k).data.toList ++ (a2.extract k a2.size).data.toList = a2.data.toList := by
    rw [ByteArray.data_extract, ByteArray.data_extract, Array.toList_extract, Array.toList_extract, List.extract_eq_take_drop, List.extract_eq_take_drop, List.drop_zero, Nat.sub_zero]
    rw [show List.take (a2.size - k) (List.drop k a2.data.toList) = List.drop k a2.data.toList from List.take_of_length_le (by rw [List.length_drop, show a2.data.toList.length = a2.size from by simp]; exact Nat.le_refl _), List.take_append_drop]
  obtain ⟨xk, yk, ck, hsk⟩ : ∃ x y c, N11.put wd ht (N11.new wd ht) (a2.extract 0 k).data.toList = ⟨x, y, c⟩ := ⟨_, _, _, rfl⟩
  obtain ⟨x, y, c, hst⟩ : ∃ x y c, N11.put wd ht (N11.new wd ht) a2.data.toList = ⟨x, y, c⟩ := ⟨_, _, _, rfl⟩
  have hsk2 : N11.put wd ht ⟨xk, yk, ck⟩ (a2.extract k a2.size).data.toList = ⟨x, y, c⟩ := by rw [← hsk, ← N11.put_append, hparts, hst]
  rw [hsk] at CK1 OKK
  rw [hst] at CP OK
  have hcl : c.length = wd * ht := OK.c
  obtain ⟨C1, hC1⟩ : ∃ C1 : ByteArray, C1 = ⟨c.toArray⟩ := ⟨_, rfl⟩
  obtain ⟨CK, hCK⟩ : ∃ CK : ByteArray, CK = ⟨ck.toArray⟩ := ⟨_, rfl⟩
  rw [← hC1] at CP
  rw [← hCK] at CK1
  have CK2 : Hid (∀ wx, Calls Try.prog 12 #[.agg #[.int .i64 wd, .int .i64 ht, .int .i64 xk, .int .i64 yk, .string CK], .string (a2.extract k a2.size)] wx fun e w' => e = .returned (.agg #[.int .i64 wd, .int .i64 ht, .int .i64 x, .int .i64 y, .string C1]) ∧ Below wx.heap.size wx w') := fun wx => by
    have := put_any wd ht ⟨xk, yk, ck⟩ (a2.extract k a2.size) wx h2 h4 OKK (by rw [ByteArray.size_extract]; omega)
    rw [hsk2] at this
    rw [hCK, hC1]; exact this
  have CRN : Hid (∀ wx, Calls Try.prog 14 #[.int .i64 wd, .int .i64 ht] wx fun e w' => ∃ gq cap, e = .returned (.agg #[.int .i64 wd, .int .i64 ht, .int .i64 0, .int .i64 0, .slice (some ⟨gq, 0, none⟩) ht cap]) ∧ w'.ownsRow wx.heap.size 9 1 (.slice (some ⟨gq, 0, none⟩) ht cap) ht (txt (N11.rows wd ht (List.replicate (wd * ht) 32))) ∧ Below wx.heap.size wx w') := fun wx => by
    rw [N11.rows_new]; exact refNew_any wd ht h1 h2 h3 h4 wx
  have CRP : Hid (∀ (gn capn : Nat) wx, wx.ownsRow 0 9 1 (.slice (some ⟨gn, 0, none⟩) ht capn) ht (txt (N11.rows wd ht (List.replicate (wd * ht) 32))) → Calls Try.prog 13 #[.agg #[.int .i64 wd, .int .i64 ht, .int .i64 0, .int .i64 0, .slice (some ⟨gn, 0, none⟩) ht capn], .string a2] wx fun e w' => ∃ gq cap, e = .returned (.agg #[.int .i64 wd, .int .i64 ht, .int .i64 x, .int .i64 y, .slice (some ⟨gq, 0, none⟩) ht cap]) ∧ w'.ownsRow 0 9 1 (.slice (some ⟨gq, 0, none⟩) ht cap) ht (txt (N11.rows wd ht c)) ∧ Below wx.heap.size wx w') := fun gn capn wx hx => by
    have := refPut_any wd ht (N11.new wd ht) a2 wx gn capn h1 h2 h3 h4 OKn (by omega) hx
    rw [hst] at this
    exact this
  have CIN : Hid (∀ (gn capn : Nat) wx, wx.ownsRow 0 9 1 (.slice (some ⟨gn, 0, none⟩) ht capn) ht (txt (N11.rows wd ht (List.replicate (wd * ht) 32))) → Calls Try.prog 15 #[.agg #[.int .i64 wd, .int .i64 ht, .int .i64 0, .int .i64 0, .string B0], .agg #[.int .i64 wd, .int .i64 ht, .int .i64 0, .int .i64 0, .slice (some ⟨gn, 0, none⟩) ht capn]] wx fun e w' => e = .returned (.bool true) ∧ Below wx.heap.size wx w') := fun gn capn wx hx => by
    rw [hB0]; exact is_any wd ht 0 0 gn capn (List.replicate (wd * ht) 32) wx h2 h3 h4 (by simp) hx
  have HC1 := Lib.hid hC1
  have e1 : (a2.size : Int) + 1 = ((a2.size + 1 : Nat) : Int) := by omega
  obtain ⟨m, hm⟩ : ∃ m, m = a2.size + 1 := ⟨_, rfl⟩
  rw [← hm] at e1 hk
  have w1 : IntKind.i64.wrap (m : Int) = (m : Int) := by rw [IntKind.wrap_i64]; omega
  have w2 : IntKind.i64.wrap (at_ : Int) = (at_ : Int) := by rw [IntKind.wrap_i64]; omega
  have e2 : (at_ : Int).tmod (m : Int) = (k : Int) := by rw [Int.tmod_eq_emod_of_nonneg (by omega), hk]; exact (Int.natCast_emod _ _).symm
  have e3 : (at_ : Int) % (m : Int) = (k : Int) := by rw [hk]; exact (Int.natCast_emod _ _).symm
  have w3 : IntKind.i64.wrap (k : Int) = (k : Int) := by rw [IntKind.wrap_i64]; omega
  have z1 : ((m : Int) == 0) = false := by simp; omega
  have z2 : ¬ (m : Int) = 0 := by omega
  have z3 : ¬ m = 0 := by omega
  have t1 : ¬ (wd : Int) < 1 := by omega
  have t2 : ¬ (80 : Int) < (wd : Int) := by omega
  have t3 : ¬ (ht : Int) < 1 := by omega
  have t4 : ¬ (24 : Int) < (ht : Int) := by omega
  have t5 : ¬ (2000 : Int) < (a2.size : Int) := by omega
  have q1 : ¬ (a2.size : Int) < (k : Int) := by omega
  have q2 : a2.size ≤ 9223372036854775807 := by omega
  have HCL : Hid (c.length = wd * ht) := hcl
  clear hB0 OKn OK OKK hsk hst hsk2 hC1 hCK hparts hm hk hcl
  go_enter Try.func3, Try.ntmps3
  go_wp2_with fail
  refine (awake11_any _).mono ?_
  rintro e wa ⟨rfl, ba⟩
  go_wp2_with fail
  refine (C0.out _).mono ?_
  rintro e wb ⟨rfl, b2⟩
  have bb2 := ba.trans (b2.mono ba.size)
  have rg : Row (wb.alloc (.cells #[.int .i64 wd, .int .i64 ht, .int .i64 0, .int .i64 0, .string B0] 25 (0, 0))) wb.heap.size 25 [.int .i64 wd, .int .i64 ht, .int .i64 0, .int .i64 0, .string B0] := Row.new' rfl rfl
  have bb3 := bb2.alloc bb2.size (.cells #[.int .i64 wd, .int .i64 ht, .int .i64 0, .int .i64 0, .string B0] 25 (0, 0))
  clear ba b2 bb2
  go_wp2_with fail
  generalize wb.heap.size = g at *
  generalize wb.alloc (.cells #[.int .i64 wd, .int .i64 ht, .int .i64 0, .int .i64 0, .string B0] 25 (0, 0)) = w5 at *
  refine (CRN.out _).mono ?_
  rintro e w6 ⟨gn, capn, rfl, hoN, b6⟩
  have rg6 := rg.below b6 rg.lt
  have bb6 := bb3.trans (b6.mono bb3.size)
  have hoN0 := own_monoN hoN (Nat.zero_le _)
  clear rg bb3 b6 hoN
  go_wp2_with fail
  refine (CRP.out gn capn _ (by exact hoN0)).mono ?_
  rintro e w7 ⟨gq, cap, rfl, ho7, b7⟩
  have rg := (rg6.below b7 rg6.lt).alloc (.cells #[.int .i64 wd, .int .i64 ht, .int .i64 x, .int .i64 y, .slice (some ⟨gq, 0, none⟩) ht cap] 33 (0, 0))
  have bb7 := bb6.trans (b7.mono bb6.size)
  have bl := bb7.alloc bb7.size (.cells #[.int .i64 wd, .int .i64 ht, .int .i64 x, .int .i64 y, .slice (some ⟨gq, 0, none⟩) ht cap] 33 (0, 0))
  have hgr : g < w7.heap.size := (rg6.below b7 rg6.lt).lt
  have rr : Row (w7.alloc (.cells #[.int .i64 wd, .int .i64 ht, .int .i64 x, .int .i64 y, .slice (some ⟨gq, 0, none⟩) ht cap] 33 (0, 0))) w7.heap.size 33 [.int .i64 wd, .int .i64 ht, .int .i64 x, .int .i64 y, .slice (some ⟨gq, 0, none⟩) ht cap] := Row.new' rfl rfl
  have ho := ho7.alloc (.cells #[.int .i64 wd, .int .i64 ht, .int .i64 x, .int .i64 y, .slice (some ⟨gq, 0, none⟩) ht cap] 33 (0, 0))
  have CIQ : Hid (∀ wx, wx.ownsRow 0 9 1 (.slice (some ⟨gq, 0, none⟩) ht cap) ht (txt (N11.rows wd ht c)) → Calls Try.prog 15 #[.agg #[.int .i64 wd, .int .i64 ht, .int .i64 x, .int .i64 y, .string C1], .agg #[.int .i64 wd, .int .i64 ht, .int .i64 x, .int .i64 y, .slice (some ⟨gq, 0, none⟩) ht cap]] wx fun e w' => e = .returned (.bool true) ∧ Below wx.heap.size wx w') := fun wx hx => by
    rw [HC1.out]; exact is_any wd ht x y gq cap c wx h2 h3 h4 HCL.out hx
  clear rg6 b7 bb6 bb7 ho7 hoN0 C0 CRP
  go_wp2
  generalize w7.heap.size = gr at *
  generalize w7.alloc (.cells #[.int .i64 wd, .int .i64 ht, .int .i64 x, .int .i64 y, .slice (some ⟨gq, 0, none⟩) ht cap] 33 (0, 0)) = w9 at *
  refine wp_region_held_drew (S := fun w' => Row w' g 25 [.int .i64 wd, .int .i64 ht, .int .i64 0, .int .i64 0, .string B0] ∧ Below w.heap.size w w') (by kernel_rfl) (⟨rg.drew, bl.drew⟩) (fun hHeld => ?_)
  refine take_d 0 (some 64) (.agg #[.int .i64 wd, .int .i64 ht, .int .i64 0, .int .i64 0, .string B0]) rfl (by kernel_rfl) (by kernel_rfl) (by kernel_rfl) (fun _ _ _ h => h) (fun oi h => by cases h; exact yieldsIf_load_mid (by rfl) 25 (.tmp 9) rfl g 0 rfl [.int .i64 wd, .int .i64 ht, .int .i64 0, .int .i64 0, .string B0] _ (fun w' hS' => hS'.1.range) Try.underlying25 rfl infoScr) hHeld ?_
  try simp only [Act.put, List.setIfInBounds_toArray, List.set_cons_zero, List.set_cons_succ]
  refine take_d 1 (some 65) (.string a2) rfl (by kernel_rfl) (by kernel_rfl) (by kernel_rfl) (fun _ _ _ h => h) (fun oi h => by cases h; exact Or.inl ⟨by rfl, fun w' hS' => by go_simp⟩) hHeld ?_
  try simp only [Act.put, List.setIfInBounds_toArray, List.set_cons_zero, List.set_cons_succ]
  refine take_d 3 (some 67) (.agg #[.int .i64 wd, .int .i64 ht, .int .i64 0, .int .i64 0, .string B0]) rfl (by kernel_rfl) (by kernel_rfl) (by kernel_rfl) (fun _ _ _ h => h) (fun oi h => by cases h; exact yieldsIf_load_mid (by rfl) 25 (.tmp 9) rfl g 0 rfl [.int .i64 wd, .int .i64 ht, .int .i64 0, .int .i64 0, .string B0] _ (fun w' hS' => hS'.1.range) Try.underlying25 rfl infoScr) hHeld ?_
  try simp only [Act.put, List.setIfInBounds_toArray, List.set_cons_zero, List.set_cons_succ]
  refine take_d 4 (some 68) (.string a2) rfl (by kernel_rfl) (by kernel_rfl) (by kernel_rfl) (fun _ _ _ h => h) (fun oi h => by cases h; exact Or.inl ⟨by rfl, fun w' hS' => by go_simp⟩) hHeld ?_
  try simp only [Act.put, List.setIfInBounds_toArray, List.set_cons_zero, List.set_cons_succ]
  refine take_d 5 (some 69) (.int .i64 k) rfl (by kernel_rfl) (by kernel_rfl) (by kernel_rfl) (fun _ _ _ h => h) (fun oi h => by cases h; exact Or.inl ⟨by rfl, fun w' hS' => by go_simp⟩) hHeld ?_
  try simp only [Act.put, List.setIfInBounds_toArray, List.set_cons_zero, List.set_cons_succ]
  refine take_d 6 (some 70) (.string (a2.extract 0 k)) rfl (by kernel_rfl) (by kernel_rfl) (by kernel_rfl) (fun _ _ _ h => h) (fun oi h => by cases h; exact Or.inl ⟨by rfl, fun w' hS' => by go_simp⟩) hHeld ?_
  try simp only [Act.put, List.setIfInBounds_toArray, List.set_cons_zero, List.set_cons_succ]
  refine take_d 8 (some 72) (.string a2) rfl (by kernel_rfl) (by kernel_rfl) (by kernel_rfl) (fun _ _ _ h => h) (fun oi h => by cases h; exact Or.inl ⟨by rfl, fun w' hS' => by go_simp⟩) hHeld ?_
  try simp only [Act.put, List.setIfInBounds_toArray, List.set_cons_zero, List.set_cons_succ]
  refine take_d 9 (some 73) (.int .i64 k) rfl (by kernel_rfl) (by kernel_rfl) (by kernel_rfl) (fun _ _ _ h => h) (fun oi h => by cases h; exact Or.inl ⟨by rfl, fun w' hS' => by go_simp⟩) hHeld ?_
  try simp only [Act.put, List.setIfInBounds_toArray, List.set_cons_zero, List.set_cons_succ]
  refine take_d 10 (some 74) (.string (a2.extract k a2.size)) rfl (by kernel_rfl) (by kernel_rfl) (by kernel_rfl) (fun _ _ _ h => h) (fun oi h => by cases h; exact Or.inl ⟨by rfl, fun w' hS' => by go_simp⟩) hHeld ?_
  try simp only [Act.put, List.setIfInBounds_toArray, List.set_cons_zero, List.set_cons_succ]
  have rg := rg.drew
  have rr := rr.drew
  have ho := ho.drew
  have lw := hHeld.2.size
  refine cut_here9 (G := ∀ (p q : Nat) (wz : World), (p ≠ q ∧ g ≠ p ∧ g ≠ q ∧ gr ≠ p ∧ gr ≠ q ∧ w.heap.size ≤ p ∧ w.heap.size ≤ q ∧ gq ≠ p ∧ gq ≠ q) → Row wz g 25 [.int .i64 wd, .int .i64 ht, .int .i64 0, .int .i64 0, .string B0] → Row wz gr 33 [.int .i64 wd, .int .i64 ht, .int .i64 x, .int .i64 y, .slice (some ⟨gq, 0, none⟩) ht cap] → wz.ownsRow 0 9 1 (.slice (some ⟨gq, 0, none⟩) ht cap) ht (txt (N11.rows wd ht c)) → Row wz p 25 [.int .i64 0, .int .i64 0, .int .i64 0, .int .i64 0, .string ⟨#[]⟩] → Row wz q 25 [.int .i64 0, .int .i64 0, .int .i64 0, .int .i64 0, .string ⟨#[]⟩] → (Row wz g 25 [.int .i64 wd, .int .i64 ht, .int .i64 0, .int .i64 0, .string B0] ∧ Below w.heap.size w wz) → (?B : Nat → Nat → World → Prop) p q wz) ?tree ?lf
  case tree =>
    intro leaf
    refine three_d 2 12 13 rfl rfl rfl (by kernel_rfl) ?_ ?_ ?_
    · intro K hK
      go_simp
      refine (CP.out _).mono ?_
      rintro e v0 ⟨rfl, bb⟩
      have hHeld2 := (⟨hHeld.1.below bb hHeld.1.lt, hHeld.2.trans (bb.mono hHeld.2.size)⟩ : _ ∧ _)
      have rg := rg.below bb rg.lt
      have rr := rr.below bb rr.lt
      have ho := ownN ho bb
      have lw := hHeld2.2.size
      refine hK.out _ _ hHeld2 (fun hHeld => ?_)
      clear hK K bb hHeld2
      try simp only [Act.put, List.setIfInBounds_toArray, List.set_cons_zero, List.set_cons_succ]
      refine three_d 7 12 13 rfl rfl rfl (by kernel_rfl) ?_ ?_ ?_
      · intro K hK
        go_simp
        refine (CK1.out _).mono ?_
        rintro e v1 ⟨rfl, bb⟩
        have hHeld2 := (⟨hHeld.1.below bb hHeld.1.lt, hHeld.2.trans (bb.mono hHeld.2.size)⟩ : _ ∧ _)
        have rg := rg.below bb rg.lt
        have rr := rr.below bb rr.lt
        have ho := ownN ho bb
        have lw := hHeld2.2.size
        refine hK.out _ _ hHeld2 (fun hHeld => ?_)
        clear hK K bb hHeld2
        try simp only [Act.put, List.setIfInBounds_toArray, List.set_cons_zero, List.set_cons_succ]
        refine three_d 11 12 13 rfl rfl rfl (by kernel_rfl) ?_ ?_ ?_
        · intro K hK
          go_simp
          refine (CK2.out _).mono ?_
          rintro e v2 ⟨rfl, bb⟩
          have hHeld2 := (⟨hHeld.1.below bb hHeld.1.lt, hHeld.2.trans (bb.mono hHeld.2.size)⟩ : _ ∧ _)
          have rg := rg.below bb rg.lt
          have rr := rr.below bb rr.lt
          have ho := ownN ho bb
          have lw := hHeld2.2.size
          refine hK.out _ _ hHeld2 (fun hHeld => ?_)
          clear hK K bb hHeld2
          try simp only [Act.put, List.setIfInBounds_toArray, List.set_cons_zero, List.set_cons_succ]
          refine two_d 12 13 rfl rfl (by kernel_rfl) ?_ ?_
          · intro K hK
            go_simp
            refine hK.out _ _ ⟨hHeld.1.alloc _, hHeld.2.alloc hHeld.2.size _⟩ (fun hHeld => ?_)
            clear hK K
            try simp only [Act.put, List.setIfInBounds_toArray, List.set_cons_zero, List.set_cons_succ]
            have lp1 : g < v2.heap.size := rg.lt
            have lp2 : gr < v2.heap.size := rr.lt
            have lp3 : gq < v2.heap.size := ((World.ownsRow.lt ho) gq rfl).2
            have lp4 : w.heap.size ≤ v2.heap.size := lw
            have rp : Row (v2.alloc (.cells #[.int .i64 0, .int .i64 0, .int .i64 0, .int .i64 0, .string ⟨#[]⟩] 25 (0, 0))) v2.heap.size 25 [.int .i64 0, .int .i64 0, .int .i64 0, .int .i64 0, .string ⟨#[]⟩] := Row.new' rfl rfl
            have rg : Row (v2.alloc (.cells #[.int .i64 0, .int .i64 0, .int .i64 0, .int .i64 0, .string ⟨#[]⟩] 25 (0, 0))) g 25 [.int .i64 wd, .int .i64 ht, .int .i64 0, .int .i64 0, .string B0] := rg.alloc (.cells #[.int .i64 0, .int .i64 0, .int .i64 0, .int .i64 0, .string ⟨#[]⟩] 25 (0, 0))
            have rr : Row (v2.alloc (.cells #[.int .i64 0, .int .i64 0, .int .i64 0, .int .i64 0, .string ⟨#[]⟩] 25 (0, 0))) gr 33 [.int .i64 wd, .int .i64 ht, .int .i64 x, .int .i64 y, .slice (some ⟨gq, 0, none⟩) ht cap] := rr.alloc (.cells #[.int .i64 0, .int .i64 0, .int .i64 0, .int .i64 0, .string ⟨#[]⟩] 25 (0, 0))
            have ho : (v2.alloc (.cells #[.int .i64 0, .int .i64 0, .int .i64 0, .int .i64 0, .string ⟨#[]⟩] 25 (0, 0))).ownsRow 0 9 1 (.slice (some ⟨gq, 0, none⟩) ht cap) ht (txt (N11.rows wd ht c)) := ho.alloc (.cells #[.int .i64 0, .int .i64 0, .int .i64 0, .int .i64 0, .string ⟨#[]⟩] 25 (0, 0))
            have lw : w.heap.size ≤ (v2.alloc (.cells #[.int .i64 0, .int .i64 0, .int .i64 0, .int .i64 0, .string ⟨#[]⟩] 25 (0, 0))).heap.size := hHeld.2.size
            generalize v2.heap.size = p at *
            generalize (v2.alloc (.cells #[.int .i64 0, .int .i64 0, .int .i64 0, .int .i64 0, .string ⟨#[]⟩] 25 (0, 0))) = v3 at *
            refine one_d 13 (some 14) rfl (by kernel_rfl) ?_
            intro o ho1 hd
            cases ho1
            clear hd
            intro K hK
            go_simp
            refine hK.out _ _ ⟨hHeld.1.alloc _, hHeld.2.alloc hHeld.2.size _⟩ (fun hHeld => ?_)
            clear hK K
            try simp only [Act.put, List.setIfInBounds_toArray, List.set_cons_zero, List.set_cons_succ]
            have lq1 : g < v3.heap.size := rg.lt
            have lq2 : gr < v3.heap.size := rr.lt
            have lq3 : gq < v3.heap.size := ((World.ownsRow.lt ho) gq rfl).2
            have lq4 : w.heap.size ≤ v3.heap.size := lw
            have lq5 : p < v3.heap.size := rp.lt
            have rq : Row (v3.alloc (.cells #[.int .i64 0, .int .i64 0, .int .i64 0, .int .i64 0, .string ⟨#[]⟩] 25 (0, 0))) v3.heap.size 25 [.int .i64 0, .int .i64 0, .int .i64 0, .int .i64 0, .string ⟨#[]⟩] := Row.new' rfl rfl
            have rg : Row (v3.alloc (.cells #[.int .i64 0, .int .i64 0, .int .i64 0, .int .i64 0, .string ⟨#[]⟩] 25 (0, 0))) g 25 [.int .i64 wd, .int .i64 ht, .int .i64 0, .int .i64 0, .string B0] := rg.alloc (.cells #[.int .i64 0, .int .i64 0, .int .i64 0, .int .i64 0, .string ⟨#[]⟩] 25 (0, 0))
            have rr : Row (v3.alloc (.cells #[.int .i64 0, .int .i64 0, .int .i64 0, .int .i64 0, .string ⟨#[]⟩] 25 (0, 0))) gr 33 [.int .i64 wd, .int .i64 ht, .int .i64 x, .int .i64 y, .slice (some ⟨gq, 0, none⟩) ht cap] := rr.alloc (.cells #[.int .i64 0, .int .i64 0, .int .i64 0, .int .i64 0, .string ⟨#[]⟩] 25 (0, 0))
            have ho : (v3.alloc (.cells #[.int .i64 0, .int .i64 0, .int .i64 0, .int .i64 0, .string ⟨#[]⟩] 25 (0, 0))).ownsRow 0 9 1 (.slice (some ⟨gq, 0, none⟩) ht cap) ht (txt (N11.rows wd ht c)) := ho.alloc (.cells #[.int .i64 0, .int .i64 0, .int .i64 0, .int .i64 0, .string ⟨#[]⟩] 25 (0, 0))
            have rp : Row (v3.alloc (.cells #[.int .i64 0, .int .i64 0, .int .i64 0, .int .i64 0, .string ⟨#[]⟩] 25 (0, 0))) p 25 [.int .i64 0, .int .i64 0, .int .i64 0, .int .i64 0, .string ⟨#[]⟩] := rp.alloc (.cells #[.int .i64 0, .int .i64 0, .int .i64 0, .int .i64 0, .string ⟨#[]⟩] 25 (0, 0))
            have lw : w.heap.size ≤ (v3.alloc (.cells #[.int .i64 0, .int .i64 0, .int .i64 0, .int .i64 0, .string ⟨#[]⟩] 25 (0, 0))).heap.size := hHeld.2.size
            generalize v3.heap.size = q at *
            generalize (v3.alloc (.cells #[.int .i64 0, .int .i64 0, .int .i64 0, .int .i64 0, .string ⟨#[]⟩] 25 (0, 0))) = v4 at *
            exact leaf.out p q _ ⟨by omega, by omega, by omega, by omega, by omega, by omega, by omega, by omega, by omega⟩ rg rr ho rp rq hHeld
          · intro K hK
            go_simp
            refine hK.out _ _ ⟨hHeld.1.alloc _, hHeld.2.alloc hHeld.2.size _⟩ (fun hHeld => ?_)
            clear hK K
            try simp only [Act.put, List.setIfInBounds_toArray, List.set_cons_zero, List.set_cons_succ]
            have lq1 : g < v2.heap.size := rg.lt
            have lq2 : gr < v2.heap.size := rr.lt
            have lq3 : gq < v2.heap.size := ((World.ownsRow.lt ho) gq rfl).2
            have lq4 : w.heap.size ≤ v2.heap.size := lw
            have rq : Row (v2.alloc (.cells #[.int .i64 0, .int .i64 0, .int .i64 0, .int .i64 0, .string ⟨#[]⟩] 25 (0, 0))) v2.heap.size 25 [.int .i64 0, .int .i64 0, .int .i64 0, .int .i64 0, .string ⟨#[]⟩] := Row.new' rfl rfl
            have rg : Row (v2.alloc (.cells #[.int .i64 0, .int .i64 0, .int .i64 0, .int .i64 0, .string ⟨#[]⟩] 25 (0, 0))) g 25 [.int .i64 wd, .int .i64 ht, .int .i64 0, .int .i64 0, .string B0] := rg.alloc (.cells #[.int .i64 0, .int .i64 0, .int .i64 0, .int .i64 0, .string ⟨#[]⟩] 25 (0, 0))
            have rr : Row (v2.alloc (.cells #[.int .i64 0, .int .i64 0, .int .i64 0, .int .i64 0, .string ⟨#[]⟩] 25 (0, 0))) gr 33 [.int .i64 wd, .int .i64 ht, .int .i64 x, .int .i64 y, .slice (some ⟨gq, 0, none⟩) ht cap] := rr.alloc (.cells #[.int .i64 0, .int .i64 0, .int .i64 0, .int .i64 0, .string ⟨#[]⟩] 25 (0, 0))
            have ho : (v2.alloc (.cells #[.int .i64 0, .int .i64 0, .int .i64 0, .int .i64 0, .string ⟨#[]⟩] 25 (0, 0))).ownsRow 0 9 1 (.slice (some ⟨gq, 0, none⟩) ht cap) ht (txt (N11.rows wd ht c)) := ho.alloc (.cells #[.int .i64 0, .int .i64 0, .int .i64 0, .int .i64 0, .string ⟨#[]⟩] 25 (0, 0))
            have lw : w.heap.size ≤ (v2.alloc (.cells #[.int .i64 0, .int .i64 0, .int .i64 0, .int .i64 0, .string ⟨#[]⟩] 25 (0, 0))).heap.size := hHeld.2.size
            generalize v2.heap.size = q at *
            generalize (v2.alloc (.cells #[.int .i64 0, .int .i64 0, .int .i64 0, .int .i64 0, .string ⟨#[]⟩] 25 (0, 0))) = v3 at *
            refine one_d 12 (some 13) rfl (by kernel_rfl) ?_
            intro o ho1 hd
            cases ho1
            clear hd
            intro K hK
            go_simp
            refine hK.out _ _ ⟨hHeld.1.alloc _, hHeld.2.alloc hHeld.2.size _⟩ (fun hHeld => ?_)
            clear hK K
            try simp only [Act.put, List.setIfInBounds_toArray, List.set_cons_zero, List.set_cons_succ]
            have lp1 : g < v3.heap.size := rg.lt
            have lp2 : gr < v3.heap.size := rr.lt
            have lp3 : gq < v3.heap.size := ((World.ownsRow.lt ho) gq rfl).2
            have lp4 : w.heap.size ≤ v3.heap.size := lw
            have lp5 : q < v3.heap.size := rq.lt
            have rp : Row (v3.alloc (.cells #[.int .i64 0, .int .i64 0, .int .i64 0, .int .i64 0, .string ⟨#[]⟩] 25 (0, 0))) v3.heap.size 25 [.int .i64 0, .int .i64 0, .int .i64 0, .int .i64 0, .string ⟨#[]⟩] := Row.new' rfl rfl
            have rg : Row (v3.alloc (.cells #[.int .i64 0, .int .i64 0, .int .i64 0, .int .i64 0, .string ⟨#[]⟩] 25 (0, 0))) g 25 [.int .i64 wd, .int .i64 ht, .int .i64 0, .int .i64 0, .string B0] := rg.alloc (.cells #[.int .i64 0, .int .i64 0, .int .i64 0, .int .i64 0, .string ⟨#[]⟩] 25 (0, 0))
            have rr : Row (v3.alloc (.cells #[.int .i64 0, .int .i64 0, .int .i64 0, .int .i64 0, .string ⟨#[]⟩] 25 (0, 0))) gr 33 [.int .i64 wd, .int .i64 ht, .int .i64 x, .int .i64 y, .slice (some ⟨gq, 0, none⟩) ht cap] := rr.alloc (.cells #[.int .i64 0, .int .i64 0, .int .i64 0, .int .i64 0, .string ⟨#[]⟩] 25 (0, 0))
            have ho : (v3.alloc (.cells #[.int .i64 0, .int .i64 0, .int .i64 0, .int .i64 0, .string ⟨#[]⟩] 25 (0, 0))).ownsRow 0 9 1 (.slice (some ⟨gq, 0, none⟩) ht cap) ht (txt (N11.rows wd ht c)) := ho.alloc (.cells #[.int .i64 0, .int .i64 0, .int .i64 0, .int .i64 0, .string ⟨#[]⟩] 25 (0, 0))
            have rq : Row (v3.alloc (.cells #[.int .i64 0, .int .i64 0, .int .i64 0, .int .i64 0, .string ⟨#[]⟩] 25 (0, 0))) q 25 [.int .i64 0, .int .i64 0, .int .i64 0, .int .i64 0, .string ⟨#[]⟩] := rq.alloc (.cells #[.int .i64 0, .int .i64 0, .int .i64 0, .int .i64 0, .string ⟨#[]⟩] 25 (0, 0))
            have lw : w.heap.size ≤ (v3.alloc (.cells #[.int .i64 0, .int .i64 0, .int .i64 0, .int .i64 0, .string ⟨#[]⟩] 25 (0, 0))).heap.size := hHeld.2.size
            generalize v3.heap.size = p at *
            generalize (v3.alloc (.cells #[.int .i64 0, .int .i64 0, .int .i64 0, .int .i64 0, .string ⟨#[]⟩] 25 (0, 0))) = v4 at *
            exact leaf.out p q _ ⟨by omega, by omega, by omega, by omega, by omega, by omega, by omega, by omega, by omega⟩ rg rr ho rp rq hHeld
        · intro K hK
          go_simp
          refine hK.out _ _ ⟨hHeld.1.alloc _, hHeld.2.alloc hHeld.2.size _⟩ (fun hHeld => ?_)
          clear hK K
          try simp only [Act.put, List.setIfInBounds_toArray, List.set_cons_zero, List.set_cons_succ]
          have lp1 : g < v1.heap.size := rg.lt
          have lp2 : gr < v1.heap.size := rr.lt
          have lp3 : gq < v1.heap.size := ((World.ownsRow.lt ho) gq rfl).2
          have lp4 : w.heap.size ≤ v1.heap.size := lw
          have rp : Row (v1.alloc (.cells #[.int .i64 0, .int .i64 0, .int .i64 0, .int .i64 0, .string ⟨#[]⟩] 25 (0, 0))) v1.heap.size 25 [.int .i64 0, .int .i64 0, .int .i64 0, .int .i64 0, .string ⟨#[]⟩] := Row.new' rfl rfl
          have rg : Row (v1.alloc (.cells #[.int .i64 0, .int .i64 0, .int .i64 0, .int .i64 0, .string ⟨#[]⟩] 25 (0, 0))) g 25 [.int .i64 wd, .int .i64 ht, .int .i64 0, .int .i64 0, .string B0] := rg.alloc (.cells #[.int .i64 0, .int .i64 0, .int .i64 0, .int .i64 0, .string ⟨#[]⟩] 25 (0, 0))
          have rr : Row (v1.alloc (.cells #[.int .i64 0, .int .i64 0, .int .i64 0, .int .i64 0, .string ⟨#[]⟩] 25 (0, 0))) gr 33 [.int .i64 wd, .int .i64 ht, .int .i64 x, .int .i64 y, .slice (some ⟨gq, 0, none⟩) ht cap] := rr.alloc (.cells #[.int .i64 0, .int .i64 0, .int .i64 0, .int .i64 0, .string ⟨#[]⟩] 25 (0, 0))
          have ho : (v1.alloc (.cells #[.int .i64 0, .int .i64 0, .int .i64 0, .int .i64 0, .string ⟨#[]⟩] 25 (0, 0))).ownsRow 0 9 1 (.slice (some ⟨gq, 0, none⟩) ht cap) ht (txt (N11.rows wd ht c)) := ho.alloc (.cells #[.int .i64 0, .int .i64 0, .int .i64 0, .int .i64 0, .string ⟨#[]⟩] 25 (0, 0))
          have lw : w.heap.size ≤ (v1.alloc (.cells #[.int .i64 0, .int .i64 0, .int .i64 0, .int .i64 0, .string ⟨#[]⟩] 25 (0, 0))).heap.size := hHeld.2.size
          generalize v1.heap.size = p at *
          generalize (v1.alloc (.cells #[.int .i64 0, .int .i64 0, .int .i64 0, .int .i64 0, .string ⟨#[]⟩] 25 (0, 0))) = v2 at *
          refine two_d 11 13 rfl rfl (by kernel_rfl) ?_ ?_
          · intro K hK
            go_simp
            refine (CK2.out _).mono ?_
            rintro e v3 ⟨rfl, bb⟩
            have hHeld2 := (⟨hHeld.1.below bb hHeld.1.lt, hHeld.2.trans (bb.mono hHeld.2.size)⟩ : _ ∧ _)
            have rg := rg.below bb rg.lt
            have rr := rr.below bb rr.lt
            have ho := ownN ho bb
            have rp := rp.below bb rp.lt
            have lw := hHeld2.2.size
            refine hK.out _ _ hHeld2 (fun hHeld => ?_)
            clear hK K bb hHeld2
            try simp only [Act.put, List.setIfInBounds_toArray, List.set_cons_zero, List.set_cons_succ]
            refine one_d 13 (some 14) rfl (by kernel_rfl) ?_
            intro o ho1 hd
            cases ho1
            clear hd
            intro K hK
            go_simp
            refine hK.out _ _ ⟨hHeld.1.alloc _, hHeld.2.alloc hHeld.2.size _⟩ (fun hHeld => ?_)
            clear hK K
            try simp only [Act.put, List.setIfInBounds_toArray, List.set_cons_zero, List.set_cons_succ]
            have lq1 : g < v3.heap.size := rg.lt
            have lq2 : gr < v3.heap.size := rr.lt
            have lq3 : gq < v3.heap.size := ((World.ownsRow.lt ho) gq rfl).2
            have lq4 : w.heap.size ≤ v3.heap.size := lw
            have lq5 : p < v3.heap.size := rp.lt
            have rq : Row (v3.alloc (.cells #[.int .i64 0, .int .i64 0, .int .i64 0, .int .i64 0, .string ⟨#[]⟩] 25 (0, 0))) v3.heap.size 25 [.int .i64 0, .int .i64 0, .int .i64 0, .int .i64 0, .string ⟨#[]⟩] := Row.new' rfl rfl
            have rg : Row (v3.alloc (.cells #[.int .i64 0, .int .i64 0, .int .i64 0, .int .i64 0, .string ⟨#[]⟩] 25 (0, 0))) g 25 [.int .i64 wd, .int .i64 ht, .int .i64 0, .int .i64 0, .string B0] := rg.alloc (.cells #[.int .i64 0, .int .i64 0, .int .i64 0, .int .i64 0, .string ⟨#[]⟩] 25 (0, 0))
            have rr : Row (v3.alloc (.cells #[.int .i64 0, .int .i64 0, .int .i64 0, .int .i64 0, .string ⟨#[]⟩] 25 (0, 0))) gr 33 [.int .i64 wd, .int .i64 ht, .int .i64 x, .int .i64 y, .slice (some ⟨gq, 0, none⟩) ht cap] := rr.alloc (.cells #[.int .i64 0, .int .i64 0, .int .i64 0, .int .i64 0, .string ⟨#[]⟩] 25 (0, 0))
            have ho : (v3.alloc (.cells #[.int .i64 0, .int .i64 0, .int .i64 0, .int .i64 0, .string ⟨#[]⟩] 25 (0, 0))).ownsRow 0 9 1 (.slice (some ⟨gq, 0, none⟩) ht cap) ht (txt (N11.rows wd ht c)) := ho.alloc (.cells #[.int .i64 0, .int .i64 0, .int .i64 0, .int .i64 0, .string ⟨#[]⟩] 25 (0, 0))
            have rp : Row (v3.alloc (.cells #[.int .i64 0, .int .i64 0, .int .i64 0, .int .i64 0, .string ⟨#[]⟩] 25 (0, 0))) p 25 [.int .i64 0, .int .i64 0, .int .i64 0, .int .i64 0, .string ⟨#[]⟩] := rp.alloc (.cells #[.int .i64 0, .int .i64 0, .int .i64 0, .int .i64 0, .string ⟨#[]⟩] 25 (0, 0))
            have lw : w.heap.size ≤ (v3.alloc (.cells #[.int .i64 0, .int .i64 0, .int .i64 0, .int .i64 0, .string ⟨#[]⟩] 25 (0, 0))).heap.size := hHeld.2.size
            generalize v3.heap.size = q at *
            generalize (v3.alloc (.cells #[.int .i64 0, .int .i64 0, .int .i64 0, .int .i64 0, .string ⟨#[]⟩] 25 (0, 0))) = v4 at *
            exact leaf.out p q _ ⟨by omega, by omega, by omega, by omega, by omega, by omega, by omega, by omega, by omega⟩ rg rr ho rp rq hHeld
          · intro K hK
            go_simp
            refine hK.out _ _ ⟨hHeld.1.alloc _, hHeld.2.alloc hHeld.2.size _⟩ (fun hHeld => ?_)
            clear hK K
            try simp only [Act.put, List.setIfInBounds_toArray, List.set_cons_zero, List.set_cons_succ]
            have lq1 : g < v2.heap.size := rg.lt
            have lq2 : gr < v2.heap.size := rr.lt
            have lq3 : gq < v2.heap.size := ((World.ownsRow.lt ho) gq rfl).2
            have lq4 : w.heap.size ≤ v2.heap.size := lw
            have lq5 : p < v2.heap.size := rp.lt
            have rq : Row (v2.alloc (.cells #[.int .i64 0, .int .i64 0, .int .i64 0, .int .i64 0, .string ⟨#[]⟩] 25 (0, 0))) v2.heap.size 25 [.int .i64 0, .int .i64 0, .int .i64 0, .int .i64 0, .string ⟨#[]⟩] := Row.new' rfl rfl
            have rg : Row (v2.alloc (.cells #[.int .i64 0, .int .i64 0, .int .i64 0, .int .i64 0, .string ⟨#[]⟩] 25 (0, 0))) g 25 [.int .i64 wd, .int .i64 ht, .int .i64 0, .int .i64 0, .string B0] := rg.alloc (.cells #[.int .i64 0, .int .i64 0, .int .i64 0, .int .i64 0, .string ⟨#[]⟩] 25 (0, 0))
            have rr : Row (v2.alloc (.cells #[.int .i64 0, .int .i64 0, .int .i64 0, .int .i64 0, .string ⟨#[]⟩] 25 (0, 0))) gr 33 [.int .i64 wd, .int .i64 ht, .int .i64 x, .int .i64 y, .slice (some ⟨gq, 0, none⟩) ht cap] := rr.alloc (.cells #[.int .i64 0, .int .i64 0, .int .i64 0, .int .i64 0, .string ⟨#[]⟩] 25 (0, 0))
            have ho : (v2.alloc (.cells #[.int .i64 0, .int .i64 0, .int .i64 0, .int .i64 0, .string ⟨#[]⟩] 25 (0, 0))).ownsRow 0 9 1 (.slice (some ⟨gq, 0, none⟩) ht cap) ht (txt (N11.rows wd ht c)) := ho.alloc (.cells #[.int .i64 0, .int .i64 0, .int .i64 0, .int .i64 0, .string ⟨#[]⟩] 25 (0, 0))
            have rp : Row (v2.alloc (.cells #[.int .i64 0, .int .i64 0, .int .i64 0, .int .i64 0, .string ⟨#[]⟩] 25 (0, 0))) p 25 [.int .i64 0, .int .i64 0, .int .i64 0, .int .i64 0, .string ⟨#[]⟩] := rp.alloc (.cells #[.int .i64 0, .int .i64 0, .int .i64 0, .int .i64 0, .string ⟨#[]⟩] 25 (0, 0))
            have lw : w.heap.size ≤ (v2.alloc (.cells #[.int .i64 0, .int .i64 0, .int .i64 0, .int .i64 0, .string ⟨#[]⟩] 25 (0, 0))).heap.size := hHeld.2.size
            generalize v2.heap.size = q at *
            generalize (v2.alloc (.cells #[.int .i64 0, .int .i64 0, .int .i64 0, .int .i64 0, .string ⟨#[]⟩] 25 (0, 0))) = v3 at *
            refine one_d 11 (some 75) rfl (by kernel_rfl) ?_
            intro o ho1 hd
            cases ho1
            clear hd
            intro K hK
            go_simp
            refine (CK2.out _).mono ?_
            rintro e v4 ⟨rfl, bb⟩
            have hHeld2 := (⟨hHeld.1.below bb hHeld.1.lt, hHeld.2.trans (bb.mono hHeld.2.size)⟩ : _ ∧ _)
            have rg := rg.below bb rg.lt
            have rr := rr.below bb rr.lt
            have ho := ownN ho bb
            have rp := rp.below bb rp.lt
            have rq := rq.below bb rq.lt
            have lw := hHeld2.2.size
            refine hK.out _ _ hHeld2 (fun hHeld => ?_)
            clear hK K bb hHeld2
            try simp only [Act.put, List.setIfInBounds_toArray, List.set_cons_zero, List.set_cons_succ]
            exact leaf.out p q _ ⟨by omega, by omega, by omega, by omega, by omega, by omega, by omega, by omega, by omega⟩ rg rr ho rp rq hHeld
        · intro K hK
          go_simp
          refine hK.out _ _ ⟨hHeld.1.alloc _, hHeld.2.alloc hHeld.2.size _⟩ (fun hHeld => ?_)
          clear hK K
          try simp only [Act.put, List.setIfInBounds_toArray, List.set_cons_zero, List.set_cons_succ]
          have lq1 : g < v1.heap.size := rg.lt
          have lq2 : gr < v1.heap.size := rr.lt
          have lq3 : gq < v1.heap.size := ((World.ownsRow.lt ho) gq rfl).2
          have lq4 : w.heap.size ≤ v1.heap.size := lw
          have rq : Row (v1.alloc (.cells #[.int .i64 0, .int .i64 0, .int .i64 0, .int .i64 0, .string ⟨#[]⟩] 25 (0, 0))) v1.heap.size 25 [.int .i64 0, .int .i64 0, .int .i64 0, .int .i64 0, .string ⟨#[]⟩] := Row.new' rfl rfl
          have rg : Row (v1.alloc (.cells #[.int .i64 0, .int .i64 0, .int .i64 0, .int .i64 0, .string ⟨#[]⟩] 25 (0, 0))) g 25 [.int .i64 wd, .int .i64 ht, .int .i64 0, .int .i64 0, .string B0] := rg.alloc (.cells #[.int .i64 0, .int .i64 0, .int .i64 0, .int .i64 0, .string ⟨#[]⟩] 25 (0, 0))
          have rr : Row (v1.alloc (.cells #[.int .i64 0, .int .i64 0, .int .i64 0, .int .i64 0, .string ⟨#[]⟩] 25 (0, 0))) gr 33 [.int .i64 wd, .int .i64 ht, .int .i64 x, .int .i64 y, .slice (some ⟨gq, 0, none⟩) ht cap] := rr.alloc (.cells #[.int .i64 0, .int .i64 0, .int .i64 0, .int .i64 0, .string ⟨#[]⟩] 25 (0, 0))
          have ho : (v1.alloc (.cells #[.int .i64 0, .int .i64 0, .int .i64 0, .int .i64 0, .string ⟨#[]⟩] 25 (0, 0))).ownsRow 0 9 1 (.slice (some ⟨gq, 0, none⟩) ht cap) ht (txt (N11.rows wd ht c)) := ho.alloc (.cells #[.int .i64 0, .int .i64 0, .int .i64 0, .int .i64 0, .string ⟨#[]⟩] 25 (0, 0))
          have lw : w.heap.size ≤ (v1.alloc (.cells #[.int .i64 0, .int .i64 0, .int .i64 0, .int .i64 0, .string ⟨#[]⟩] 25 (0, 0))).heap.size := hHeld.2.size
          generalize v1.heap.size = q at *
          generalize (v1.alloc (.cells #[.int .i64 0, .int .i64 0, .int .i64 0, .int .i64 0, .string ⟨#[]⟩] 25 (0, 0))) = v2 at *
          refine two_d 11 12 rfl rfl (by kernel_rfl) ?_ ?_
          · intro K hK
            go_simp
            refine (CK2.out _).mono ?_
            rintro e v3 ⟨rfl, bb⟩
            have hHeld2 := (⟨hHeld.1.below bb hHeld.1.lt, hHeld.2.trans (bb.mono hHeld.2.size)⟩ : _ ∧ _)
            have rg := rg.below bb rg.lt
            have rr := rr.below bb rr.lt
            have ho := ownN ho bb
            have rq := rq.below bb rq.lt
            have lw := hHeld2.2.size
            refine hK.out _ _ hHeld2 (fun hHeld => ?_)
            clear hK K bb hHeld2
            try simp only [Act.put, List.setIfInBounds_toArray, List.set_cons_zero, List.set_cons_succ]
            refine one_d 12 (some 13) rfl (by kernel_rfl) ?_
            intro o ho1 hd
            cases ho1
            clear hd
            intro K hK
            go_simp
            refine hK.out _ _ ⟨hHeld.1.alloc _, hHeld.2.alloc hHeld.2.size _⟩ (fun hHeld => ?_)
            clear hK K
            try simp only [Act.put, List.setIfInBounds_toArray, List.set_cons_zero, List.set_cons_succ]
            have lp1 : g < v3.heap.size := rg.lt
            have lp2 : gr < v3.heap.size := rr.lt
            have lp3 : gq < v3.heap.size := ((World.ownsRow.lt ho) gq rfl).2
            have lp4 : w.heap.size ≤ v3.heap.size := lw
            have lp5 : q < v3.heap.size := rq.lt
            have rp : Row (v3.alloc (.cells #[.int .i64 0, .int .i64 0, .int .i64 0, .int .i64 0, .string ⟨#[]⟩] 25 (0, 0))) v3.heap.size 25 [.int .i64 0, .int .i64 0, .int .i64 0, .int .i64 0, .string ⟨#[]⟩] := Row.new' rfl rfl
            have rg : Row (v3.alloc (.cells #[.int .i64 0, .int .i64 0, .int .i64 0, .int .i64 0, .string ⟨#[]⟩] 25 (0, 0))) g 25 [.int .i64 wd, .int .i64 ht, .int .i64 0, .int .i64 0, .string B0] := rg.alloc (.cells #[.int .i64 0, .int .i64 0, .int .i64 0, .int .i64 0, .string ⟨#[]⟩] 25 (0, 0))
            have rr : Row (v3.alloc (.cells #[.int .i64 0, .int .i64 0, .int .i64 0, .int .i64 0, .string ⟨#[]⟩] 25 (0, 0))) gr 33 [.int .i64 wd, .int .i64 ht, .int .i64 x, .int .i64 y, .slice (some ⟨gq, 0, none⟩) ht cap] := rr.alloc (.cells #[.int .i64 0, .int .i64 0, .int .i64 0, .int .i64 0, .string ⟨#[]⟩] 25 (0, 0))
            have ho : (v3.alloc (.cells #[.int .i64 0, .int .i64 0, .int .i64 0, .int .i64 0, .string ⟨#[]⟩] 25 (0, 0))).ownsRow 0 9 1 (.slice (some ⟨gq, 0, none⟩) ht cap) ht (txt (N11.rows wd ht c)) := ho.alloc (.cells #[.int .i64 0, .int .i64 0, .int .i64 0, .int .i64 0, .string ⟨#[]⟩] 25 (0, 0))
            have rq : Row (v3.alloc (.cells #[.int .i64 0, .int .i64 0, .int .i64 0, .int .i64 0, .string ⟨#[]⟩] 25 (0, 0))) q 25 [.int .i64 0, .int .i64 0, .int .i64 0, .int .i64 0, .string ⟨#[]⟩] := rq.alloc (.cells #[.int .i64 0, .int .i64 0, .int .i64 0, .int .i64 0, .string ⟨#[]⟩] 25 (0, 0))
            have lw : w.heap.size ≤ (v3.alloc (.cells #[.int .i64 0, .int .i64 0, .int .i64 0, .int .i64 0, .string ⟨#[]⟩] 25 (0, 0))).heap.size := hHeld.2.size
            generalize v3.heap.size = p at *
            generalize (v3.alloc (.cells #[.int .i64 0, .int .i64 0, .int .i64 0, .int .i64 0, .string ⟨#[]⟩] 25 (0, 0))) = v4 at *
            exact leaf.out p q _ ⟨by omega, by omega, by omega, by omega, by omega, by omega, by omega, by omega, by omega⟩ rg rr ho rp rq hHeld
          · intro K hK
            go_simp
            refine hK.out _ _ ⟨hHeld.1.alloc _, hHeld.2.alloc hHeld.2.size _⟩ (fun hHeld => ?_)
            clear hK K
            try simp only [Act.put, List.setIfInBounds_toArray, List.set_cons_zero, List.set_cons_succ]
            have lp1 : g < v2.heap.size := rg.lt
            have lp2 : gr < v2.heap.size := rr.lt
            have lp3 : gq < v2.heap.size := ((World.ownsRow.lt ho) gq rfl).2
            have lp4 : w.heap.size ≤ v2.heap.size := lw
            have lp5 : q < v2.heap.size := rq.lt
            have rp : Row (v2.alloc (.cells #[.int .i64 0, .int .i64 0, .int .i64 0, .int .i64 0, .string ⟨#[]⟩] 25 (0, 0))) v2.heap.size 25 [.int .i64 0, .int .i64 0, .int .i64 0, .int .i64 0, .string ⟨#[]⟩] := Row.new' rfl rfl
            have rg : Row (v2.alloc (.cells #[.int .i64 0, .int .i64 0, .int .i64 0, .int .i64 0, .string ⟨#[]⟩] 25 (0, 0))) g 25 [.int .i64 wd, .int .i64 ht, .int .i64 0, .int .i64 0, .string B0] := rg.alloc (.cells #[.int .i64 0, .int .i64 0, .int .i64 0, .int .i64 0, .string ⟨#[]⟩] 25 (0, 0))
            have rr : Row (v2.alloc (.cells #[.int .i64 0, .int .i64 0, .int .i64 0, .int .i64 0, .string ⟨#[]⟩] 25 (0, 0))) gr 33 [.int .i64 wd, .int .i64 ht, .int .i64 x, .int .i64 y, .slice (some ⟨gq, 0, none⟩) ht cap] := rr.alloc (.cells #[.int .i64 0, .int .i64 0, .int .i64 0, .int .i64 0, .string ⟨#[]⟩] 25 (0, 0))
            have ho : (v2.alloc (.cells #[.int .i64 0, .int .i64 0, .int .i64 0, .int .i64 0, .string ⟨#[]⟩] 25 (0, 0))).ownsRow 0 9 1 (.slice (some ⟨gq, 0, none⟩) ht cap) ht (txt (N11.rows wd ht c)) := ho.alloc (.cells #[.int .i64 0, .int .i64 0, .int .i64 0, .int .i64 0, .string ⟨#[]⟩] 25 (0, 0))
            have rq : Row (v2.alloc (.cells #[.int .i64 0, .int .i64 0, .int .i64 0, .int .i64 0, .string ⟨#[]⟩] 25 (0, 0))) q 25 [.int .i64 0, .int .i64 0, .int .i64 0, .int .i64 0, .string ⟨#[]⟩] := rq.alloc (.cells #[.int .i64 0, .int .i64 0, .int .i64 0, .int .i64 0, .string ⟨#[]⟩] 25 (0, 0))
            have lw : w.heap.size ≤ (v2.alloc (.cells #[.int .i64 0, .int .i64 0, .int .i64 0, .int .i64 0, .string ⟨#[]⟩] 25 (0, 0))).heap.size := hHeld.2.size
            generalize v2.heap.size = p at *
            generalize (v2.alloc (.cells #[.int .i64 0, .int .i64 0, .int .i64 0, .int .i64 0, .string ⟨#[]⟩] 25 (0, 0))) = v3 at *
            refine one_d 11 (some 75) rfl (by kernel_rfl) ?_
            intro o ho1 hd
            cases ho1
            clear hd
            intro K hK
            go_simp
            refine (CK2.out _).mono ?_
            rintro e v4 ⟨rfl, bb⟩
            have hHeld2 := (⟨hHeld.1.below bb hHeld.1.lt, hHeld.2.trans (bb.mono hHeld.2.size)⟩ : _ ∧ _)
            have rg := rg.below bb rg.lt
            have rr := rr.below bb rr.lt
            have ho := ownN ho bb
            have rp := rp.below bb rp.lt
            have rq := rq.below bb rq.lt
            have lw := hHeld2.2.size
            refine hK.out _ _ hHeld2 (fun hHeld => ?_)
            clear hK K bb hHeld2
            try simp only [Act.put, List.setIfInBounds_toArray, List.set_cons_zero, List.set_cons_succ]
            exact leaf.out p q _ ⟨by omega, by omega, by omega, by omega, by omega, by omega, by omega, by omega, by omega⟩ rg rr ho rp rq hHeld
      · intro K hK
        go_simp
        refine hK.out _ _ ⟨hHeld.1.alloc _, hHeld.2.alloc hHeld.2.size _⟩ (fun hHeld => ?_)
        clear hK K
        try simp only [Act.put, List.setIfInBounds_toArray, List.set_cons_zero, List.set_cons_succ]
        have lp1 : g < v0.heap.size := rg.lt
        have lp2 : gr < v0.heap.size := rr.lt
        have lp3 : gq < v0.heap.size := ((World.ownsRow.lt ho) gq rfl).2
        have lp4 : w.heap.size ≤ v0.heap.size := lw
        have rp : Row (v0.alloc (.cells #[.int .i64 0, .int .i64 0, .int .i64 0, .int .i64 0, .string ⟨#[]⟩] 25 (0, 0))) v0.heap.size 25 [.int .i64 0, .int .i64 0, .int .i64 0, .int .i64 0, .string ⟨#[]⟩] := Row.new' rfl rfl
        have rg : Row (v0.alloc (.cells #[.int .i64 0, .int .i64 0, .int .i64 0, .int .i64 0, .string ⟨#[]⟩] 25 (0, 0))) g 25 [.int .i64 wd, .int .i64 ht, .int .i64 0, .int .i64 0, .string B0] := rg.alloc (.cells #[.int .i64 0, .int .i64 0, .int .i64 0, .int .i64 0, .string ⟨#[]⟩] 25 (0, 0))
        have rr : Row (v0.alloc (.cells #[.int .i64 0, .int .i64 0, .int .i64 0, .int .i64 0, .string ⟨#[]⟩] 25 (0, 0))) gr 33 [.int .i64 wd, .int .i64 ht, .int .i64 x, .int .i64 y, .slice (some ⟨gq, 0, none⟩) ht cap] := rr.alloc (.cells #[.int .i64 0, .int .i64 0, .int .i64 0, .int .i64 0, .string ⟨#[]⟩] 25 (0, 0))
        have ho : (v0.alloc (.cells #[.int .i64 0, .int .i64 0, .int .i64 0, .int .i64 0, .string ⟨#[]⟩] 25 (0, 0))).ownsRow 0 9 1 (.slice (some ⟨gq, 0, none⟩) ht cap) ht (txt (N11.rows wd ht c)) := ho.alloc (.cells #[.int .i64 0, .int .i64 0, .int .i64 0, .int .i64 0, .string ⟨#[]⟩] 25 (0, 0))
        have lw : w.heap.size ≤ (v0.alloc (.cells #[.int .i64 0, .int .i64 0, .int .i64 0, .int .i64 0, .string ⟨#[]⟩] 25 (0, 0))).heap.size := hHeld.2.size
        generalize v0.heap.size = p at *
        generalize (v0.alloc (.cells #[.int .i64 0, .int .i64 0, .int .i64 0, .int .i64 0, .string ⟨#[]⟩] 25 (0, 0))) = v1 at *
        refine two_d 7 13 rfl rfl (by kernel_rfl) ?_ ?_
        · intro K hK
          go_simp
          refine (CK1.out _).mono ?_
          rintro e v2 ⟨rfl, bb⟩
          have hHeld2 := (⟨hHeld.1.below bb hHeld.1.lt, hHeld.2.trans (bb.mono hHeld.2.size)⟩ : _ ∧ _)
          have rg := rg.below bb rg.lt
          have rr := rr.below bb rr.lt
          have ho := ownN ho bb
          have rp := rp.below bb rp.lt
          have lw := hHeld2.2.size
          refine hK.out _ _ hHeld2 (fun hHeld => ?_)
          clear hK K bb hHeld2
          try simp only [Act.put, List.setIfInBounds_toArray, List.set_cons_zero, List.set_cons_succ]
          refine two_d 11 13 rfl rfl (by kernel_rfl) ?_ ?_
          · intro K hK
            go_simp
            refine (CK2.out _).mono ?_
            rintro e v3 ⟨rfl, bb⟩
            have hHeld2 := (⟨hHeld.1.below bb hHeld.1.lt, hHeld.2.trans (bb.mono hHeld.2.size)⟩ : _ ∧ _)
            have rg := rg.below bb rg.lt
            have rr := rr.below bb rr.lt
            have ho := ownN ho bb
            have rp := rp.below bb rp.lt
            have lw := hHeld2.2.size
            refine hK.out _ _ hHeld2 (fun hHeld => ?_)
            clear hK K bb hHeld2
            try simp only [Act.put, List.setIfInBounds_toArray, List.set_cons_zero, List.set_cons_succ]
            refine one_d 13 (some 14) rfl (by kernel_rfl) ?_
            intro o ho1 hd
            cases ho1
            clear hd
            intro K hK
            go_simp
            refine hK.out _ _ ⟨hHeld.1.alloc _, hHeld.2.alloc hHeld.2.size _⟩ (fun hHeld => ?_)
            clear hK K
            try simp only [Act.put, List.setIfInBounds_toArray, List.set_cons_zero, List.set_cons_succ]
            have lq1 : g < v3.heap.size := rg.lt
            have lq2 : gr < v3.heap.size := rr.lt
            have lq3 : gq < v3.heap.size := ((World.ownsRow.lt ho) gq rfl).2
            have lq4 : w.heap.size ≤ v3.heap.size := lw
            have lq5 : p < v3.heap.size := rp.lt
            have rq : Row (v3.alloc (.cells #[.int .i64 0, .int .i64 0, .int .i64 0, .int .i64 0, .string ⟨#[]⟩] 25 (0, 0))) v3.heap.size 25 [.int .i64 0, .int .i64 0, .int .i64 0, .int .i64 0, .string ⟨#[]⟩] := Row.new' rfl rfl
            have rg : Row (v3.alloc (.cells #[.int .i64 0, .int .i64 0, .int .i64 0, .int .i64 0, .string ⟨#[]⟩] 25 (0, 0))) g 25 [.int .i64 wd, .int .i64 ht, .int .i64 0, .int .i64 0, .string B0] := rg.alloc (.cells #[.int .i64 0, .int .i64 0, .int .i64 0, .int .i64 0, .string ⟨#[]⟩] 25 (0, 0))
            have rr : Row (v3.alloc (.cells #[.int .i64 0, .int .i64 0, .int .i64 0, .int .i64 0, .string ⟨#[]⟩] 25 (0, 0))) gr 33 [.int .i64 wd, .int .i64 ht, .int .i64 x, .int .i64 y, .slice (some ⟨gq, 0, none⟩) ht cap] := rr.alloc (.cells #[.int .i64 0, .int .i64 0, .int .i64 0, .int .i64 0, .string ⟨#[]⟩] 25 (0, 0))
            have ho : (v3.alloc (.cells #[.int .i64 0, .int .i64 0, .int .i64 0, .int .i64 0, .string ⟨#[]⟩] 25 (0, 0))).ownsRow 0 9 1 (.slice (some ⟨gq, 0, none⟩) ht cap) ht (txt (N11.rows wd ht c)) := ho.alloc (.cells #[.int .i64 0, .int .i64 0, .int .i64 0, .int .i64 0, .string ⟨#[]⟩] 25 (0, 0))
            have rp : Row (v3.alloc (.cells #[.int .i64 0, .int .i64 0, .int .i64 0, .int .i64 0, .string ⟨#[]⟩] 25 (0, 0))) p 25 [.int .i64 0, .int .i64 0, .int .i64 0, .int .i64 0, .string ⟨#[]⟩] := rp.alloc (.cells #[.int .i64 0, .int .i64 0, .int .i64 0, .int .i64 0, .string ⟨#[]⟩] 25 (0, 0))
            have lw : w.heap.size ≤ (v3.alloc (.cells #[.int .i64 0, .int .i64 0, .int .i64 0, .int .i64 0, .string ⟨#[]⟩] 25 (0, 0))).heap.size := hHeld.2.size
            generalize v3.heap.size = q at *
            generalize (v3.alloc (.cells #[.int .i64 0, .int .i64 0, .int .i64 0, .int .i64 0, .string ⟨#[]⟩] 25 (0, 0))) = v4 at *
            exact leaf.out p q _ ⟨by omega, by omega, by omega, by omega, by omega, by omega, by omega, by omega, by omega⟩ rg rr ho rp rq hHeld
          · intro K hK
            go_simp
            refine hK.out _ _ ⟨hHeld.1.alloc _, hHeld.2.alloc hHeld.2.size _⟩ (fun hHeld => ?_)
            clear hK K
            try simp only [Act.put, List.setIfInBounds_toArray, List.set_cons_zero, List.set_cons_succ]
            have lq1 : g < v2.heap.size := rg.lt
            have lq2 : gr < v2.heap.size := rr.lt
            have lq3 : gq < v2.heap.size := ((World.ownsRow.lt ho) gq rfl).2
            have lq4 : w.heap.size ≤ v2.heap.size := lw
            have lq5 : p < v2.heap.size := rp.lt
            have rq : Row (v2.alloc (.cells #[.int .i64 0, .int .i64 0, .int .i64 0, .int .i64 0, .string ⟨#[]⟩] 25 (0, 0))) v2.heap.size 25 [.int .i64 0, .int .i64 0, .int .i64 0, .int .i64 0, .string ⟨#[]⟩] := Row.new' rfl rfl
            have rg : Row (v2.alloc (.cells #[.int .i64 0, .int .i64 0, .int .i64 0, .int .i64 0, .string ⟨#[]⟩] 25 (0, 0))) g 25 [.int .i64 wd, .int .i64 ht, .int .i64 0, .int .i64 0, .string B0] := rg.alloc (.cells #[.int .i64 0, .int .i64 0, .int .i64 0, .int .i64 0, .string ⟨#[]⟩] 25 (0, 0))
            have rr : Row (v2.alloc (.cells #[.int .i64 0, .int .i64 0, .int .i64 0, .int .i64 0, .string ⟨#[]⟩] 25 (0, 0))) gr 33 [.int .i64 wd, .int .i64 ht, .int .i64 x, .int .i64 y, .slice (some ⟨gq, 0, none⟩) ht cap] := rr.alloc (.cells #[.int .i64 0, .int .i64 0, .int .i64 0, .int .i64 0, .string ⟨#[]⟩] 25 (0, 0))
            have ho : (v2.alloc (.cells #[.int .i64 0, .int .i64 0, .int .i64 0, .int .i64 0, .string ⟨#[]⟩] 25 (0, 0))).ownsRow 0 9 1 (.slice (some ⟨gq, 0, none⟩) ht cap) ht (txt (N11.rows wd ht c)) := ho.alloc (.cells #[.int .i64 0, .int .i64 0, .int .i64 0, .int .i64 0, .string ⟨#[]⟩] 25 (0, 0))
            have rp : Row (v2.alloc (.cells #[.int .i64 0, .int .i64 0, .int .i64 0, .int .i64 0, .string ⟨#[]⟩] 25 (0, 0))) p 25 [.int .i64 0, .int .i64 0, .int .i64 0, .int .i64 0, .string ⟨#[]⟩] := rp.alloc (.cells #[.int .i64 0, .int .i64 0, .int .i64 0, .int .i64 0, .string ⟨#[]⟩] 25 (0, 0))
            have lw : w.heap.size ≤ (v2.alloc (.cells #[.int .i64 0, .int .i64 0, .int .i64 0, .int .i64 0, .string ⟨#[]⟩] 25 (0, 0))).heap.size := hHeld.2.size
            generalize v2.heap.size = q at *
            generalize (v2.alloc (.cells #[.int .i64 0, .int .i64 0, .int .i64 0, .int .i64 0, .string ⟨#[]⟩] 25 (0, 0))) = v3 at *
            refine one_d 11 (some 75) rfl (by kernel_rfl) ?_
            intro o ho1 hd
            cases ho1
            clear hd
            intro K hK
            go_simp
            refine (CK2.out _).mono ?_
            rintro e v4 ⟨rfl, bb⟩
            have hHeld2 := (⟨hHeld.1.below bb hHeld.1.lt, hHeld.2.trans (bb.mono hHeld.2.size)⟩ : _ ∧ _)
            have rg := rg.below bb rg.lt
            have rr := rr.below bb rr.lt
            have ho := ownN ho bb
            have rp := rp.below bb rp.lt
            have rq := rq.below bb rq.lt
            have lw := hHeld2.2.size
            refine hK.out _ _ hHeld2 (fun hHeld => ?_)
            clear hK K bb hHeld2
            try simp only [Act.put, List.setIfInBounds_toArray, List.set_cons_zero, List.set_cons_succ]
            exact leaf.out p q _ ⟨by omega, by omega, by omega, by omega, by omega, by omega, by omega, by omega, by omega⟩ rg rr ho rp rq hHeld
        · intro K hK
          go_simp
          refine hK.out _ _ ⟨hHeld.1.alloc _, hHeld.2.alloc hHeld.2.size _⟩ (fun hHeld => ?_)
          clear hK K
          try simp only [Act.put, List.setIfInBounds_toArray, List.set_cons_zero, List.set_cons_succ]
          have lq1 : g < v1.heap.size := rg.lt
          have lq2 : gr < v1.heap.size := rr.lt
          have lq3 : gq < v1.heap.size := ((World.ownsRow.lt ho) gq rfl).2
          have lq4 : w.heap.size ≤ v1.heap.size := lw
          have lq5 : p < v1.heap.size := rp.lt
          have rq : Row (v1.alloc (.cells #[.int .i64 0, .int .i64 0, .int .i64 0, .int .i64 0, .string ⟨#[]⟩] 25 (0, 0))) v1.heap.size 25 [.int .i64 0, .int .i64 0, .int .i64 0, .int .i64 0, .string ⟨#[]⟩] := Row.new' rfl rfl
          have rg : Row (v1.alloc (.cells #[.int .i64 0, .int .i64 0, .int .i64 0, .int .i64 0, .string ⟨#[]⟩] 25 (0, 0))) g 25 [.int .i64 wd, .int .i64 ht, .int .i64 0, .int .i64 0, .string B0] := rg.alloc (.cells #[.int .i64 0, .int .i64 0, .int .i64 0, .int .i64 0, .string ⟨#[]⟩] 25 (0, 0))
          have rr : Row (v1.alloc (.cells #[.int .i64 0, .int .i64 0, .int .i64 0, .int .i64 0, .string ⟨#[]⟩] 25 (0, 0))) gr 33 [.int .i64 wd, .int .i64 ht, .int .i64 x, .int .i64 y, .slice (some ⟨gq, 0, none⟩) ht cap] := rr.alloc (.cells #[.int .i64 0, .int .i64 0, .int .i64 0, .int .i64 0, .string ⟨#[]⟩] 25 (0, 0))
          have ho : (v1.alloc (.cells #[.int .i64 0, .int .i64 0, .int .i64 0, .int .i64 0, .string ⟨#[]⟩] 25 (0, 0))).ownsRow 0 9 1 (.slice (some ⟨gq, 0, none⟩) ht cap) ht (txt (N11.rows wd ht c)) := ho.alloc (.cells #[.int .i64 0, .int .i64 0, .int .i64 0, .int .i64 0, .string ⟨#[]⟩] 25 (0, 0))
          have rp : Row (v1.alloc (.cells #[.int .i64 0, .int .i64 0, .int .i64 0, .int .i64 0, .string ⟨#[]⟩] 25 (0, 0))) p 25 [.int .i64 0, .int .i64 0, .int .i64 0, .int .i64 0, .string ⟨#[]⟩] := rp.alloc (.cells #[.int .i64 0, .int .i64 0, .int .i64 0, .int .i64 0, .string ⟨#[]⟩] 25 (0, 0))
          have lw : w.heap.size ≤ (v1.alloc (.cells #[.int .i64 0, .int .i64 0, .int .i64 0, .int .i64 0, .string ⟨#[]⟩] 25 (0, 0))).heap.size := hHeld.2.size
          generalize v1.heap.size = q at *
          generalize (v1.alloc (.cells #[.int .i64 0, .int .i64 0, .int .i64 0, .int .i64 0, .string ⟨#[]⟩] 25 (0, 0))) = v2 at *
          refine one_d 7 (some 71) rfl (by kernel_rfl) ?_
          intro o ho1 hd
          cases ho1
          clear hd
          intro K hK
          go_simp
          refine (CK1.out _).mono ?_
          rintro e v3 ⟨rfl, bb⟩
          have hHeld2 := (⟨hHeld.1.below bb hHeld.1.lt, hHeld.2.trans (bb.mono hHeld.2.size)⟩ : _ ∧ _)
          have rg := rg.below bb rg.lt
          have rr := rr.below bb rr.lt
          have ho := ownN ho bb
          have rp := rp.below bb rp.lt
          have rq := rq.below bb rq.lt
          have lw := hHeld2.2.size
          refine hK.out _ _ hHeld2 (fun hHeld => ?_)
          clear hK K bb hHeld2
          try simp only [Act.put, List.setIfInBounds_toArray, List.set_cons_zero, List.set_cons_succ]
          refine one_d 11 (some 75) rfl (by kernel_rfl) ?_
          intro o ho1 hd
          cases ho1
          clear hd
          intro K hK
          go_simp
          refine (CK2.out _).mono ?_
          rintro e v4 ⟨rfl, bb⟩
          have hHeld2 := (⟨hHeld.1.below bb hHeld.1.lt, hHeld.2.trans (bb.mono hHeld.2.size)⟩ : _ ∧ _)
          have rg := rg.below bb rg.lt
          have rr := rr.below bb rr.lt
          have ho := ownN ho bb
          have rp := rp.below bb rp.lt
          have rq := rq.below bb rq.lt
          have lw := hHeld2.2.size
          refine hK.out _ _ hHeld2 (fun hHeld => ?_)
          clear hK K bb hHeld2
          try simp only [Act.put, List.setIfInBounds_toArray, List.set_cons_zero, List.set_cons_succ]
          exact leaf.out p q _ ⟨by omega, by omega, by omega, by omega, by omega, by omega, by omega, by omega, by omega⟩ rg rr ho rp rq hHeld
      · intro K hK
        go_simp
        refine hK.out _ _ ⟨hHeld.1.alloc _, hHeld.2.alloc hHeld.2.size _⟩ (fun hHeld => ?_)
        clear hK K
        try simp only [Act.put, List.setIfInBounds_toArray, List.set_cons_zero, List.set_cons_succ]
        have lq1 : g < v0.heap.size := rg.lt
        have lq2 : gr < v0.heap.size := rr.lt
        have lq3 : gq < v0.heap.size := ((World.ownsRow.lt ho) gq rfl).2
        have lq4 : w.heap.size ≤ v0.heap.size := lw
        have rq : Row (v0.alloc (.cells #[.int .i64 0, .int .i64 0, .int .i64 0, .int .i64 0, .string ⟨#[]⟩] 25 (0, 0))) v0.heap.size 25 [.int .i64 0, .int .i64 0, .int .i64 0, .int .i64 0, .string ⟨#[]⟩] := Row.new' rfl rfl
        have rg : Row (v0.alloc (.cells #[.int .i64 0, .int .i64 0, .int .i64 0, .int .i64 0, .string ⟨#[]⟩] 25 (0, 0))) g 25 [.int .i64 wd, .int .i64 ht, .int .i64 0, .int .i64 0, .string B0] := rg.alloc (.cells #[.int .i64 0, .int .i64 0, .int .i64 0, .int .i64 0, .string ⟨#[]⟩] 25 (0, 0))
        have rr : Row (v0.alloc (.cells #[.int .i64 0, .int .i64 0, .int .i64 0, .int .i64 0, .string ⟨#[]⟩] 25 (0, 0))) gr 33 [.int .i64 wd, .int .i64 ht, .int .i64 x, .int .i64 y, .slice (some ⟨gq, 0, none⟩) ht cap] := rr.alloc (.cells #[.int .i64 0, .int .i64 0, .int .i64 0, .int .i64 0, .string ⟨#[]⟩] 25 (0, 0))
        have ho : (v0.alloc (.cells #[.int .i64 0, .int .i64 0, .int .i64 0, .int .i64 0, .string ⟨#[]⟩] 25 (0, 0))).ownsRow 0 9 1 (.slice (some ⟨gq, 0, none⟩) ht cap) ht (txt (N11.rows wd ht c)) := ho.alloc (.cells #[.int .i64 0, .int .i64 0, .int .i64 0, .int .i64 0, .string ⟨#[]⟩] 25 (0, 0))
        have lw : w.heap.size ≤ (v0.alloc (.cells #[.int .i64 0, .int .i64 0, .int .i64 0, .int .i64 0, .string ⟨#[]⟩] 25 (0, 0))).heap.size := hHeld.2.size
        generalize v0.heap.size = q at *
        generalize (v0.alloc (.cells #[.int .i64 0, .int .i64 0, .int .i64 0, .int .i64 0, .string ⟨#[]⟩] 25 (0, 0))) = v1 at *
        refine two_d 7 12 rfl rfl (by kernel_rfl) ?_ ?_
        · intro K hK
          go_simp
          refine (CK1.out _).mono ?_
          rintro e v2 ⟨rfl, bb⟩
          have hHeld2 := (⟨hHeld.1.below bb hHeld.1.lt, hHeld.2.trans (bb.mono hHeld.2.size)⟩ : _ ∧ _)
          have rg := rg.below bb rg.lt
          have rr := rr.below bb rr.lt
          have ho := ownN ho bb
          have rq := rq.below bb rq.lt
          have lw := hHeld2.2.size
          refine hK.out _ _ hHeld2 (fun hHeld => ?_)
          clear hK K bb hHeld2
          try simp only [Act.put, List.setIfInBounds_toArray, List.set_cons_zero, List.set_cons_succ]
          refine two_d 11 12 rfl rfl (by kernel_rfl) ?_ ?_
          · intro K hK
            go_simp
            refine (CK2.out _).mono ?_
            rintro e v3 ⟨rfl, bb⟩
            have hHeld2 := (⟨hHeld.1.below bb hHeld.1.lt, hHeld.2.trans (bb.mono hHeld.2.size)⟩ : _ ∧ _)
            have rg := rg.below bb rg.lt
            have rr := rr.below bb rr.lt
            have ho := ownN ho bb
            have rq := rq.below bb rq.lt
            have lw := hHeld2.2.size
            refine hK.out _ _ hHeld2 (fun hHeld => ?_)
            clear hK K bb hHeld2
            try simp only [Act.put, List.setIfInBounds_toArray, List.set_cons_zero, List.set_cons_succ]
            refine one_d 12 (some 13) rfl (by kernel_rfl) ?_
            intro o ho1 hd
            cases ho1
            clear hd
            intro K hK
            go_simp
            refine hK.out _ _ ⟨hHeld.1.alloc _, hHeld.2.alloc hHeld.2.size _⟩ (fun hHeld => ?_)
            clear hK K
            try simp only [Act.put, List.setIfInBounds_toArray, List.set_cons_zero, List.set_cons_succ]
            have lp1 : g < v3.heap.size := rg.lt
            have lp2 : gr < v3.heap.size := rr.lt
            have lp3 : gq < v3.heap.size := ((World.ownsRow.lt ho) gq rfl).2
            have lp4 : w.heap.size ≤ v3.heap.size := lw
            have lp5 : q < v3.heap.size := rq.lt
            have rp : Row (v3.alloc (.cells #[.int .i64 0, .int .i64 0, .int .i64 0, .int .i64 0, .string ⟨#[]⟩] 25 (0, 0))) v3.heap.size 25 [.int .i64 0, .int .i64 0, .int .i64 0, .int .i64 0, .string ⟨#[]⟩] := Row.new' rfl rfl
            have rg : Row (v3.alloc (.cells #[.int .i64 0, .int .i64 0, .int .i64 0, .int .i64 0, .string ⟨#[]⟩] 25 (0, 0))) g 25 [.int .i64 wd, .int .i64 ht, .int .i64 0, .int .i64 0, .string B0] := rg.alloc (.cells #[.int .i64 0, .int .i64 0, .int .i64 0, .int .i64 0, .string ⟨#[]⟩] 25 (0, 0))
            have rr : Row (v3.alloc (.cells #[.int .i64 0, .int .i64 0, .int .i64 0, .int .i64 0, .string ⟨#[]⟩] 25 (0, 0))) gr 33 [.int .i64 wd, .int .i64 ht, .int .i64 x, .int .i64 y, .slice (some ⟨gq, 0, none⟩) ht cap] := rr.alloc (.cells #[.int .i64 0, .int .i64 0, .int .i64 0, .int .i64 0, .string ⟨#[]⟩] 25 (0, 0))
            have ho : (v3.alloc (.cells #[.int .i64 0, .int .i64 0, .int .i64 0, .int .i64 0, .string ⟨#[]⟩] 25 (0, 0))).ownsRow 0 9 1 (.slice (some ⟨gq, 0, none⟩) ht cap) ht (txt (N11.rows wd ht c)) := ho.alloc (.cells #[.int .i64 0, .int .i64 0, .int .i64 0, .int .i64 0, .string ⟨#[]⟩] 25 (0, 0))
            have rq : Row (v3.alloc (.cells #[.int .i64 0, .int .i64 0, .int .i64 0, .int .i64 0, .string ⟨#[]⟩] 25 (0, 0))) q 25 [.int .i64 0, .int .i64 0, .int .i64 0, .int .i64 0, .string ⟨#[]⟩] := rq.alloc (.cells #[.int .i64 0, .int .i64 0, .int .i64 0, .int .i64 0, .string ⟨#[]⟩] 25 (0, 0))
            have lw : w.heap.size ≤ (v3.alloc (.cells #[.int .i64 0, .int .i64 0, .int .i64 0, .int .i64 0, .string ⟨#[]⟩] 25 (0, 0))).heap.size := hHeld.2.size
            generalize v3.heap.size = p at *
            generalize (v3.alloc (.cells #[.int .i64 0, .int .i64 0, .int .i64 0, .int .i64 0, .string ⟨#[]⟩] 25 (0, 0))) = v4 at *
            exact leaf.out p q _ ⟨by omega, by omega, by omega, by omega, by omega, by omega, by omega, by omega, by omega⟩ rg rr ho rp rq hHeld
          · intro K hK
            go_simp
            refine hK.out _ _ ⟨hHeld.1.alloc _, hHeld.2.alloc hHeld.2.size _⟩ (fun hHeld => ?_)
            clear hK K
            try simp only [Act.put, List.setIfInBounds_toArray, List.set_cons_zero, List.set_cons_succ]
            have lp1 : g < v2.heap.size := rg.lt
            have lp2 : gr < v2.heap.size := rr.lt
            have lp3 : gq < v2.heap.size := ((World.ownsRow.lt ho) gq rfl).2
            have lp4 : w.heap.size ≤ v2.heap.size := lw
            have lp5 : q < v2.heap.size := rq.lt
            have rp : Row (v2.alloc (.cells #[.int .i64 0, .int .i64 0, .int .i64 0, .int .i64 0, .string ⟨#[]⟩] 25 (0, 0))) v2.heap.size 25 [.int .i64 0, .int .i64 0, .int .i64 0, .int .i64 0, .string ⟨#[]⟩] := Row.new' rfl rfl
            have rg : Row (v2.alloc (.cells #[.int .i64 0, .int .i64 0, .int .i64 0, .int .i64 0, .string ⟨#[]⟩] 25 (0, 0))) g 25 [.int .i64 wd, .int .i64 ht, .int .i64 0, .int .i64 0, .string B0] := rg.alloc (.cells #[.int .i64 0, .int .i64 0, .int .i64 0, .int .i64 0, .string ⟨#[]⟩] 25 (0, 0))
            have rr : Row (v2.alloc (.cells #[.int .i64 0, .int .i64 0, .int .i64 0, .int .i64 0, .string ⟨#[]⟩] 25 (0, 0))) gr 33 [.int .i64 wd, .int .i64 ht, .int .i64 x, .int .i64 y, .slice (some ⟨gq, 0, none⟩) ht cap] := rr.alloc (.cells #[.int .i64 0, .int .i64 0, .int .i64 0, .int .i64 0, .string ⟨#[]⟩] 25 (0, 0))
            have ho : (v2.alloc (.cells #[.int .i64 0, .int .i64 0, .int .i64 0, .int .i64 0, .string ⟨#[]⟩] 25 (0, 0))).ownsRow 0 9 1 (.slice (some ⟨gq, 0, none⟩) ht cap) ht (txt (N11.rows wd ht c)) := ho.alloc (.cells #[.int .i64 0, .int .i64 0, .int .i64 0, .int .i64 0, .string ⟨#[]⟩] 25 (0, 0))
            have rq : Row (v2.alloc (.cells #[.int .i64 0, .int .i64 0, .int .i64 0, .int .i64 0, .string ⟨#[]⟩] 25 (0, 0))) q 25 [.int .i64 0, .int .i64 0, .int .i64 0, .int .i64 0, .string ⟨#[]⟩] := rq.alloc (.cells #[.int .i64 0, .int .i64 0, .int .i64 0, .int .i64 0, .string ⟨#[]⟩] 25 (0, 0))
            have lw : w.heap.size ≤ (v2.alloc (.cells #[.int .i64 0, .int .i64 0, .int .i64 0, .int .i64 0, .string ⟨#[]⟩] 25 (0, 0))).heap.size := hHeld.2.size
            generalize v2.heap.size = p at *
            generalize (v2.alloc (.cells #[.int .i64 0, .int .i64 0, .int .i64 0, .int .i64 0, .string ⟨#[]⟩] 25 (0, 0))) = v3 at *
            refine one_d 11 (some 75) rfl (by kernel_rfl) ?_
            intro o ho1 hd
            cases ho1
            clear hd
            intro K hK
            go_simp
            refine (CK2.out _).mono ?_
            rintro e v4 ⟨rfl, bb⟩
            have hHeld2 := (⟨hHeld.1.below bb hHeld.1.lt, hHeld.2.trans (bb.mono hHeld.2.size)⟩ : _ ∧ _)
            have rg := rg.below bb rg.lt
            have rr := rr.below bb rr.lt
            have ho := ownN ho bb
            have rp := rp.below bb rp.lt
            have rq := rq.below bb rq.lt
            have lw := hHeld2.2.size
            refine hK.out _ _ hHeld2 (fun hHeld => ?_)
            clear hK K bb hHeld2
            try simp only [Act.put, List.setIfInBounds_toArray, List.set_cons_zero, List.set_cons_succ]
            exact leaf.out p q _ ⟨by omega, by omega, by omega, by omega, by omega, by omega, by omega, by omega, by omega⟩ rg rr ho rp rq hHeld
        · intro K hK
          go_simp
          refine hK.out _ _ ⟨hHeld.1.alloc _, hHeld.2.alloc hHeld.2.size _⟩ (fun hHeld => ?_)
          clear hK K
          try simp only [Act.put, List.setIfInBounds_toArray, List.set_cons_zero, List.set_cons_succ]
          have lp1 : g < v1.heap.size := rg.lt
          have lp2 : gr < v1.heap.size := rr.lt
          have lp3 : gq < v1.heap.size := ((World.ownsRow.lt ho) gq rfl).2
          have lp4 : w.heap.size ≤ v1.heap.size := lw
          have lp5 : q < v1.heap.size := rq.lt
          have rp : Row (v1.alloc (.cells #[.int .i64 0, .int .i64 0, .int .i64 0, .int .i64 0, .string ⟨#[]⟩] 25 (0, 0))) v1.heap.size 25 [.int .i64 0, .int .i64 0, .int .i64 0, .int .i64 0, .string ⟨#[]⟩] := Row.new' rfl rfl
          have rg : Row (v1.alloc (.cells #[.int .i64 0, .int .i64 0, .int .i64 0, .int .i64 0, .string ⟨#[]⟩] 25 (0, 0))) g 25 [.int .i64 wd, .int .i64 ht, .int .i64 0, .int .i64 0, .string B0] := rg.alloc (.cells #[.int .i64 0, .int .i64 0, .int .i64 0, .int .i64 0, .string ⟨#[]⟩] 25 (0, 0))
          have rr : Row (v1.alloc (.cells #[.int .i64 0, .int .i64 0, .int .i64 0, .int .i64 0, .string ⟨#[]⟩] 25 (0, 0))) gr 33 [.int .i64 wd, .int .i64 ht, .int .i64 x, .int .i64 y, .slice (some ⟨gq, 0, none⟩) ht cap] := rr.alloc (.cells #[.int .i64 0, .int .i64 0, .int .i64 0, .int .i64 0, .string ⟨#[]⟩] 25 (0, 0))
          have ho : (v1.alloc (.cells #[.int .i64 0, .int .i64 0, .int .i64 0, .int .i64 0, .string ⟨#[]⟩] 25 (0, 0))).ownsRow 0 9 1 (.slice (some ⟨gq, 0, none⟩) ht cap) ht (txt (N11.rows wd ht c)) := ho.alloc (.cells #[.int .i64 0, .int .i64 0, .int .i64 0, .int .i64 0, .string ⟨#[]⟩] 25 (0, 0))
          have rq : Row (v1.alloc (.cells #[.int .i64 0, .int .i64 0, .int .i64 0, .int .i64 0, .string ⟨#[]⟩] 25 (0, 0))) q 25 [.int .i64 0, .int .i64 0, .int .i64 0, .int .i64 0, .string ⟨#[]⟩] := rq.alloc (.cells #[.int .i64 0, .int .i64 0, .int .i64 0, .int .i64 0, .string ⟨#[]⟩] 25 (0, 0))
          have lw : w.heap.size ≤ (v1.alloc (.cells #[.int .i64 0, .int .i64 0, .int .i64 0, .int .i64 0, .string ⟨#[]⟩] 25 (0, 0))).heap.size := hHeld.2.size
          generalize v1.heap.size = p at *
          generalize (v1.alloc (.cells #[.int .i64 0, .int .i64 0, .int .i64 0, .int .i64 0, .string ⟨#[]⟩] 25 (0, 0))) = v2 at *
          refine one_d 7 (some 71) rfl (by kernel_rfl) ?_
          intro o ho1 hd
          cases ho1
          clear hd
          intro K hK
          go_simp
          refine (CK1.out _).mono ?_
          rintro e v3 ⟨rfl, bb⟩
          have hHeld2 := (⟨hHeld.1.below bb hHeld.1.lt, hHeld.2.trans (bb.mono hHeld.2.size)⟩ : _ ∧ _)
          have rg := rg.below bb rg.lt
          have rr := rr.below bb rr.lt
          have ho := ownN ho bb
          have rp := rp.below bb rp.lt
          have rq := rq.below bb rq.lt
          have lw := hHeld2.2.size
          refine hK.out _ _ hHeld2 (fun hHeld => ?_)
          clear hK K bb hHeld2
          try simp only [Act.put, List.setIfInBounds_toArray, List.set_cons_zero, List.set_cons_succ]
          refine one_d 11 (some 75) rfl (by kernel_rfl) ?_
          intro o ho1 hd
          cases ho1
          clear hd
          intro K hK
          go_simp
          refine (CK2.out _).mono ?_
          rintro e v4 ⟨rfl, bb⟩
          have hHeld2 := (⟨hHeld.1.below bb hHeld.1.lt, hHeld.2.trans (bb.mono hHeld.2.size)⟩ : _ ∧ _)
          have rg := rg.below bb rg.lt
          have rr := rr.below bb rr.lt
          have ho := ownN ho bb
          have rp := rp.below bb rp.lt
          have rq := rq.below bb rq.lt
          have lw := hHeld2.2.size
          refine hK.out _ _ hHeld2 (fun hHeld => ?_)
          clear hK K bb hHeld2
          try simp only [Act.put, List.setIfInBounds_toArray, List.set_cons_zero, List.set_cons_succ]
          exact leaf.out p q _ ⟨by omega, by omega, by omega, by omega, by omega, by omega, by omega, by omega, by omega⟩ rg rr ho rp rq hHeld
    · intro K hK
      go_simp
      refine hK.out _ _ ⟨hHeld.1.alloc _, hHeld.2.alloc hHeld.2.size _⟩ (fun hHeld => ?_)
      clear hK K
      try simp only [Act.put, List.setIfInBounds_toArray, List.set_cons_zero, List.set_cons_succ]
      have lp1 : g < w9.heap.size := rg.lt
      have lp2 : gr < w9.heap.size := rr.lt
      have lp3 : gq < w9.heap.size := ((World.ownsRow.lt ho) gq rfl).2
      have lp4 : w.heap.size ≤ w9.heap.size := lw
      have rp : Row (w9.alloc (.cells #[.int .i64 0, .int .i64 0, .int .i64 0, .int .i64 0, .string ⟨#[]⟩] 25 (0, 0))).drew w9.heap.size 25 [.int .i64 0, .int .i64 0, .int .i64 0, .int .i64 0, .string ⟨#[]⟩] := Row.new' rfl rfl
      have rg : Row (w9.alloc (.cells #[.int .i64 0, .int .i64 0, .int .i64 0, .int .i64 0, .string ⟨#[]⟩] 25 (0, 0))).drew g 25 [.int .i64 wd, .int .i64 ht, .int .i64 0, .int .i64 0, .string B0] := rg.alloc (.cells #[.int .i64 0, .int .i64 0, .int .i64 0, .int .i64 0, .string ⟨#[]⟩] 25 (0, 0))
      have rr : Row (w9.alloc (.cells #[.int .i64 0, .int .i64 0, .int .i64 0, .int .i64 0, .string ⟨#[]⟩] 25 (0, 0))).drew gr 33 [.int .i64 wd, .int .i64 ht, .int .i64 x, .int .i64 y, .slice (some ⟨gq, 0, none⟩) ht cap] := rr.alloc (.cells #[.int .i64 0, .int .i64 0, .int .i64 0, .int .i64 0, .string ⟨#[]⟩] 25 (0, 0))
      have ho : (w9.alloc (.cells #[.int .i64 0, .int .i64 0, .int .i64 0, .int .i64 0, .string ⟨#[]⟩] 25 (0, 0))).drew.ownsRow 0 9 1 (.slice (some ⟨gq, 0, none⟩) ht cap) ht (txt (N11.rows wd ht c)) := ho.alloc (.cells #[.int .i64 0, .int .i64 0, .int .i64 0, .int .i64 0, .string ⟨#[]⟩] 25 (0, 0))
      have lw : w.heap.size ≤ (w9.alloc (.cells #[.int .i64 0, .int .i64 0, .int .i64 0, .int .i64 0, .string ⟨#[]⟩] 25 (0, 0))).drew.heap.size := hHeld.2.size
      generalize w9.heap.size = p at *
      generalize (w9.alloc (.cells #[.int .i64 0, .int .i64 0, .int .i64 0, .int .i64 0, .string ⟨#[]⟩] 25 (0, 0))).drew = v0 at *
      refine two_d 2 13 rfl rfl (by kernel_rfl) ?_ ?_
      · intro K hK
        go_simp
        refine (CP.out _).mono ?_
        rintro e v1 ⟨rfl, bb⟩
        have hHeld2 := (⟨hHeld.1.below bb hHeld.1.lt, hHeld.2.trans (bb.mono hHeld.2.size)⟩ : _ ∧ _)
        have rg := rg.below bb rg.lt
        have rr := rr.below bb rr.lt
        have ho := ownN ho bb
        have rp := rp.below bb rp.lt
        have lw := hHeld2.2.size
        refine hK.out _ _ hHeld2 (fun hHeld => ?_)
        clear hK K bb hHeld2
        try simp only [Act.put, List.setIfInBounds_toArray, List.set_cons_zero, List.set_cons_succ]
        refine two_d 7 13 rfl rfl (by kernel_rfl) ?_ ?_
        · intro K hK
          go_simp
          refine (CK1.out _).mono ?_
          rintro e v2 ⟨rfl, bb⟩
          have hHeld2 := (⟨hHeld.1.below bb hHeld.1.lt, hHeld.2.trans (bb.mono hHeld.2.size)⟩ : _ ∧ _)
          have rg := rg.below bb rg.lt
          have rr := rr.below bb rr.lt
          have ho := ownN ho bb
          have rp := rp.below bb rp.lt
          have lw := hHeld2.2.size
          refine hK.out _ _ hHeld2 (fun hHeld => ?_)
          clear hK K bb hHeld2
          try simp only [Act.put, List.setIfInBounds_toArray, List.set_cons_zero, List.set_cons_succ]
          refine two_d 11 13 rfl rfl (by kernel_rfl) ?_ ?_
          · intro K hK
            go_simp
            refine (CK2.out _).mono ?_
            rintro e v3 ⟨rfl, bb⟩
            have hHeld2 := (⟨hHeld.1.below bb hHeld.1.lt, hHeld.2.trans (bb.mono hHeld.2.size)⟩ : _ ∧ _)
            have rg := rg.below bb rg.lt
            have rr := rr.below bb rr.lt
            have ho := ownN ho bb
            have rp := rp.below bb rp.lt
            have lw := hHeld2.2.size
            refine hK.out _ _ hHeld2 (fun hHeld => ?_)
            clear hK K bb hHeld2
            try simp only [Act.put, List.setIfInBounds_toArray, List.set_cons_zero, List.set_cons_succ]
            refine one_d 13 (some 14) rfl (by kernel_rfl) ?_
            intro o ho1 hd
            cases ho1
            clear hd
            intro K hK
            go_simp
            refine hK.out _ _ ⟨hHeld.1.alloc _, hHeld.2.alloc hHeld.2.size _⟩ (fun hHeld => ?_)
            clear hK K
            try simp only [Act.put, List.setIfInBounds_toArray, List.set_cons_zero, List.set_cons_succ]
            have lq1 : g < v3.heap.size := rg.lt
            have lq2 : gr < v3.heap.size := rr.lt
            have lq3 : gq < v3.heap.size := ((World.ownsRow.lt ho) gq rfl).2
            have lq4 : w.heap.size ≤ v3.heap.size := lw
            have lq5 : p < v3.heap.size := rp.lt
            have rq : Row (v3.alloc (.cells #[.int .i64 0, .int .i64 0, .int .i64 0, .int .i64 0, .string ⟨#[]⟩] 25 (0, 0))) v3.heap.size 25 [.int .i64 0, .int .i64 0, .int .i64 0, .int .i64 0, .string ⟨#[]⟩] := Row.new' rfl rfl
            have rg : Row (v3.alloc (.cells #[.int .i64 0, .int .i64 0, .int .i64 0, .int .i64 0, .string ⟨#[]⟩] 25 (0, 0))) g 25 [.int .i64 wd, .int .i64 ht, .int .i64 0, .int .i64 0, .string B0] := rg.alloc (.cells #[.int .i64 0, .int .i64 0, .int .i64 0, .int .i64 0, .string ⟨#[]⟩] 25 (0, 0))
            have rr : Row (v3.alloc (.cells #[.int .i64 0, .int .i64 0, .int .i64 0, .int .i64 0, .string ⟨#[]⟩] 25 (0, 0))) gr 33 [.int .i64 wd, .int .i64 ht, .int .i64 x, .int .i64 y, .slice (some ⟨gq, 0, none⟩) ht cap] := rr.alloc (.cells #[.int .i64 0, .int .i64 0, .int .i64 0, .int .i64 0, .string ⟨#[]⟩] 25 (0, 0))
            have ho : (v3.alloc (.cells #[.int .i64 0, .int .i64 0, .int .i64 0, .int .i64 0, .string ⟨#[]⟩] 25 (0, 0))).ownsRow 0 9 1 (.slice (some ⟨gq, 0, none⟩) ht cap) ht (txt (N11.rows wd ht c)) := ho.alloc (.cells #[.int .i64 0, .int .i64 0, .int .i64 0, .int .i64 0, .string ⟨#[]⟩] 25 (0, 0))
            have rp : Row (v3.alloc (.cells #[.int .i64 0, .int .i64 0, .int .i64 0, .int .i64 0, .string ⟨#[]⟩] 25 (0, 0))) p 25 [.int .i64 0, .int .i64 0, .int .i64 0, .int .i64 0, .string ⟨#[]⟩] := rp.alloc (.cells #[.int .i64 0, .int .i64 0, .int .i64 0, .int .i64 0, .string ⟨#[]⟩] 25 (0, 0))
            have lw : w.heap.size ≤ (v3.alloc (.cells #[.int .i64 0, .int .i64 0, .int .i64 0, .int .i64 0, .string ⟨#[]⟩] 25 (0, 0))).heap.size := hHeld.2.size
            generalize v3.heap.size = q at *
            generalize (v3.alloc (.cells #[.int .i64 0, .int .i64 0, .int .i64 0, .int .i64 0, .string ⟨#[]⟩] 25 (0, 0))) = v4 at *
            exact leaf.out p q _ ⟨by omega, by omega, by omega, by omega, by omega, by omega, by omega, by omega, by omega⟩ rg rr ho rp rq hHeld
          · intro K hK
            go_simp
            refine hK.out _ _ ⟨hHeld.1.alloc _, hHeld.2.alloc hHeld.2.size _⟩ (fun hHeld => ?_)
            clear hK K
            try simp only [Act.put, List.setIfInBounds_toArray, List.set_cons_zero, List.set_cons_succ]
            have lq1 : g < v2.heap.size := rg.lt
            have lq2 : gr < v2.heap.size := rr.lt
            have lq3 : gq < v2.heap.size := ((World.ownsRow.lt ho) gq rfl).2
            have lq4 : w.heap.size ≤ v2.heap.size := lw
            have lq5 : p < v2.heap.size := rp.lt
            have rq : Row (v2.alloc (.cells #[.int .i64 0, .int .i64 0, .int .i64 0, .int .i64 0, .string ⟨#[]⟩] 25 (0, 0))) v2.heap.size 25 [.int .i64 0, .int .i64 0, .int .i64 0, .int .i64 0, .string ⟨#[]⟩] := Row.new' rfl rfl
            have rg : Row (v2.alloc (.cells #[.int .i64 0, .int .i64 0, .int .i64 0, .int .i64 0, .string ⟨#[]⟩] 25 (0, 0))) g 25 [.int .i64 wd, .int .i64 ht, .int .i64 0, .int .i64 0, .string B0] := rg.alloc (.cells #[.int .i64 0, .int .i64 0, .int .i64 0, .int .i64 0, .string ⟨#[]⟩] 25 (0, 0))
            have rr : Row (v2.alloc (.cells #[.int .i64 0, .int .i64 0, .int .i64 0, .int .i64 0, .string ⟨#[]⟩] 25 (0, 0))) gr 33 [.int .i64 wd, .int .i64 ht, .int .i64 x, .int .i64 y, .slice (some ⟨gq, 0, none⟩) ht cap] := rr.alloc (.cells #[.int .i64 0, .int .i64 0, .int .i64 0, .int .i64 0, .string ⟨#[]⟩] 25 (0, 0))
            have ho : (v2.alloc (.cells #[.int .i64 0, .int .i64 0, .int .i64 0, .int .i64 0, .string ⟨#[]⟩] 25 (0, 0))).ownsRow 0 9 1 (.slice (some ⟨gq, 0, none⟩) ht cap) ht (txt (N11.rows wd ht c)) := ho.alloc (.cells #[.int .i64 0, .int .i64 0, .int .i64 0, .int .i64 0, .string ⟨#[]⟩] 25 (0, 0))
            have rp : Row (v2.alloc (.cells #[.int .i64 0, .int .i64 0, .int .i64 0, .int .i64 0, .string ⟨#[]⟩] 25 (0, 0))) p 25 [.int .i64 0, .int .i64 0, .int .i64 0, .int .i64 0, .string ⟨#[]⟩] := rp.alloc (.cells #[.int .i64 0, .int .i64 0, .int .i64 0, .int .i64 0, .string ⟨#[]⟩] 25 (0, 0))
            have lw : w.heap.size ≤ (v2.alloc (.cells #[.int .i64 0, .int .i64 0, .int .i64 0, .int .i64 0, .string ⟨#[]⟩] 25 (0, 0))).heap.size := hHeld.2.size
            generalize v2.heap.size = q at *
            generalize (v2.alloc (.cells #[.int .i64 0, .int .i64 0, .int .i64 0, .int .i64 0, .string ⟨#[]⟩] 25 (0, 0))) = v3 at *
            refine one_d 11 (some 75) rfl (by kernel_rfl) ?_
            intro o ho1 hd
            cases ho1
            clear hd
            intro K hK
            go_simp
            refine (CK2.out _).mono ?_
            rintro e v4 ⟨rfl, bb⟩
            have hHeld2 := (⟨hHeld.1.below bb hHeld.1.lt, hHeld.2.trans (bb.mono hHeld.2.size)⟩ : _ ∧ _)
            have rg := rg.below bb rg.lt
            have rr := rr.below bb rr.lt
            have ho := ownN ho bb
            have rp := rp.below bb rp.lt
            have rq := rq.below bb rq.lt
            have lw := hHeld2.2.size
            refine hK.out _ _ hHeld2 (fun hHeld => ?_)
            clear hK K bb hHeld2
            try simp only [Act.put, List.setIfInBounds_toArray, List.set_cons_zero, List.set_cons_succ]
            exact leaf.out p q _ ⟨by omega, by omega, by omega, by omega, by omega, by omega, by omega, by omega, by omega⟩ rg rr ho rp rq hHeld
        · intro K hK
          go_simp
          refine hK.out _ _ ⟨hHeld.1.alloc _, hHeld.2.alloc hHeld.2.size _⟩ (fun hHeld => ?_)
          clear hK K
          try simp only [Act.put, List.setIfInBounds_toArray, List.set_cons_zero, List.set_cons_succ]
          have lq1 : g < v1.heap.size := rg.lt
          have lq2 : gr < v1.heap.size := rr.lt
          have lq3 : gq < v1.heap.size := ((World.ownsRow.lt ho) gq rfl).2
          have lq4 : w.heap.size ≤ v1.heap.size := lw
          have lq5 : p < v1.heap.size := rp.lt
          have rq : Row (v1.alloc (.cells #[.int .i64 0, .int .i64 0, .int .i64 0, .int .i64 0, .string ⟨#[]⟩] 25 (0, 0))) v1.heap.size 25 [.int .i64 0, .int .i64 0, .int .i64 0, .int .i64 0, .string ⟨#[]⟩] := Row.new' rfl rfl
          have rg : Row (v1.alloc (.cells #[.int .i64 0, .int .i64 0, .int .i64 0, .int .i64 0, .string ⟨#[]⟩] 25 (0, 0))) g 25 [.int .i64 wd, .int .i64 ht, .int .i64 0, .int .i64 0, .string B0] := rg.alloc (.cells #[.int .i64 0, .int .i64 0, .int .i64 0, .int .i64 0, .string ⟨#[]⟩] 25 (0, 0))
          have rr : Row (v1.alloc (.cells #[.int .i64 0, .int .i64 0, .int .i64 0, .int .i64 0, .string ⟨#[]⟩] 25 (0, 0))) gr 33 [.int .i64 wd, .int .i64 ht, .int .i64 x, .int .i64 y, .slice (some ⟨gq, 0, none⟩) ht cap] := rr.alloc (.cells #[.int .i64 0, .int .i64 0, .int .i64 0, .int .i64 0, .string ⟨#[]⟩] 25 (0, 0))
          have ho : (v1.alloc (.cells #[.int .i64 0, .int .i64 0, .int .i64 0, .int .i64 0, .string ⟨#[]⟩] 25 (0, 0))).ownsRow 0 9 1 (.slice (some ⟨gq, 0, none⟩) ht cap) ht (txt (N11.rows wd ht c)) := ho.alloc (.cells #[.int .i64 0, .int .i64 0, .int .i64 0, .int .i64 0, .string ⟨#[]⟩] 25 (0, 0))
          have rp : Row (v1.alloc (.cells #[.int .i64 0, .int .i64 0, .int .i64 0, .int .i64 0, .string ⟨#[]⟩] 25 (0, 0))) p 25 [.int .i64 0, .int .i64 0, .int .i64 0, .int .i64 0, .string ⟨#[]⟩] := rp.alloc (.cells #[.int .i64 0, .int .i64 0, .int .i64 0, .int .i64 0, .string ⟨#[]⟩] 25 (0, 0))
          have lw : w.heap.size ≤ (v1.alloc (.cells #[.int .i64 0, .int .i64 0, .int .i64 0, .int .i64 0, .string ⟨#[]⟩] 25 (0, 0))).heap.size := hHeld.2.size
          generalize v1.heap.size = q at *
          generalize (v1.alloc (.cells #[.int .i64 0, .int .i64 0, .int .i64 0, .int .i64 0, .string ⟨#[]⟩] 25 (0, 0))) = v2 at *
          refine one_d 7 (some 71) rfl (by kernel_rfl) ?_
          intro o ho1 hd
          cases ho1
          clear hd
          intro K hK
          go_simp
          refine (CK1.out _).mono ?_
          rintro e v3 ⟨rfl, bb⟩
          have hHeld2 := (⟨hHeld.1.below bb hHeld.1.lt, hHeld.2.trans (bb.mono hHeld.2.size)⟩ : _ ∧ _)
          have rg := rg.below bb rg.lt
          have rr := rr.below bb rr.lt
          have ho := ownN ho bb
          have rp := rp.below bb rp.lt
          have rq := rq.below bb rq.lt
          have lw := hHeld2.2.size
          refine hK.out _ _ hHeld2 (fun hHeld => ?_)
          clear hK K bb hHeld2
          try simp only [Act.put, List.setIfInBounds_toArray, List.set_cons_zero, List.set_cons_succ]
          refine one_d 11 (some 75) rfl (by kernel_rfl) ?_
          intro o ho1 hd
          cases ho1
          clear hd
          intro K hK
          go_simp
          refine (CK2.out _).mono ?_
          rintro e v4 ⟨rfl, bb⟩
          have hHeld2 := (⟨hHeld.1.below bb hHeld.1.lt, hHeld.2.trans (bb.mono hHeld.2.size)⟩ : _ ∧ _)
          have rg := rg.below bb rg.lt
          have rr := rr.below bb rr.lt
          have ho := ownN ho bb
          have rp := rp.below bb rp.lt
          have rq := rq.below bb rq.lt
          have lw := hHeld2.2.size
          refine hK.out _ _ hHeld2 (fun hHeld => ?_)
          clear hK K bb hHeld2
          try simp only [Act.put, List.setIfInBounds_toArray, List.set_cons_zero, List.set_cons_succ]
          exact leaf.out p q _ ⟨by omega, by omega, by omega, by omega, by omega, by omega, by omega, by omega, by omega⟩ rg rr ho rp rq hHeld
      · intro K hK
        go_simp
        refine hK.out _ _ ⟨hHeld.1.alloc _, hHeld.2.alloc hHeld.2.size _⟩ (fun hHeld => ?_)
        clear hK K
        try simp only [Act.put, List.setIfInBounds_toArray, List.set_cons_zero, List.set_cons_succ]
        have lq1 : g < v0.heap.size := rg.lt
        have lq2 : gr < v0.heap.size := rr.lt
        have lq3 : gq < v0.heap.size := ((World.ownsRow.lt ho) gq rfl).2
        have lq4 : w.heap.size ≤ v0.heap.size := lw
        have lq5 : p < v0.heap.size := rp.lt
        have rq : Row (v0.alloc (.cells #[.int .i64 0, .int .i64 0, .int .i64 0, .int .i64 0, .string ⟨#[]⟩] 25 (0, 0))) v0.heap.size 25 [.int .i64 0, .int .i64 0, .int .i64 0, .int .i64 0, .string ⟨#[]⟩] := Row.new' rfl rfl
        have rg : Row (v0.alloc (.cells #[.int .i64 0, .int .i64 0, .int .i64 0, .int .i64 0, .string ⟨#[]⟩] 25 (0, 0))) g 25 [.int .i64 wd, .int .i64 ht, .int .i64 0, .int .i64 0, .string B0] := rg.alloc (.cells #[.int .i64 0, .int .i64 0, .int .i64 0, .int .i64 0, .string ⟨#[]⟩] 25 (0, 0))
        have rr : Row (v0.alloc (.cells #[.int .i64 0, .int .i64 0, .int .i64 0, .int .i64 0, .string ⟨#[]⟩] 25 (0, 0))) gr 33 [.int .i64 wd, .int .i64 ht, .int .i64 x, .int .i64 y, .slice (some ⟨gq, 0, none⟩) ht cap] := rr.alloc (.cells #[.int .i64 0, .int .i64 0, .int .i64 0, .int .i64 0, .string ⟨#[]⟩] 25 (0, 0))
        have ho : (v0.alloc (.cells #[.int .i64 0, .int .i64 0, .int .i64 0, .int .i64 0, .string ⟨#[]⟩] 25 (0, 0))).ownsRow 0 9 1 (.slice (some ⟨gq, 0, none⟩) ht cap) ht (txt (N11.rows wd ht c)) := ho.alloc (.cells #[.int .i64 0, .int .i64 0, .int .i64 0, .int .i64 0, .string ⟨#[]⟩] 25 (0, 0))
        have rp : Row (v0.alloc (.cells #[.int .i64 0, .int .i64 0, .int .i64 0, .int .i64 0, .string ⟨#[]⟩] 25 (0, 0))) p 25 [.int .i64 0, .int .i64 0, .int .i64 0, .int .i64 0, .string ⟨#[]⟩] := rp.alloc (.cells #[.int .i64 0, .int .i64 0, .int .i64 0, .int .i64 0, .string ⟨#[]⟩] 25 (0, 0))
        have lw : w.heap.size ≤ (v0.alloc (.cells #[.int .i64 0, .int .i64 0, .int .i64 0, .int .i64 0, .string ⟨#[]⟩] 25 (0, 0))).heap.size := hHeld.2.size
        generalize v0.heap.size = q at *
        generalize (v0.alloc (.cells #[.int .i64 0, .int .i64 0, .int .i64 0, .int .i64 0, .string ⟨#[]⟩] 25 (0, 0))) = v1 at *
        refine one_d 2 (some 66) rfl (by kernel_rfl) ?_
        intro o ho1 hd
        cases ho1
        clear hd
        intro K hK
        go_simp
        refine (CP.out _).mono ?_
        rintro e v2 ⟨rfl, bb⟩
        have hHeld2 := (⟨hHeld.1.below bb hHeld.1.lt, hHeld.2.trans (bb.mono hHeld.2.size)⟩ : _ ∧ _)
        have rg := rg.below bb rg.lt
        have rr := rr.below bb rr.lt
        have ho := ownN ho bb
        have rp := rp.below bb rp.lt
        have rq := rq.below bb rq.lt
        have lw := hHeld2.2.size
        refine hK.out _ _ hHeld2 (fun hHeld => ?_)
        clear hK K bb hHeld2
        try simp only [Act.put, List.setIfInBounds_toArray, List.set_cons_zero, List.set_cons_succ]
        refine one_d 7 (some 71) rfl (by kernel_rfl) ?_
        intro o ho1 hd
        cases ho1
        clear hd
        intro K hK
        go_simp
        refine (CK1.out _).mono ?_
        rintro e v3 ⟨rfl, bb⟩
        have hHeld2 := (⟨hHeld.1.below bb hHeld.1.lt, hHeld.2.trans (bb.mono hHeld.2.size)⟩ : _ ∧ _)
        have rg := rg.below bb rg.lt
        have rr := rr.below bb rr.lt
        have ho := ownN ho bb
        have rp := rp.below bb rp.lt
        have rq := rq.below bb rq.lt
        have lw := hHeld2.2.size
        refine hK.out _ _ hHeld2 (fun hHeld => ?_)
        clear hK K bb hHeld2
        try simp only [Act.put, List.setIfInBounds_toArray, List.set_cons_zero, List.set_cons_succ]
        refine one_d 11 (some 75) rfl (by kernel_rfl) ?_
        intro o ho1 hd
        cases ho1
        clear hd
        intro K hK
        go_simp
        refine (CK2.out _).mono ?_
        rintro e v4 ⟨rfl, bb⟩
        have hHeld2 := (⟨hHeld.1.below bb hHeld.1.lt, hHeld.2.trans (bb.mono hHeld.2.size)⟩ : _ ∧ _)
        have rg := rg.below bb rg.lt
        have rr := rr.below bb rr.lt
        have ho := ownN ho bb
        have rp := rp.below bb rp.lt
        have rq := rq.below bb rq.lt
        have lw := hHeld2.2.size
        refine hK.out _ _ hHeld2 (fun hHeld => ?_)
        clear hK K bb hHeld2
        try simp only [Act.put, List.setIfInBounds_toArray, List.set_cons_zero, List.set_cons_succ]
        exact leaf.out p q _ ⟨by omega, by omega, by omega, by omega, by omega, by omega, by omega, by omega, by omega⟩ rg rr ho rp rq hHeld
    · intro K hK
      go_simp
      refine hK.out _ _ ⟨hHeld.1.alloc _, hHeld.2.alloc hHeld.2.size _⟩ (fun hHeld => ?_)
      clear hK K
      try simp only [Act.put, List.setIfInBounds_toArray, List.set_cons_zero, List.set_cons_succ]
      have lq1 : g < w9.heap.size := rg.lt
      have lq2 : gr < w9.heap.size := rr.lt
      have lq3 : gq < w9.heap.size := ((World.ownsRow.lt ho) gq rfl).2
      have lq4 : w.heap.size ≤ w9.heap.size := lw
      have rq : Row (w9.alloc (.cells #[.int .i64 0, .int .i64 0, .int .i64 0, .int .i64 0, .string ⟨#[]⟩] 25 (0, 0))).drew w9.heap.size 25 [.int .i64 0, .int .i64 0, .int .i64 0, .int .i64 0, .string ⟨#[]⟩] := Row.new' rfl rfl
      have rg : Row (w9.alloc (.cells #[.int .i64 0, .int .i64 0, .int .i64 0, .int .i64 0, .string ⟨#[]⟩] 25 (0, 0))).drew g 25 [.int .i64 wd, .int .i64 ht, .int .i64 0, .int .i64 0, .string B0] := rg.alloc (.cells #[.int .i64 0, .int .i64 0, .int .i64 0, .int .i64 0, .string ⟨#[]⟩] 25 (0, 0))
      have rr : Row (w9.alloc (.cells #[.int .i64 0, .int .i64 0, .int .i64 0, .int .i64 0, .string ⟨#[]⟩] 25 (0, 0))).drew gr 33 [.int .i64 wd, .int .i64 ht, .int .i64 x, .int .i64 y, .slice (some ⟨gq, 0, none⟩) ht cap] := rr.alloc (.cells #[.int .i64 0, .int .i64 0, .int .i64 0, .int .i64 0, .string ⟨#[]⟩] 25 (0, 0))
      have ho : (w9.alloc (.cells #[.int .i64 0, .int .i64 0, .int .i64 0, .int .i64 0, .string ⟨#[]⟩] 25 (0, 0))).drew.ownsRow 0 9 1 (.slice (some ⟨gq, 0, none⟩) ht cap) ht (txt (N11.rows wd ht c)) := ho.alloc (.cells #[.int .i64 0, .int .i64 0, .int .i64 0, .int .i64 0, .string ⟨#[]⟩] 25 (0, 0))
      have lw : w.heap.size ≤ (w9.alloc (.cells #[.int .i64 0, .int .i64 0, .int .i64 0, .int .i64 0, .string ⟨#[]⟩] 25 (0, 0))).drew.heap.size := hHeld.2.size
      generalize w9.heap.size = q at *
      generalize (w9.alloc (.cells #[.int .i64 0, .int .i64 0, .int .i64 0, .int .i64 0, .string ⟨#[]⟩] 25 (0, 0))).drew = v0 at *
      refine two_d 2 12 rfl rfl (by kernel_rfl) ?_ ?_
      · intro K hK
        go_simp
        refine (CP.out _).mono ?_
        rintro e v1 ⟨rfl, bb⟩
        have hHeld2 := (⟨hHeld.1.below bb hHeld.1.lt, hHeld.2.trans (bb.mono hHeld.2.size)⟩ : _ ∧ _)
        have rg := rg.below bb rg.lt
        have rr := rr.below bb rr.lt
        have ho := ownN ho bb
        have rq := rq.below bb rq.lt
        have lw := hHeld2.2.size
        refine hK.out _ _ hHeld2 (fun hHeld => ?_)
        clear hK K bb hHeld2
        try simp only [Act.put, List.setIfInBounds_toArray, List.set_cons_zero, List.set_cons_succ]
        refine two_d 7 12 rfl rfl (by kernel_rfl) ?_ ?_
        · intro K hK
          go_simp
          refine (CK1.out _).mono ?_
          rintro e v2 ⟨rfl, bb⟩
          have hHeld2 := (⟨hHeld.1.below bb hHeld.1.lt, hHeld.2.trans (bb.mono hHeld.2.size)⟩ : _ ∧ _)
          have rg := rg.below bb rg.lt
          have rr := rr.below bb rr.lt
          have ho := ownN ho bb
          have rq := rq.below bb rq.lt
          have lw := hHeld2.2.size
          refine hK.out _ _ hHeld2 (fun hHeld => ?_)
          clear hK K bb hHeld2
          try simp only [Act.put, List.setIfInBounds_toArray, List.set_cons_zero, List.set_cons_succ]
          refine two_d 11 12 rfl rfl (by kernel_rfl) ?_ ?_
          · intro K hK
            go_simp
            refine (CK2.out _).mono ?_
            rintro e v3 ⟨rfl, bb⟩
            have hHeld2 := (⟨hHeld.1.below bb hHeld.1.lt, hHeld.2.trans (bb.mono hHeld.2.size)⟩ : _ ∧ _)
            have rg := rg.below bb rg.lt
            have rr := rr.below bb rr.lt
            have ho := ownN ho bb
            have rq := rq.below bb rq.lt
            have lw := hHeld2.2.size
            refine hK.out _ _ hHeld2 (fun hHeld => ?_)
            clear hK K bb hHeld2
            try simp only [Act.put, List.setIfInBounds_toArray, List.set_cons_zero, List.set_cons_succ]
            refine one_d 12 (some 13) rfl (by kernel_rfl) ?_
            intro o ho1 hd
            cases ho1
            clear hd
            intro K hK
            go_simp
            refine hK.out _ _ ⟨hHeld.1.alloc _, hHeld.2.alloc hHeld.2.size _⟩ (fun hHeld => ?_)
            clear hK K
            try simp only [Act.put, List.setIfInBounds_toArray, List.set_cons_zero, List.set_cons_succ]
            have lp1 : g < v3.heap.size := rg.lt
            have lp2 : gr < v3.heap.size := rr.lt
            have lp3 : gq < v3.heap.size := ((World.ownsRow.lt ho) gq rfl).2
            have lp4 : w.heap.size ≤ v3.heap.size := lw
            have lp5 : q < v3.heap.size := rq.lt
            have rp : Row (v3.alloc (.cells #[.int .i64 0, .int .i64 0, .int .i64 0, .int .i64 0, .string ⟨#[]⟩] 25 (0, 0))) v3.heap.size 25 [.int .i64 0, .int .i64 0, .int .i64 0, .int .i64 0, .string ⟨#[]⟩] := Row.new' rfl rfl
            have rg : Row (v3.alloc (.cells #[.int .i64 0, .int .i64 0, .int .i64 0, .int .i64 0, .string ⟨#[]⟩] 25 (0, 0))) g 25 [.int .i64 wd, .int .i64 ht, .int .i64 0, .int .i64 0, .string B0] := rg.alloc (.cells #[.int .i64 0, .int .i64 0, .int .i64 0, .int .i64 0, .string ⟨#[]⟩] 25 (0, 0))
            have rr : Row (v3.alloc (.cells #[.int .i64 0, .int .i64 0, .int .i64 0, .int .i64 0, .string ⟨#[]⟩] 25 (0, 0))) gr 33 [.int .i64 wd, .int .i64 ht, .int .i64 x, .int .i64 y, .slice (some ⟨gq, 0, none⟩) ht cap] := rr.alloc (.cells #[.int .i64 0, .int .i64 0, .int .i64 0, .int .i64 0, .string ⟨#[]⟩] 25 (0, 0))
            have ho : (v3.alloc (.cells #[.int .i64 0, .int .i64 0, .int .i64 0, .int .i64 0, .string ⟨#[]⟩] 25 (0, 0))).ownsRow 0 9 1 (.slice (some ⟨gq, 0, none⟩) ht cap) ht (txt (N11.rows wd ht c)) := ho.alloc (.cells #[.int .i64 0, .int .i64 0, .int .i64 0, .int .i64 0, .string ⟨#[]⟩] 25 (0, 0))
            have rq : Row (v3.alloc (.cells #[.int .i64 0, .int .i64 0, .int .i64 0, .int .i64 0, .string ⟨#[]⟩] 25 (0, 0))) q 25 [.int .i64 0, .int .i64 0, .int .i64 0, .int .i64 0, .string ⟨#[]⟩] := rq.alloc (.cells #[.int .i64 0, .int .i64 0, .int .i64 0, .int .i64 0, .string ⟨#[]⟩] 25 (0, 0))
            have lw : w.heap.size ≤ (v3.alloc (.cells #[.int .i64 0, .int .i64 0, .int .i64 0, .int .i64 0, .string ⟨#[]⟩] 25 (0, 0))).heap.size := hHeld.2.size
            generalize v3.heap.size = p at *
            generalize (v3.alloc (.cells #[.int .i64 0, .int .i64 0, .int .i64 0, .int .i64 0, .string ⟨#[]⟩] 25 (0, 0))) = v4 at *
            exact leaf.out p q _ ⟨by omega, by omega, by omega, by omega, by omega, by omega, by omega, by omega, by omega⟩ rg rr ho rp rq hHeld
          · intro K hK
            go_simp
            refine hK.out _ _ ⟨hHeld.1.alloc _, hHeld.2.alloc hHeld.2.size _⟩ (fun hHeld => ?_)
            clear hK K
            try simp only [Act.put, List.setIfInBounds_toArray, List.set_cons_zero, List.set_cons_succ]
            have lp1 : g < v2.heap.size := rg.lt
            have lp2 : gr < v2.heap.size := rr.lt
            have lp3 : gq < v2.heap.size := ((World.ownsRow.lt ho) gq rfl).2
            have lp4 : w.heap.size ≤ v2.heap.size := lw
            have lp5 : q < v2.heap.size := rq.lt
            have rp : Row (v2.alloc (.cells #[.int .i64 0, .int .i64 0, .int .i64 0, .int .i64 0, .string ⟨#[]⟩] 25 (0, 0))) v2.heap.size 25 [.int .i64 0, .int .i64 0, .int .i64 0, .int .i64 0, .string ⟨#[]⟩] := Row.new' rfl rfl
            have rg : Row (v2.alloc (.cells #[.int .i64 0, .int .i64 0, .int .i64 0, .int .i64 0, .string ⟨#[]⟩] 25 (0, 0))) g 25 [.int .i64 wd, .int .i64 ht, .int .i64 0, .int .i64 0, .string B0] := rg.alloc (.cells #[.int .i64 0, .int .i64 0, .int .i64 0, .int .i64 0, .string ⟨#[]⟩] 25 (0, 0))
            have rr : Row (v2.alloc (.cells #[.int .i64 0, .int .i64 0, .int .i64 0, .int .i64 0, .string ⟨#[]⟩] 25 (0, 0))) gr 33 [.int .i64 wd, .int .i64 ht, .int .i64 x, .int .i64 y, .slice (some ⟨gq, 0, none⟩) ht cap] := rr.alloc (.cells #[.int .i64 0, .int .i64 0, .int .i64 0, .int .i64 0, .string ⟨#[]⟩] 25 (0, 0))
            have ho : (v2.alloc (.cells #[.int .i64 0, .int .i64 0, .int .i64 0, .int .i64 0, .string ⟨#[]⟩] 25 (0, 0))).ownsRow 0 9 1 (.slice (some ⟨gq, 0, none⟩) ht cap) ht (txt (N11.rows wd ht c)) := ho.alloc (.cells #[.int .i64 0, .int .i64 0, .int .i64 0, .int .i64 0, .string ⟨#[]⟩] 25 (0, 0))
            have rq : Row (v2.alloc (.cells #[.int .i64 0, .int .i64 0, .int .i64 0, .int .i64 0, .string ⟨#[]⟩] 25 (0, 0))) q 25 [.int .i64 0, .int .i64 0, .int .i64 0, .int .i64 0, .string ⟨#[]⟩] := rq.alloc (.cells #[.int .i64 0, .int .i64 0, .int .i64 0, .int .i64 0, .string ⟨#[]⟩] 25 (0, 0))
            have lw : w.heap.size ≤ (v2.alloc (.cells #[.int .i64 0, .int .i64 0, .int .i64 0, .int .i64 0, .string ⟨#[]⟩] 25 (0, 0))).heap.size := hHeld.2.size
            generalize v2.heap.size = p at *
            generalize (v2.alloc (.cells #[.int .i64 0, .int .i64 0, .int .i64 0, .int .i64 0, .string ⟨#[]⟩] 25 (0, 0))) = v3 at *
            refine one_d 11 (some 75) rfl (by kernel_rfl) ?_
            intro o ho1 hd
            cases ho1
            clear hd
            intro K hK
            go_simp
            refine (CK2.out _).mono ?_
            rintro e v4 ⟨rfl, bb⟩
            have hHeld2 := (⟨hHeld.1.below bb hHeld.1.lt, hHeld.2.trans (bb.mono hHeld.2.size)⟩ : _ ∧ _)
            have rg := rg.below bb rg.lt
            have rr := rr.below bb rr.lt
            have ho := ownN ho bb
            have rp := rp.below bb rp.lt
            have rq := rq.below bb rq.lt
            have lw := hHeld2.2.size
            refine hK.out _ _ hHeld2 (fun hHeld => ?_)
            clear hK K bb hHeld2
            try simp only [Act.put, List.setIfInBounds_toArray, List.set_cons_zero, List.set_cons_succ]
            exact leaf.out p q _ ⟨by omega, by omega, by omega, by omega, by omega, by omega, by omega, by omega, by omega⟩ rg rr ho rp rq hHeld
        · intro K hK
          go_simp
          refine hK.out _ _ ⟨hHeld.1.alloc _, hHeld.2.alloc hHeld.2.size _⟩ (fun hHeld => ?_)
          clear hK K
          try simp only [Act.put, List.setIfInBounds_toArray, List.set_cons_zero, List.set_cons_succ]
          have lp1 : g < v1.heap.size := rg.lt
          have lp2 : gr < v1.heap.size := rr.lt
          have lp3 : gq < v1.heap.size := ((World.ownsRow.lt ho) gq rfl).2
          have lp4 : w.heap.size ≤ v1.heap.size := lw
          have lp5 : q < v1.heap.size := rq.lt
          have rp : Row (v1.alloc (.cells #[.int .i64 0, .int .i64 0, .int .i64 0, .int .i64 0, .string ⟨#[]⟩] 25 (0, 0))) v1.heap.size 25 [.int .i64 0, .int .i64 0, .int .i64 0, .int .i64 0, .string ⟨#[]⟩] := Row.new' rfl rfl
          have rg : Row (v1.alloc (.cells #[.int .i64 0, .int .i64 0, .int .i64 0, .int .i64 0, .string ⟨#[]⟩] 25 (0, 0))) g 25 [.int .i64 wd, .int .i64 ht, .int .i64 0, .int .i64 0, .string B0] := rg.alloc (.cells #[.int .i64 0, .int .i64 0, .int .i64 0, .int .i64 0, .string ⟨#[]⟩] 25 (0, 0))
          have rr : Row (v1.alloc (.cells #[.int .i64 0, .int .i64 0, .int .i64 0, .int .i64 0, .string ⟨#[]⟩] 25 (0, 0))) gr 33 [.int .i64 wd, .int .i64 ht, .int .i64 x, .int .i64 y, .slice (some ⟨gq, 0, none⟩) ht cap] := rr.alloc (.cells #[.int .i64 0, .int .i64 0, .int .i64 0, .int .i64 0, .string ⟨#[]⟩] 25 (0, 0))
          have ho : (v1.alloc (.cells #[.int .i64 0, .int .i64 0, .int .i64 0, .int .i64 0, .string ⟨#[]⟩] 25 (0, 0))).ownsRow 0 9 1 (.slice (some ⟨gq, 0, none⟩) ht cap) ht (txt (N11.rows wd ht c)) := ho.alloc (.cells #[.int .i64 0, .int .i64 0, .int .i64 0, .int .i64 0, .string ⟨#[]⟩] 25 (0, 0))
          have rq : Row (v1.alloc (.cells #[.int .i64 0, .int .i64 0, .int .i64 0, .int .i64 0, .string ⟨#[]⟩] 25 (0, 0))) q 25 [.int .i64 0, .int .i64 0, .int .i64 0, .int .i64 0, .string ⟨#[]⟩] := rq.alloc (.cells #[.int .i64 0, .int .i64 0, .int .i64 0, .int .i64 0, .string ⟨#[]⟩] 25 (0, 0))
          have lw : w.heap.size ≤ (v1.alloc (.cells #[.int .i64 0, .int .i64 0, .int .i64 0, .int .i64 0, .string ⟨#[]⟩] 25 (0, 0))).heap.size := hHeld.2.size
          generalize v1.heap.size = p at *
          generalize (v1.alloc (.cells #[.int .i64 0, .int .i64 0, .int .i64 0, .int .i64 0, .string ⟨#[]⟩] 25 (0, 0))) = v2 at *
          refine one_d 7 (some 71) rfl (by kernel_rfl) ?_
          intro o ho1 hd
          cases ho1
          clear hd
          intro K hK
          go_simp
          refine (CK1.out _).mono ?_
          rintro e v3 ⟨rfl, bb⟩
          have hHeld2 := (⟨hHeld.1.below bb hHeld.1.lt, hHeld.2.trans (bb.mono hHeld.2.size)⟩ : _ ∧ _)
          have rg := rg.below bb rg.lt
          have rr := rr.below bb rr.lt
          have ho := ownN ho bb
          have rp := rp.below bb rp.lt
          have rq := rq.below bb rq.lt
          have lw := hHeld2.2.size
          refine hK.out _ _ hHeld2 (fun hHeld => ?_)
          clear hK K bb hHeld2
          try simp only [Act.put, List.setIfInBounds_toArray, List.set_cons_zero, List.set_cons_succ]
          refine one_d 11 (some 75) rfl (by kernel_rfl) ?_
          intro o ho1 hd
          cases ho1
          clear hd
          intro K hK
          go_simp
          refine (CK2.out _).mono ?_
          rintro e v4 ⟨rfl, bb⟩
          have hHeld2 := (⟨hHeld.1.below bb hHeld.1.lt, hHeld.2.trans (bb.mono hHeld.2.size)⟩ : _ ∧ _)
          have rg := rg.below bb rg.lt
          have rr := rr.below bb rr.lt
          have ho := ownN ho bb
          have rp := rp.below bb rp.lt
          have rq := rq.below bb rq.lt
          have lw := hHeld2.2.size
          refine hK.out _ _ hHeld2 (fun hHeld => ?_)
          clear hK K bb hHeld2
          try simp only [Act.put, List.setIfInBounds_toArray, List.set_cons_zero, List.set_cons_succ]
          exact leaf.out p q _ ⟨by omega, by omega, by omega, by omega, by omega, by omega, by omega, by omega, by omega⟩ rg rr ho rp rq hHeld
      · intro K hK
        go_simp
        refine hK.out _ _ ⟨hHeld.1.alloc _, hHeld.2.alloc hHeld.2.size _⟩ (fun hHeld => ?_)
        clear hK K
        try simp only [Act.put, List.setIfInBounds_toArray, List.set_cons_zero, List.set_cons_succ]
        have lp1 : g < v0.heap.size := rg.lt
        have lp2 : gr < v0.heap.size := rr.lt
        have lp3 : gq < v0.heap.size := ((World.ownsRow.lt ho) gq rfl).2
        have lp4 : w.heap.size ≤ v0.heap.size := lw
        have lp5 : q < v0.heap.size := rq.lt
        have rp : Row (v0.alloc (.cells #[.int .i64 0, .int .i64 0, .int .i64 0, .int .i64 0, .string ⟨#[]⟩] 25 (0, 0))) v0.heap.size 25 [.int .i64 0, .int .i64 0, .int .i64 0, .int .i64 0, .string ⟨#[]⟩] := Row.new' rfl rfl
        have rg : Row (v0.alloc (.cells #[.int .i64 0, .int .i64 0, .int .i64 0, .int .i64 0, .string ⟨#[]⟩] 25 (0, 0))) g 25 [.int .i64 wd, .int .i64 ht, .int .i64 0, .int .i64 0, .string B0] := rg.alloc (.cells #[.int .i64 0, .int .i64 0, .int .i64 0, .int .i64 0, .string ⟨#[]⟩] 25 (0, 0))
        have rr : Row (v0.alloc (.cells #[.int .i64 0, .int .i64 0, .int .i64 0, .int .i64 0, .string ⟨#[]⟩] 25 (0, 0))) gr 33 [.int .i64 wd, .int .i64 ht, .int .i64 x, .int .i64 y, .slice (some ⟨gq, 0, none⟩) ht cap] := rr.alloc (.cells #[.int .i64 0, .int .i64 0, .int .i64 0, .int .i64 0, .string ⟨#[]⟩] 25 (0, 0))
        have ho : (v0.alloc (.cells #[.int .i64 0, .int .i64 0, .int .i64 0, .int .i64 0, .string ⟨#[]⟩] 25 (0, 0))).ownsRow 0 9 1 (.slice (some ⟨gq, 0, none⟩) ht cap) ht (txt (N11.rows wd ht c)) := ho.alloc (.cells #[.int .i64 0, .int .i64 0, .int .i64 0, .int .i64 0, .string ⟨#[]⟩] 25 (0, 0))
        have rq : Row (v0.alloc (.cells #[.int .i64 0, .int .i64 0, .int .i64 0, .int .i64 0, .string ⟨#[]⟩] 25 (0, 0))) q 25 [.int .i64 0, .int .i64 0, .int .i64 0, .int .i64 0, .string ⟨#[]⟩] := rq.alloc (.cells #[.int .i64 0, .int .i64 0, .int .i64 0, .int .i64 0, .string ⟨#[]⟩] 25 (0, 0))
        have lw : w.heap.size ≤ (v0.alloc (.cells #[.int .i64 0, .int .i64 0, .int .i64 0, .int .i64 0, .string ⟨#[]⟩] 25 (0, 0))).heap.size := hHeld.2.size
        generalize v0.heap.size = p at *
        generalize (v0.alloc (.cells #[.int .i64 0, .int .i64 0, .int .i64 0, .int .i64 0, .string ⟨#[]⟩] 25 (0, 0))) = v1 at *
        refine one_d 2 (some 66) rfl (by kernel_rfl) ?_
        intro o ho1 hd
        cases ho1
        clear hd
        intro K hK
        go_simp
        refine (CP.out _).mono ?_
        rintro e v2 ⟨rfl, bb⟩
        have hHeld2 := (⟨hHeld.1.below bb hHeld.1.lt, hHeld.2.trans (bb.mono hHeld.2.size)⟩ : _ ∧ _)
        have rg := rg.below bb rg.lt
        have rr := rr.below bb rr.lt
        have ho := ownN ho bb
        have rp := rp.below bb rp.lt
        have rq := rq.below bb rq.lt
        have lw := hHeld2.2.size
        refine hK.out _ _ hHeld2 (fun hHeld => ?_)
        clear hK K bb hHeld2
        try simp only [Act.put, List.setIfInBounds_toArray, List.set_cons_zero, List.set_cons_succ]
        refine one_d 7 (some 71) rfl (by kernel_rfl) ?_
        intro o ho1 hd
        cases ho1
        clear hd
        intro K hK
        go_simp
        refine (CK1.out _).mono ?_
        rintro e v3 ⟨rfl, bb⟩
        have hHeld2 := (⟨hHeld.1.below bb hHeld.1.lt, hHeld.2.trans (bb.mono hHeld.2.size)⟩ : _ ∧ _)
        have rg := rg.below bb rg.lt
        have rr := rr.below bb rr.lt
        have ho := ownN ho bb
        have rp := rp.below bb rp.lt
        have rq := rq.below bb rq.lt
        have lw := hHeld2.2.size
        refine hK.out _ _ hHeld2 (fun hHeld => ?_)
        clear hK K bb hHeld2
        try simp only [Act.put, List.setIfInBounds_toArray, List.set_cons_zero, List.set_cons_succ]
        refine one_d 11 (some 75) rfl (by kernel_rfl) ?_
        intro o ho1 hd
        cases ho1
        clear hd
        intro K hK
        go_simp
        refine (CK2.out _).mono ?_
        rintro e v4 ⟨rfl, bb⟩
        have hHeld2 := (⟨hHeld.1.below bb hHeld.1.lt, hHeld.2.trans (bb.mono hHeld.2.size)⟩ : _ ∧ _)
        have rg := rg.below bb rg.lt
        have rr := rr.below bb rr.lt
        have ho := ownN ho bb
        have rp := rp.below bb rp.lt
        have rq := rq.below bb rq.lt
        have lw := hHeld2.2.size
        refine hK.out _ _ hHeld2 (fun hHeld => ?_)
        clear hK K bb hHeld2
        try simp only [Act.put, List.setIfInBounds_toArray, List.set_cons_zero, List.set_cons_succ]
        exact leaf.out p q _ ⟨by omega, by omega, by omega, by omega, by omega, by omega, by omega, by omega, by omega⟩ rg rr ho rp rq hHeld
  case lf =>
    intro p q wz hpq rg rr ho rp rq hHeld
    have bl := hHeld.2
    have hpq' := hpq
    obtain ⟨n1, n2, n3, n4, n5, n6, n7, n8, n9⟩ := hpq'
    have ho2 := own_setRow2 (g := q) (cs := List.toArray [.int .i64 wd, .int .i64 ht, .int .i64 x, .int .i64 y, .string C1]) (own_setRow2 (g := p) (cs := List.toArray [.int .i64 wd, .int .i64 ht, .int .i64 x, .int .i64 y, .string C1]) ho n8) n9
    have rg1 := rg.setRow_other (k := p) (by omega) (List.toArray [.int .i64 wd, .int .i64 ht, .int .i64 x, .int .i64 y, .string C1])
    have rr1 := rr.setRow_other (k := p) (by omega) (List.toArray [.int .i64 wd, .int .i64 ht, .int .i64 x, .int .i64 y, .string C1])
    have rq1 := rq.setRow_other (k := p) (by omega) (List.toArray [.int .i64 wd, .int .i64 ht, .int .i64 x, .int .i64 y, .string C1])
    have rp1 := rp.setRow [.int .i64 wd, .int .i64 ht, .int .i64 x, .int .i64 y, .string C1]
    have bl1 := below_row bl (show w.heap.size ≤ p by omega) (List.toArray [.int .i64 wd, .int .i64 ht, .int .i64 x, .int .i64 y, .string C1])
    refine one_d 14 none rfl (by kernel_rfl) ?_
    intro o ho1 hd K hK
    cases ho1
    refine step_store_row rfl 25 (.tmp 13) (.tmp 66) rfl p [.int .i64 wd, .int .i64 ht, .int .i64 x, .int .i64 y, .string C1] rfl rfl _ _ rp infoScr rfl (by simp [Value.oneCell']) ?_
    rw [hd]
    refine hK.out _ _ (⟨rg1, bl1⟩) (fun hHeld => ?_)
    clear hK K hd
    try simp only [Act.put]
    have rg2 := rg1.setRow_other (k := q) (by omega) (List.toArray [.int .i64 wd, .int .i64 ht, .int .i64 x, .int .i64 y, .string C1])
    have rr2 := rr1.setRow_other (k := q) (by omega) (List.toArray [.int .i64 wd, .int .i64 ht, .int .i64 x, .int .i64 y, .string C1])
    have rp2 := rp1.setRow_other (k := q) (by omega) (List.toArray [.int .i64 wd, .int .i64 ht, .int .i64 x, .int .i64 y, .string C1])
    have rq2 := rq1.setRow [.int .i64 wd, .int .i64 ht, .int .i64 x, .int .i64 y, .string C1]
    have bl2 := below_row bl1 (show w.heap.size ≤ q by omega) (List.toArray [.int .i64 wd, .int .i64 ht, .int .i64 x, .int .i64 y, .string C1])
    refine one_d 15 none rfl (by kernel_rfl) ?_
    intro o ho1 hd K hK
    cases ho1
    refine step_store_row rfl 25 (.tmp 14) (.tmp 75) rfl q [.int .i64 wd, .int .i64 ht, .int .i64 x, .int .i64 y, .string C1] rfl rfl _ _ rq1 infoScr rfl (by simp [Value.oneCell']) ?_
    rw [hd]
    refine hK.out _ _ (⟨rg2, bl2⟩) (fun hHeld => ?_)
    clear hK K hd
    try simp only [Act.put]
    refine wpAnyH_done (by kernel_rfl) ?_ _
    try simp only [Act.put]
    have rg := rg2
    have rr := rr2
    have rp := rp2
    have rq := rq2
    have bl := bl2
    have ho := ho2
    clear rg1 rr1 rp1 rq1 bl1 rg2 rr2 rp2 rq2 bl2 ho2 hHeld CP CK1 CK2
    go_wp2
    refine wp_region_held_drew (S := fun w' => Row w' g 25 [.int .i64 wd, .int .i64 ht, .int .i64 0, .int .i64 0, .string B0] ∧ Row w' gr 33 [.int .i64 wd, .int .i64 ht, .int .i64 x, .int .i64 y, .slice (some ⟨gq, 0, none⟩) ht cap] ∧ Row w' p 25 [.int .i64 wd, .int .i64 ht, .int .i64 x, .int .i64 y, .string C1] ∧ Row w' q 25 [.int .i64 wd, .int .i64 ht, .int .i64 x, .int .i64 y, .string C1] ∧ w'.ownsRow 0 9 1 (.slice (some ⟨gq, 0, none⟩) ht cap) ht (txt (N11.rows wd ht c)) ∧ Below w.heap.size w w') (by kernel_rfl) (⟨rg.drew, rr.drew, rp.drew, rq.drew, ho.drew, bl.drew⟩) (fun hHeld => ?_)
    refine take_d 0 (some 76) (.int .i64 0) rfl (by kernel_rfl) (by kernel_rfl) (by kernel_rfl) (fun _ _ _ h => h) (fun oi h => by cases h; exact Or.inl ⟨by rfl, fun w' hS' => by go_simp⟩) hHeld ?_
    try simp only [Act.put, List.setIfInBounds_toArray, List.set_cons_zero, List.set_cons_succ]
    refine take_d 1 (some 77) (.bool true) rfl (by kernel_rfl) (by kernel_rfl) (by kernel_rfl) (fun _ _ _ h => h) (fun oi h => by cases h; exact Or.inl ⟨by rfl, fun w' hS' => by go_simp⟩) hHeld ?_
    try simp only [Act.put, List.setIfInBounds_toArray, List.set_cons_zero, List.set_cons_succ]
    refine take_d 2 (some 78) (.bool true) rfl (by kernel_rfl) (by kernel_rfl) (by kernel_rfl) (fun _ _ _ h => h) (fun oi h => by cases h; exact Or.inl ⟨by rfl, fun w' hS' => by go_simp⟩) hHeld ?_
    try simp only [Act.put, List.setIfInBounds_toArray, List.set_cons_zero, List.set_cons_succ]
    refine take_d 3 (some 79) (.agg #[.int .i64 wd, .int .i64 ht, .int .i64 0, .int .i64 0, .string B0]) rfl (by kernel_rfl) (by kernel_rfl) (by kernel_rfl) (fun _ _ _ h => h) (fun oi h => by cases h; exact yieldsIf_load_mid (by rfl) 25 (.tmp 9) rfl g 0 rfl [.int .i64 wd, .int .i64 ht, .int .i64 0, .int .i64 0, .string B0] _ (fun w' hS' => hS'.1.range) Try.underlying25 rfl infoScr) hHeld ?_
    try simp only [Act.put, List.setIfInBounds_toArray, List.set_cons_zero, List.set_cons_succ]
    refine take_d 4 (some 80) (.int .i64 wd) rfl (by kernel_rfl) (by kernel_rfl) (by kernel_rfl) (fun _ _ _ h => h) (fun oi h => by cases h; exact Or.inl ⟨by rfl, fun w' hS' => by go_simp⟩) hHeld ?_
    try simp only [Act.put, List.setIfInBounds_toArray, List.set_cons_zero, List.set_cons_succ]
    refine take_d 5 (some 81) (.int .i64 ht) rfl (by kernel_rfl) (by kernel_rfl) (by kernel_rfl) (fun _ _ _ h => h) (fun oi h => by cases h; exact Or.inl ⟨by rfl, fun w' hS' => by go_simp⟩) hHeld ?_
    try simp only [Act.put, List.setIfInBounds_toArray, List.set_cons_zero, List.set_cons_succ]
    refine one_d 6 (some 82) rfl (by kernel_rfl) ?_
    intro o ho hd K hK
    cases ho
    go_simp
    refine (CRN.out _).mono ?_
    rintro e v1 ⟨gn, capn, rfl, hoN, bb⟩
    have hHeld' := hHeld
    clear hHeld
    have hHeld := hHeld'
    clear hHeld'
    refine hK.out _ _ (⟨hHeld.1.below bb hHeld.1.lt, hHeld.2.1.below bb hHeld.2.1.lt, hHeld.2.2.1.below bb hHeld.2.2.1.lt, hHeld.2.2.2.1.below bb hHeld.2.2.2.1.lt, ownN hHeld.2.2.2.2.1 bb, hHeld.2.2.2.2.2.trans (bb.mono hHeld.2.2.2.2.2.size)⟩) (fun hHeld => ?_)
    clear hK K hd bb
    try simp only [Act.put, List.setIfInBounds_toArray, List.set_cons_zero, List.set_cons_succ]
    refine one_d 7 (some 83) rfl (by kernel_rfl) ?_
    intro o ho hd K hK
    cases ho
    go_simp
    refine (CIN.out _ _ _ (own_monoN hoN (Nat.zero_le _))).mono ?_
    rintro e v2 ⟨rfl, bb⟩
    have hHeld' := hHeld
    clear hHeld
    have hHeld := hHeld'
    clear hHeld'
    refine hK.out _ _ (⟨hHeld.1.below bb hHeld.1.lt, hHeld.2.1.below bb hHeld.2.1.lt, hHeld.2.2.1.below bb hHeld.2.2.1.lt, hHeld.2.2.2.1.below bb hHeld.2.2.2.1.lt, ownN hHeld.2.2.2.2.1 bb, hHeld.2.2.2.2.2.trans (bb.mono hHeld.2.2.2.2.2.size)⟩) (fun hHeld => ?_)
    clear hK K hd bb
    try simp only [Act.put, List.setIfInBounds_toArray, List.set_cons_zero, List.set_cons_succ]
    refine take_d 8 (some 84) (.bool true) rfl (by kernel_rfl) (by kernel_rfl) (by kernel_rfl) (fun _ _ _ h => h) (fun oi h => by cases h; exact Or.inl ⟨by rfl, fun w' hS' => by go_simp⟩) hHeld ?_
    try simp only [Act.put, List.setIfInBounds_toArray, List.set_cons_zero, List.set_cons_succ]
    refine take_d 9 (some 85) (.bool true) rfl (by kernel_rfl) (by kernel_rfl) (by kernel_rfl) (fun _ _ _ h => h) (fun oi h => by cases h; exact Or.inl ⟨by rfl, fun w' hS' => by go_simp⟩) hHeld ?_
    try simp only [Act.put, List.setIfInBounds_toArray, List.set_cons_zero, List.set_cons_succ]
    refine take_d 10 (some 86) (.agg #[.int .i64 wd, .int .i64 ht, .int .i64 x, .int .i64 y, .string C1]) rfl (by kernel_rfl) (by kernel_rfl) (by kernel_rfl) (fun _ _ _ h => h) (fun oi h => by cases h; exact yieldsIf_load_mid (by rfl) 25 (.tmp 13) rfl p 0 rfl [.int .i64 wd, .int .i64 ht, .int .i64 x, .int .i64 y, .string C1] _ (fun w' hS' => hS'.2.2.1.range) Try.underlying25 rfl infoScr) hHeld ?_
    try simp only [Act.put, List.setIfInBounds_toArray, List.set_cons_zero, List.set_cons_succ]
    refine take_d 11 (some 87) (.agg #[.int .i64 wd, .int .i64 ht, .int .i64 x, .int .i64 y, .slice (some ⟨gq, 0, none⟩) ht cap]) rfl (by kernel_rfl) (by kernel_rfl) (by kernel_rfl) (fun _ _ _ h => h) (fun oi h => by cases h; exact yieldsIf_load_mid (by rfl) 33 (.tmp 11) rfl gr 0 rfl [.int .i64 wd, .int .i64 ht, .int .i64 x, .int .i64 y, .slice (some ⟨gq, 0, none⟩) ht cap] _ (fun w' hS' => hS'.2.1.range) Try.underlying33 rfl infoRS) hHeld ?_
    try simp only [Act.put, List.setIfInBounds_toArray, List.set_cons_zero, List.set_cons_succ]
    refine one_d 12 (some 88) rfl (by kernel_rfl) ?_
    intro o ho hd K hK
    cases ho
    go_simp
    refine (CIQ.out _ (by exact hHeld.2.2.2.2.1)).mono ?_
    rintro e v3 ⟨rfl, bb⟩
    have hHeld' := hHeld
    clear hHeld
    have hHeld := hHeld'
    clear hHeld'
    refine hK.out _ _ (⟨hHeld.1.below bb hHeld.1.lt, hHeld.2.1.below bb hHeld.2.1.lt, hHeld.2.2.1.below bb hHeld.2.2.1.lt, hHeld.2.2.2.1.below bb hHeld.2.2.2.1.lt, ownN hHeld.2.2.2.2.1 bb, hHeld.2.2.2.2.2.trans (bb.mono hHeld.2.2.2.2.2.size)⟩) (fun hHeld => ?_)
    clear hK K hd bb
    try simp only [Act.put, List.setIfInBounds_toArray, List.set_cons_zero, List.set_cons_succ]
    refine take_d 13 (some 89) (.bool true) rfl (by kernel_rfl) (by kernel_rfl) (by kernel_rfl) (fun _ _ _ h => h) (fun oi h => by cases h; exact Or.inl ⟨by rfl, fun w' hS' => by go_simp⟩) hHeld ?_
    try simp only [Act.put, List.setIfInBounds_toArray, List.set_cons_zero, List.set_cons_succ]
    refine take_d 14 (some 90) (.bool true) rfl (by kernel_rfl) (by kernel_rfl) (by kernel_rfl) (fun _ _ _ h => h) (fun oi h => by cases h; exact Or.inl ⟨by rfl, fun w' hS' => by go_simp⟩) hHeld ?_
    try simp only [Act.put, List.setIfInBounds_toArray, List.set_cons_zero, List.set_cons_succ]
    refine take_d 15 (some 91) (.agg #[.int .i64 wd, .int .i64 ht, .int .i64 x, .int .i64 y, .string C1]) rfl (by kernel_rfl) (by kernel_rfl) (by kernel_rfl) (fun _ _ _ h => h) (fun oi h => by cases h; exact yieldsIf_load_mid (by rfl) 25 (.tmp 13) rfl p 0 rfl [.int .i64 wd, .int .i64 ht, .int .i64 x, .int .i64 y, .string C1] _ (fun w' hS' => hS'.2.2.1.range) Try.underlying25 rfl infoScr) hHeld ?_
    try simp only [Act.put, List.setIfInBounds_toArray, List.set_cons_zero, List.set_cons_succ]
    refine take_d 16 (some 92) (.agg #[.int .i64 wd, .int .i64 ht, .int .i64 x, .int .i64 y, .string C1]) rfl (by kernel_rfl) (by kernel_rfl) (by kernel_rfl) (fun _ _ _ h => h) (fun oi h => by cases h; exact yieldsIf_load_mid (by rfl) 25 (.tmp 14) rfl q 0 rfl [.int .i64 wd, .int .i64 ht, .int .i64 x, .int .i64 y, .string C1] _ (fun w' hS' => hS'.2.2.2.1.range) Try.underlying25 rfl infoScr) hHeld ?_
    try simp only [Act.put, List.setIfInBounds_toArray, List.set_cons_zero, List.set_cons_succ]
    refine one_d 17 (some 93) rfl (by kernel_rfl) ?_
    intro o ho hd K hK
    cases ho
    go_simp
    refine (same_yes _ _ _ _ _ _).mono ?_
    rintro e v4 ⟨rfl, bb⟩
    have hHeld' := hHeld
    clear hHeld
    have hHeld := hHeld'
    clear hHeld'
    refine hK.out _ _ (⟨hHeld.1.below bb hHeld.1.lt, hHeld.2.1.below bb hHeld.2.1.lt, hHeld.2.2.1.below bb hHeld.2.2.1.lt, hHeld.2.2.2.1.below bb hHeld.2.2.2.1.lt, ownN hHeld.2.2.2.2.1 bb, hHeld.2.2.2.2.2.trans (bb.mono hHeld.2.2.2.2.2.size)⟩) (fun hHeld => ?_)
    clear hK K hd bb
    try simp only [Act.put, List.setIfInBounds_toArray, List.set_cons_zero, List.set_cons_succ]
    refine take_d 18 (some 94) (.bool true) rfl (by kernel_rfl) (by kernel_rfl) (by kernel_rfl) (fun _ _ _ h => h) (fun oi h => by cases h; exact Or.inl ⟨by rfl, fun w' hS' => by go_simp⟩) hHeld ?_
    try simp only [Act.put, List.setIfInBounds_toArray, List.set_cons_zero, List.set_cons_succ]
    refine take_d 19 (some 8) (.bool true) rfl (by kernel_rfl) (by kernel_rfl) (by kernel_rfl) (fun _ _ _ h => h) (fun oi h => by cases h; exact Or.inl ⟨by rfl, fun w' hS' => by go_simp⟩) hHeld ?_
    try simp only [Act.put, List.setIfInBounds_toArray, List.set_cons_zero, List.set_cons_succ]
    refine wpAnyH_done (by kernel_rfl) ?_ _
    try simp only [Act.put]
    have hb := hHeld.2.2.2.2.2
    go_wp2
    go_ret
    exact ⟨rfl, hb⟩
end ScreenPutsW
end Go.Proofs.Ytekpbfbipkjibaa
