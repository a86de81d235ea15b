/-
  Layer 7: SealApart, one way of six.
-/
import Derived.Test.YtjkaignfomlflaaGreatSealApartBase
namespace Go.Proofs.YtjkaignfomlflaaGreat.SealApartW
open Go.RowKit
set_option linter.unusedVariables false
set_option maxRecDepth 20000

set_option maxRecDepth 20000 in
set_option maxHeartbeats 8000000 in
theorem coreC0 (a0 : ByteArray) (i j m n : Nat) (a5 : ByteArray) (A : Nat) (y : UInt8) (w : World) (h1 : 1 ≤ a0.size) (h2 : a0.size ≤ 64) (hi : i ≤ 18446744073709551615) (hj : j ≤ 18446744073709551615) (hm : m ≤ 18446744073709551615) (hn : n ≤ 18446744073709551615) (hb : a5.size ≤ 100) (hA : A ≤ 65535) (hij : ¬ i = j) (hy : y = 0) :
    Calls Tryz.prog 4 #[.string a0, .int .u64 (i : Int), .int .u64 (j : Int), .int .u64 (m : Int), .int .u64 (n : Int), .string a5, .int .u16 (A : Int), .int .u8 (y.toNat : Int)] w fun e w' => e = .returned (.bool true) ∧ Below w.heap.size w w' := by
  obtain ⟨S, hS⟩ : ∃ S : ByteArray, S = ⟨(Z7.sealL a0.data.toList i m a5.data.toList).toArray⟩ := ⟨_, rfl⟩
  have hs : S.size = a5.size + 16 := by rw [hS, size_ofL, Z7.sealL_length, size_toL]
  obtain ⟨p, hp⟩ : ∃ p, p = A % S.size := ⟨_, rfl⟩
  have hpl : p < S.size := by rw [hp]; exact Nat.mod_lt _ (by omega)
  have hmod : ((A : Int).tmod (S.size : Int)) = (p : Int) := by rw [hp]; rfl
  have hmod2 : ((A : Int) % (S.size : Int)) = (p : Int) := by rw [hp]; rfl
  obtain ⟨z, hz⟩ : ∃ z, z = S.data.toList.getD p 0 := ⟨_, rfl⟩
  obtain ⟨T, hT⟩ : ∃ T : ByteArray, T = ⟨(S.data.toList.set p (z ^^^ y)).toArray⟩ := ⟨_, rfl⟩
  have hTs : T.size = S.size := by rw [hT, size_ofL, List.length_set, size_toL]
  have HTl : Hid (T.data.toList = S.data.toList.set p (z ^^^ y)) := by show _ = _; rw [hT]
  obtain ⟨U, hU⟩ : ∃ U : ByteArray, U = ⟨(S.data.toList.take (S.size - 1)).toArray⟩ := ⟨_, rfl⟩
  have hUs : U.size = S.size - 1 := by rw [hU, size_ofL, List.length_take, size_toL]; omega
  have hex : S.extract 0 (S.size - 1) = U := by rw [hU, ← W.arr_take]
  obtain ⟨Y, O1, O2, O3, E1, E2, E3, HT⟩ := apart_of a0 i j m n a5 S T U hS hTs (by omega) h1 h2 hi hj hm hn hb
  have hw0 : y = 0 → E2 = 0 := fun hy => HT.whole (by
    apply Go.WideShapes.bytes_inj
    rw [HTl.out, hy, hz, UInt8.xor_zero]
    apply List.ext_getElem
    · simp
    · intro q h1 h2
      rw [List.getElem_set]
      split
      · rename_i e; subst e
        rw [List.getD_eq_getElem?_getD, List.getElem?_eq_getElem h2]; rfl
      · rfl)
  have HW0 := Lib.hid hw0
  have HTT := Lib.hid HT
  have hik := info17c HT.len
  have HZL : Hid (zeroBox.length = 17) := zeroBox_length
  have HO : Hid (zeroBox.toArray.size = Y.toArray.size) := by show _ = _; rw [List.size_toArray, List.size_toArray, HZL.out, HT.len]
  have HRG : Hid (∀ wx g, Row wx g 35 Y → wx.rangeAt g 0 Y) := fun wx g h => by
    have := h.rangeOf 0 17
    rwa [List.drop_zero, List.take_of_length_le (by rw [HTT.out.len]; exact Nat.le_refl _)] at this
  have hik' : (Tryz.prog.info? 35).map (·.size) = some Y.length := by rw [hik, List.size_toArray]
  have C0 := Lib.hid (awake7_any w)
  have g1 : ¬ (a0.size : Int) < 1 := by omega
  have g2 : ¬ (64 : Int) < a0.size := by omega
  have g3 : ¬ (100 : Int) < a5.size := by omega
  have g4 : ¬ (S.size : Int) < 16 := by omega
  have hSz : S.size ≤ 116 := by omega
  have hx := xor8 z y
  have HZ := Lib.hid hz
  have CV : Hid (∀ wx, ∃ cap wc, (convert 9 49 (.string S)).run Tryz.prog wx = .ok (.slice (some ⟨wx.heap.size, 0, none⟩) S.size cap) wc ∧ S.size ≤ cap ∧ CellsB wc wx.heap.size S.data.toList ∧ (∀ j, j < S.size → wc.frozen? ⟨wx.heap.size, j, none⟩ = false) ∧ Below wx.heap.size wx wc ∧ wx.heap.size < wc.heap.size) := fun wx => conv_any S (by omega) wx
  have HSl : Hid (S.data.toList.length = S.size) := size_toL S
  have HTl2 : Hid (T.data.toList.length = S.size) := by show _ = _; rw [size_toL, hTs]
  obtain ⟨d, hd⟩ : ∃ d, d = S.size - 1 := ⟨_, rfl⟩
  rw [← hd] at hex
  have hwr : IntKind.i64.wrap ((S.size : Int) - 1) = (d : Int) := by rw [IntKind.wrap_i64]; omega
  have hd4 : (0 : Int) ≤ (d : Int) := by omega
  have hd5 : (d : Int) ≤ (S.size : Int) := by omega
  have hd2 : d ≤ S.size := by omega
  have hSne : ¬ (S.size : Int) = 0 := by omega
  have hpI : (p : Int) < (S.size : Int) := by omega
  have HY := Lib.hid hy
  clear hy
  have HIJ := Lib.hid hij
  clear hij
  clear hS hp hT hU hz HT hw0 hd hTs hUs hs
  generalize (z ^^^ y) = x at *
  go_enter Tryz.func4, Tryz.ntmps4
  go_wp2_with fail
  refine C0.out.mono ?_
  rintro e wa ⟨rfl, ba⟩
  clear C0
  go_wp2_with fail
  refine (HTT.out.CN _).mono ?_
  rintro e w1 ⟨rfl, b1⟩
  have hb1 := ba.trans (b1.mono ba.size)
  clear b1 ba g1 g2 g3
  have r1 : Row (w1.alloc (.cells Y.toArray 35 (0, 0))) w1.heap.size 35 Y := Row.new' rfl rfl
  have hb2 := hb1.alloc hb1.size (.cells Y.toArray 35 (0, 0))
  obtain ⟨g, hg⟩ : ∃ g, g = w1.heap.size := ⟨_, rfl⟩
  go_wp2_with (first
    | (refine wpList_store_new rfl 35 (.tmp 17) (.tmp 52) rfl w1 zeroBox.toArray _ _ _ rfl rfl rfl hik HO.out HTT.out.all ?_; rw [← hg] at r1 ⊢; generalize w1.alloc (.cells Y.toArray 35 (0, 0)) = w2 at *; clear hg hb1)
    | refine wpList_load_row rfl 35 (.tmp 17) rfl g rfl _ _ _ _ r1 Tryz.underlying35 rfl hik ?_)
  refine (HTT.out.CS _).mono ?_
  rintro e w3 ⟨rfl, b3⟩
  have r3 := r1.below b3 r1.lt
  have hb3 := hb2.trans (b3.mono hb2.size)
  clear b3 r1 hb2
  obtain ⟨cap, w4, hcv, hcap, hce, hfr, b4, hlt4⟩ := CV.out w3
  have r4 := r3.below b4 r3.lt
  have hb4 := hb3.trans (b4.mono hb3.size)
  have hgc : w.heap.size ≤ w3.heap.size := hb3.size
  have hne : ¬ g = w3.heap.size := Nat.ne_of_lt r3.lt
  have c1 := hce p (by rw [HSl.out]; exact hpl)
  rw [← HZ.out] at c1
  have f1 := hfr p hpl
  have hce2 := hce.set (p := p) (by rw [HSl.out]; exact hpl) x
  rw [← HTl.out] at hce2
  obtain ⟨gc, hgc'⟩ : ∃ gc, gc = w3.heap.size := ⟨_, rfl⟩
  rw [← hgc'] at hcv c1 f1 hce2 hlt4 hne hgc
  have r5 := r4.other (k := gc) (i := p) hne (.int .u8 (x.toNat : Int))
  have hb5 := hb4.setCell (p := ⟨gc, p, none⟩) hgc (.int .u8 (x.toNat : Int))
  have hlt5 : gc < (w4.setCell ⟨gc, p, none⟩ (.int .u8 (x.toNat : Int))).heap.size := by simpa [World.setCell] using hlt4
  clear hce hfr b4 r3 hb3 r4 hb4 hgc' CV hcap hlt4 hne
  have HC5 := Lib.hid hce2
  have HL5 := Lib.hid hlt5
  have HG5 := Lib.hid hgc
  clear hce2 hlt5 hgc
  go_wp2_with fail
  refine (HTT.out.R1 _).mono ?_
  rintro e w6 ⟨rfl, b6⟩
  have hc6 := Lib.hid (HC5.out.below b6 HL5.out)
  have hl6 := Lib.hid (Nat.lt_of_lt_of_le HL5.out b6.size)
  have r6 := r5.below b6 r5.lt
  have hb6 := hb5.trans (b6.mono hb5.size)
  clear b6 r5 hb5 HC5 HL5 hcv c1 f1 hmod hmod2 hx
  have hij := HIJ.out
  clear HIJ
  have hmi : ¬ (i : Int) = (j : Int) := by omega
  have hmb : ((i : Int) == (j : Int)) = false := by rw [beq_eq_false_iff_ne]; exact hmi
  clear hij
  by_cases hE1 : E1 = 0
  · subst hE1
    go_wp2
    go_ret
    exact ⟨rfl, hb6⟩
  · obtain ⟨hE8, hO1⟩ := HTT.out.other hE1
    clear hE1
    subst hE8
    subst hO1
    have cv6 := hc6.out.text (cap := cap)
    rw [HTl2.out, ← bytes_of (x := T) rfl] at cv6
    go_wp2_with fail
    refine (HTT.out.R2 _).mono ?_
    rintro e w7 ⟨rfl, b7⟩
    have hc7 := Lib.hid (hc6.out.below b7 hl6.out)
    have hl7 := Lib.hid (Nat.lt_of_lt_of_le hl6.out b7.size)
    have r7 := r6.below b7 r6.lt
    have hb7 := hb6.trans (b7.mono hb6.size)
    clear b7 r6 hb6 cv6 hc6 hl6
    have hE2 := HW0.out HY.out
    subst hE2
    have hyi : ((y.toNat : Nat) : Int) = 0 := by rw [HY.out]; rfl
    obtain ⟨yv, hyv⟩ : ∃ yv : Int, yv = ((y.toNat : Nat) : Int) := ⟨_, rfl⟩
    rw [← hyv] at hyi ⊢
    subst hyi
    clear hyv HW0
    go_wp2_with fail
    refine (HTT.out.R3 _).mono ?_
    rintro e w8 ⟨rfl, b8⟩
    have hc8 := Lib.hid (hc7.out.below b8 hl7.out)
    have hl8 := Lib.hid (Nat.lt_of_lt_of_le hl7.out b8.size)
    have r8 := r7.below b8 r7.lt
    have hb8 := hb7.trans (b8.mono hb7.size)
    clear b8 r7 hb7 hc7 hl7
    by_cases hE3 : E3 = 0
    · subst hE3
      go_wp2
      go_ret
      exact ⟨rfl, hb8⟩
    · have hE3b : (E3 == 0) = false := by rw [beq_eq_false_iff_ne]; exact hE3
      have hE3c : (E3 != 0) = true := by show (!(E3 == 0)) = true; rw [hE3b]; rfl
      have hr8 := r8
      go_wp2_with (first
        | refine wpList_load_row rfl 35 (.tmp 17) rfl g rfl _ _ _ _ r8 Tryz.underlying35 rfl hik ?_)
      refine (HTT.out.P1 _).mono ?_
      rintro e w9 ⟨rfl, b9⟩
      have hc9 := Lib.hid (hc8.out.below b9 hl8.out)
      have hl9 := Lib.hid (Nat.lt_of_lt_of_le hl8.out b9.size)
      have r9 := r8.below b9 r8.lt
      have hb9 := hb8.trans (b9.mono hb8.size)
      clear b9 r8 hb8 hr8 hc8 hl8
      have cv9 := hc9.out.text (cap := cap)
      rw [HTl2.out, ← bytes_of (x := T) rfl] at cv9
      go_wp2_with (first
        | refine wpList_load_row rfl 35 (.tmp 17) rfl g rfl _ _ _ _ r9 Tryz.underlying35 rfl hik ?_)
      refine (HTT.out.P2 _).mono ?_
      rintro e w10 ⟨rfl, b10⟩
      have r10 := r9.below b10 r9.lt
      have hb10 := hb9.trans (b10.mono hb9.size)
      clear b10 r9 hb9 cv9 hc9 hl9
      obtain ⟨v0, v1, v2, v3, v4, v5, v6, v7, v8, v9, v10, v11, v12, v13, v14, v15, v16, rfl⟩ := list17 HTT.out.len
      have s10 : ∀ k, w10.cell? ⟨g, k, none⟩ = ([v0, v1, v2, v3, v4, v5, v6, v7, v8, v9, v10, v11, v12, v13, v14, v15, v16] : List Value)[k]? := fun k => r10.cell k
      clear HRG hik hik' HO
      go_wp2_with fail
      go_region_held3 (fun w' => ∀ k, w'.cell? ⟨g, k, none⟩ = ([v0, v1, v2, v3, v4, v5, v6, v7, v8, v9, v10, v11, v12, v13, v14, v15, v16] : List Value)[k]?) (first | exact s10 | exact s11) (first
        | (go_at_call 11; refine (HTT.out.P3 _).mono ?_; rintro e w11 ⟨rfl, b11⟩; have s11 : ∀ k, w11.cell? ⟨g, k, none⟩ = ([v0, v1, v2, v3, v4, v5, v6, v7, v8, v9, v10, v11, v12, v13, v14, v15, v16] : List Value)[k]? := fun k => (r10.drew.below b11 r10.lt).cell k))
      have hb11 := (show Below w.heap.size w w10.drew from hb10.drew).trans (b11.mono (show w.heap.size ≤ w10.drew.heap.size from hb10.size))
      clear b11 s10 s11 r10 hb10
      go_wp2
      go_ret
      exact ⟨rfl, hb11⟩


end Go.Proofs.YtjkaignfomlflaaGreat.SealApartW
