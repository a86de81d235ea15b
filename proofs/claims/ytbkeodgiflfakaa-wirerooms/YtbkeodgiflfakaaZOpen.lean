/-
  Layer 7: Open.
-/
import Derived.Test.YtbkeodgiflfakaaZSeal
namespace Go.Proofs.Ytbkeodgiflfakaa
open Go.RowKit
set_option linter.unusedVariables false
set_option maxRecDepth 20000

set_option maxHeartbeats 1000000 in
theorem open_short (c : List Value) (id n : Int) (s : ByteArray) (hs : s.size < 16) (w : World) :
    Calls Try.prog 24 #[.agg c.toArray, .int .u64 id, .int .u64 n, .string s] w fun e w' => e = .returned (.tuple #[.string ⟨#[]⟩, .int .i64 3]) ∧ Below w.heap.size w w' := by
  have h1 : (s.size : Int) < 16 := by omega
  have b0 : Below w.heap.size w (w.alloc (.cells c.toArray 55 (0, 0))) := (Below.refl _ _).alloc (Nat.le_refl _) _
  go_enter Try.func24, Try.ntmps24
  go_wp2
  go_ret2
  exact ⟨rfl, b0⟩

set_option maxHeartbeats 4000000 in
theorem open_long (c : List Value) (key : List UInt8) (hx : IsBox c key) (id n : Nat) (s : ByteArray) (h1 : id ≤ 18446744073709551615) (h2 : n ≤ 18446744073709551615) (hs : 16 ≤ s.size) (hl : s.size ≤ 1000) (w : World) :
    Calls Try.prog 24 #[.agg c.toArray, .int .u64 (id : Int), .int .u64 (n : Int), .string s] w fun e w' => e = .returned (.tuple #[.string ⟨(Z7.openL key id n s.data.toList).toArray⟩, .int .i64 (Z7.openE key id n s.data.toList : Nat)]) ∧ Below w.heap.size w w' := by
  obtain ⟨t, ht⟩ : ∃ t : ByteArray, t = ⟨(s.data.toList.take (s.size - 16)).toArray⟩ := ⟨_, rfl⟩
  obtain ⟨u, hu⟩ : ∃ u : ByteArray, u = ⟨(s.data.toList.drop (s.size - 16)).toArray⟩ := ⟨_, rfl⟩
  have htl : t.data.toList = s.data.toList.take (s.size - 16) := by rw [ht]
  have hul : u.data.toList = s.data.toList.drop (s.size - 16) := by rw [hu]
  have hts : t.size = s.size - 16 := by rw [ht, size_ofL, List.length_take, size_toL]; omega
  have hus : u.size = 16 := by rw [hu, size_ofL, List.length_drop, size_toL]; omega
  have ext : s.extract 0 (s.size - 16) = t := by
    rw [ht, ← W.arr_take]
  have exu : s.extract (s.size - 16) s.size = u := by
    have := W.arr_drop s.data.toList (s.size - 16)
    rw [hu, ← this]
  have CF : Hid (∀ wx, Calls Try.prog 41 #[.agg c.toArray] wx fun e w' => e = .returned (.agg (keyBox key).toArray) ∧ Below wx.heap.size wx w') := fun wx => filled_any c key hx wx
  have CT : Hid (∀ wx, Calls Try.prog 42 #[.agg (W.cellsOf (Z7.encK key)).toArray, .int .u64 (n : Int), .string t] wx fun e w' => e = .returned (.string ⟨(Z7.bodyL key n s.data.toList).toArray⟩) ∧ Below wx.heap.size wx w') := fun wx => by
    have := turn_any (Z7.encK key) n t (Z7.encK_length key) h2 (by omega) wx
    rw [htl] at this
    unfold Z7.bodyL
    rw [size_toL]
    exact this
  have CG : Hid (∀ wx, Calls Try.prog 43 #[.agg (keyBox key).toArray, .int .u64 (id : Int), .int .u64 (n : Int), .string t] wx fun e w' => e = .returned (.string ⟨(Z7.tagM (Z7.macK key) id n t.data.toList).toArray⟩) ∧ Below wx.heap.size wx w') := fun wx =>
    tag_any key id n t h1 h2 (by omega) wx
  have CM : Hid (∀ wx, Calls Try.prog 45 #[.string u, .string ⟨(Z7.tagM (Z7.macK key) id n t.data.toList).toArray⟩] wx fun e w' => e = .returned (.bool (Z7.opens key id n s.data.toList)) ∧ Below wx.heap.size wx w') := fun wx => by
    have := same_any u ⟨(Z7.tagM (Z7.macK key) id n t.data.toList).toArray⟩ (by omega) (by rw [size_ofL, Z7.tagM_length]; decide) wx
    rw [ByteArray.toList_eq, ByteArray.toList_eq] at this
    have e : (u.data.toList == (⟨(Z7.tagM (Z7.macK key) id n t.data.toList).toArray⟩ : ByteArray).data.toList) = Z7.opens key id n s.data.toList := by
      show (u.data.toList == Z7.tagM (Z7.macK key) id n t.data.toList) = _
      unfold Z7.opens
      rw [hul, htl, size_toL, Bool.eq_iff_iff, beq_iff_eq, beq_iff_eq]
      exact eq_comm
    rw [e] at this
    exact this
  have hsl : ¬ s.data.toList.length < 16 := by rw [size_toL]; omega
  have HO : Hid (Z7.openL key id n s.data.toList = if Z7.opens key id n s.data.toList then Z7.bodyL key n s.data.toList else []) := by show _ = _; unfold Z7.openL; rw [if_neg hsl]
  have HE : Hid (Z7.openE key id n s.data.toList = if Z7.opens key id n s.data.toList then 0 else 8) := by show _ = _; unfold Z7.openE; rw [if_neg hsl]
  have hic := info17c hx.length
  have hik := info17c (keyBox_length key)
  have HCL := Lib.hid hx.length
  have HKL := Lib.hid (keyBox_length key)
  have HKA := Lib.hid (keyBox_all key)
  have hie : (Try.prog.info? 53).map (·.size) = some (W.cellsOf (Z7.encK key)).length := by rw [info16k (Z7.encK_length key), List.size_toArray]
  have HEn : Hid (∀ wx g, Row wx g 55 (keyBox key) → wx.rangeAt g 0 (W.cellsOf (Z7.encK key))) := fun wx g h => by
    have := h.rangeOf 0 16
    rwa [keyBox_enc] at this
  clear hx ht hu htl hul hsl
  generalize Z7.opens key id n s.data.toList = ok at *
  generalize Z7.openL key id n s.data.toList = OL at *
  generalize Z7.openE key id n s.data.toList = OE at *
  generalize Z7.bodyL key n s.data.toList = BD at *
  generalize (⟨(Z7.tagM (Z7.macK key) id n t.data.toList).toArray⟩ : ByteArray) = G at *
  generalize Z7.encK key = K at *
  generalize keyBox key = Y at *
  have r0 : Row (w.alloc (.cells c.toArray 55 (0, 0))) w.heap.size 55 c := Row.new' rfl rfl
  have b0 : Below w.heap.size w (w.alloc (.cells c.toArray 55 (0, 0))) := (Below.refl _ _).alloc (Nat.le_refl _) _
  obtain ⟨wa, hwa⟩ : ∃ wa, wa = w.alloc (.cells c.toArray 55 (0, 0)) := ⟨_, rfl⟩
  rw [← hwa] at r0 b0
  have g1 : ¬ (s.size : Int) < 16 := by omega
  obtain ⟨d, hd⟩ : ∃ d, d = s.size - 16 := ⟨_, rfl⟩
  rw [← hd] at ext exu hts
  have hwr : IntKind.i64.wrap ((s.size : Int) - 16) = (d : Int) := by rw [IntKind.wrap_i64]; omega
  have hsub : (s.size : Int) - 16 = (d : Int) := by omega
  have hd0 : ¬ (d : Int) < 0 := by omega
  have hd1 : ¬ (s.size : Int) < d := by omega
  have hd2 : d ≤ s.size := by omega
  clear hd
  go_enter Try.func24, Try.ntmps24
  go_wp2_with (first
    | refine wpList_load_row rfl 55 (.tmp 4) rfl w.heap.size rfl _ _ _ _ (hwa ▸ r0) Try.underlying55 rfl hic ?_)
  rw [← hwa]
  clear hwa
  refine (CF.out _).mono ?_
  rintro e w1 ⟨rfl, b1⟩
  have r1 := r0.below b1 r0.lt
  have hb1 := b0.trans (b1.mono b0.size)
  have q1 := r1.setRow Y
  have hb2 := below_row hb1 (Nat.le_refl _) Y.toArray
  clear b1 r0 b0 hb1
  go_wp2_with (first
    | (refine wpList_store_row rfl 55 (.tmp 4) (.tmp 16) rfl w.heap.size _ rfl rfl _ _ r1 hik (by rw [List.size_toArray, List.size_toArray, HCL.out, HKL.out]) HKA.out ?_; generalize w1.setRow w.heap.size Y.toArray = w2 at *; clear r1))
  simp only [Act.put]
  go_region
  have q2 := q1.drew
  have hb3 := hb2.drew
  clear q1 hb2 ext exu hwr hsub hd0 hd1
  generalize w2.drew = w3 at *
  go_wp2_with (first
    | refine wpList_load_row rfl 55 (.tmp 4) rfl w.heap.size rfl _ _ _ _ q2 Try.underlying55 rfl hik ?_)
  refine (CG.out _).mono ?_
  rintro e w4 ⟨rfl, b4⟩
  have r4 := q2.below b4 q2.lt
  have hb4 := hb3.trans (b4.mono hb3.size)
  clear b4 q2 hb3
  go_wp2_with fail
  refine (CM.out _).mono ?_
  rintro e w5 ⟨rfl, b5⟩
  have r5 := r4.below b5 r4.lt
  have hb5 := hb4.trans (b5.mono hb4.size)
  have hr := HEn.out _ _ r5
  clear b5 r4 hb4
  cases ok with
  | false =>
    go_wp2
    go_ret2
    exact ⟨by rw [HO.out, HE.out]; rfl, hb5⟩
  | true =>
    go_wp2_with (first
      | refine wpList_load_mid rfl 53 (.tmp 35) rfl w.heap.size 0 rfl _ _ hr Try.underlying53 rfl hie ?_)
    refine (CT.out _).mono ?_
    rintro e w6 ⟨rfl, b6⟩
    have hb6 := hb5.trans (b6.mono hb5.size)
    clear b6 r5 hb5 hr
    go_wp2
    go_ret2
    exact ⟨by rw [HO.out, HE.out]; rfl, hb6⟩

theorem open_any (c : List Value) (key : List UInt8) (hx : IsBox c key) (id n : Nat) (s : ByteArray) (h1 : id ≤ 18446744073709551615) (h2 : n ≤ 18446744073709551615) (hl : s.size ≤ 1000) (w : World) :
    Calls Try.prog 24 #[.agg c.toArray, .int .u64 (id : Int), .int .u64 (n : Int), .string s] w fun e w' => e = .returned (.tuple #[.string ⟨(Z7.openL key id n s.data.toList).toArray⟩, .int .i64 (Z7.openE key id n s.data.toList : Nat)]) ∧ Below w.heap.size w w' := by
  by_cases hs : 16 ≤ s.size
  · exact open_long c key hx id n s h1 h2 hs hl w
  · have hsl : s.data.toList.length < 16 := by rw [size_toL]; omega
    have e1 : Z7.openL key id n s.data.toList = [] := by unfold Z7.openL; rw [if_pos hsl]
    have e2 : Z7.openE key id n s.data.toList = 3 := by unfold Z7.openE; rw [if_pos hsl]
    rw [e1, e2]
    exact open_short c id n s (by omega) w

end Go.Proofs.Ytbkeodgiflfakaa
