/-
  Layer 7: tag, Seal, Open.
-/
import Derived.Test.YtbkeodgiflfakaaZFill
namespace Go.Proofs.Ytbkeodgiflfakaa
open Go.RowKit
set_option linter.unusedVariables false
set_option maxRecDepth 20000

theorem size_ofL (l : List UInt8) : (⟨l.toArray⟩ : ByteArray).size = l.length := List.size_toArray
theorem size_toL (s : ByteArray) : s.data.toList.length = s.size := by simp
theorem allOf_two (a b : ByteArray) : allOf [a, b] = a.data.toList ++ b.data.toList := by simp [allOf]

set_option maxHeartbeats 4000000 in
theorem tag_any (key : List UInt8) (id n : Nat) (t : ByteArray) (h1 : id ≤ 18446744073709551615) (h2 : n ≤ 18446744073709551615) (ht : t.size ≤ 1000) (w : World) :
    Calls Try.prog 43 #[.agg (keyBox key).toArray, .int .u64 (id : Int), .int .u64 (n : Int), .string t] w fun e w' => e = .returned (.string ⟨(Z7.tagM (Z7.macK key) id n t.data.toList).toArray⟩) ∧ Below w.heap.size w w' := by
  have CH : Hid (∀ wx, Calls Try.prog 23 #[.int .u64 (id : Int), .int .u64 (n : Int)] wx fun e w' => e = .returned (.string ⟨(C.blk id n).toArray⟩) ∧ Below wx.heap.size wx w') := fun wx => head_any id n h1 h2 wx
  have CS : Hid (∀ (wx : World) (g : Nat), g = wx.heap.size → Calls Try.prog 57 #[.string ⟨(Z7.macK key).toArray⟩, .slice (some ⟨g, 0, none⟩) 2 2] (wx.alloc (.cells #[.string ⟨(C.blk id n).toArray⟩, .string t] 9 (0, 0))) fun e w' => e = .returned (.string ⟨(H.hmacL (Z7.macK key) (C.blk id n ++ t.data.toList)).toArray⟩) ∧ Below wx.heap.size wx w') := fun wx g hg => by
    have := hSum_new ⟨(Z7.macK key).toArray⟩ [⟨(C.blk id n).toArray⟩, t] wx _ rfl 2 g rfl hg (by have := Z7.macK_length key; simp [ByteArray.size, this]) (by simp) (by simp) (by rw [allOf_two]; simp [C.blk_length]; omega)
    rw [allOf_two] at this
    exact this
  have HM : Hid ((keyBox key)[16]? = some (.string ⟨(Z7.macK key).toArray⟩)) := keyBox_mac key
  have HLen : Hid ((H.hmacL (Z7.macK key) (C.blk id n ++ t.data.toList)).length = 32) := H.hmacL_length _ _
  have HTag : Hid (Z7.tagM (Z7.macK key) id n t.data.toList = (H.hmacL (Z7.macK key) (C.blk id n ++ t.data.toList)).take 16) := rfl
  generalize H.hmacL (Z7.macK key) (C.blk id n ++ t.data.toList) = S at *
  generalize Z7.tagM (Z7.macK key) id n t.data.toList = G at *
  generalize (⟨(Z7.macK key).toArray⟩ : ByteArray) = m at *
  generalize (⟨(C.blk id n).toArray⟩ : ByteArray) = hd at *
  generalize keyBox key = Y at *
  have r0 : Row (w.alloc (.cells Y.toArray 55 (0, 0))) w.heap.size 55 Y := Row.new' rfl rfl
  have b0 : Below w.heap.size w (w.alloc (.cells Y.toArray 55 (0, 0))) := (Below.refl _ _).alloc (Nat.le_refl _) _
  have c0 : (w.alloc (.cells Y.toArray 55 (0, 0))).cell? ⟨w.heap.size, 16, none⟩ = some (.string m) := (r0.cell 16).trans HM.out
  obtain ⟨wa, hwa⟩ : ∃ wa, wa = w.alloc (.cells Y.toArray 55 (0, 0)) := ⟨_, rfl⟩
  rw [← hwa] at r0 b0 c0
  have hSz : (⟨S.toArray⟩ : ByteArray).size = 32 := by have := HLen.out; simp [ByteArray.size, this]
  go_enter Try.func43, Try.ntmps43
  go_wp2_with fail
  show Code.wp _ _ _ _ (w.alloc (.cells Y.toArray 55 (0, 0)))
  rw [← hwa]
  clear hwa
  have hlt : w.heap.size < wa.heap.size := r0.lt
  go_region_held3 (fun w' => w'.cell? ⟨w.heap.size, 16, none⟩ = some (.string m)) (first | exact c0 | exact q0 | exact q1 | exact q2) (first
    | (go_at_call 23; refine (CH.out _).mono ?_; rintro e w1 ⟨rfl, b1⟩; have q0 : w1.cell? ⟨w.heap.size, 16, none⟩ = some (.string m) := (b1.cell (p := ⟨w.heap.size, 16, none⟩) hlt).trans c0; have q1 : (w1.alloc (.cells #[.string hd, .string t] 9 (0, 0))).cell? ⟨w.heap.size, 16, none⟩ = some (.string m) := (World.cell?_alloc_lt _ _ _ (show w.heap.size < w1.heap.size from Nat.lt_of_lt_of_le hlt b1.size)).trans q0)
    | (go_at_call 57; refine (CS.out _ _ rfl).mono ?_; rintro e w2 ⟨rfl, b2⟩; have q2 : w2.cell? ⟨w.heap.size, 16, none⟩ = some (.string m) := (b2.cell (p := ⟨w.heap.size, 16, none⟩) (show w.heap.size < w1.heap.size from Nat.lt_of_lt_of_le hlt b1.size)).trans q0))
  have hb : Below w.heap.size w w2 := b0.trans ((show Below wa.heap.size wa w2 from ((show Below wa.heap.size wa w1 from (show Below wa.heap.size wa wa.drew from (Below.refl _ _).drew).trans b1)).trans (b2.mono b1.size)).mono (Nat.le_of_lt hlt))
  clear b1 b2 q0 q1 q2 c0 r0 b0
  go_wp2
  go_ret
  exact ⟨by rw [HTag.out, ← W.arr_take]; rfl, hb⟩

theorem keyBox_enc (key : List UInt8) : ((keyBox key).drop 0).take 16 = W.cellsOf (Z7.encK key) := by
  unfold keyBox boxC
  rw [List.drop_zero, List.take_append_of_le_length (by rw [c8_len, Z7.encK_length]; exact Nat.le_refl _), List.take_of_length_le (by rw [c8_len, Z7.encK_length]; exact Nat.le_refl _)]

set_option maxHeartbeats 4000000 in
theorem seal_any (c : List Value) (key : List UInt8) (hx : IsBox c key) (id n : Nat) (t : ByteArray) (h1 : id ≤ 18446744073709551615) (h2 : n ≤ 18446744073709551615) (ht : t.size ≤ 1000) (w : World) :
    Calls Try.prog 21 #[.agg c.toArray, .int .u64 (id : Int), .int .u64 (n : Int), .string t] w fun e w' => e = .returned (.string ⟨(Z7.sealL key id n t.data.toList).toArray⟩) ∧ Below w.heap.size w w' := by
  have CF : Hid (∀ wx, Calls Try.prog 41 #[.agg c.toArray] wx fun e w' => e = .returned (.agg (keyBox key).toArray) ∧ Below wx.heap.size wx w') := fun wx => filled_any c key hx wx
  have CT : Hid (∀ wx, Calls Try.prog 42 #[.agg (W.cellsOf (Z7.encK key)).toArray, .int .u64 (n : Int), .string t] wx fun e w' => e = .returned (.string ⟨(C.turnL (Z7.encK key) n t.data.toList).toArray⟩) ∧ Below wx.heap.size wx w') := fun wx => turn_any (Z7.encK key) n t (Z7.encK_length key) h2 (by omega) wx
  have CG : Hid (∀ wx, Calls Try.prog 43 #[.agg (keyBox key).toArray, .int .u64 (id : Int), .int .u64 (n : Int), .string ⟨(C.turnL (Z7.encK key) n t.data.toList).toArray⟩] wx fun e w' => e = .returned (.string ⟨(Z7.tagM (Z7.macK key) id n (C.turnL (Z7.encK key) n t.data.toList)).toArray⟩) ∧ Below wx.heap.size wx w') := fun wx =>
    tag_any key id n ⟨(C.turnL (Z7.encK key) n t.data.toList).toArray⟩ h1 h2 (by rw [size_ofL, C.turnL_length, size_toL]; exact ht) wx
  have HR : Hid ((⟨(Z7.sealL key id n t.data.toList).toArray⟩ : ByteArray) = ⟨(C.turnL (Z7.encK key) n t.data.toList).toArray⟩ ++ ⟨(Z7.tagM (Z7.macK key) id n (C.turnL (Z7.encK key) n t.data.toList)).toArray⟩) := Go.WideShapes.bytes_inj (by simp [Z7.sealL])
  have hs1 : (⟨(C.turnL (Z7.encK key) n t.data.toList).toArray⟩ : ByteArray).size = t.size := by rw [size_ofL, C.turnL_length, size_toL]
  have hs2 : (⟨(Z7.tagM (Z7.macK key) id n (C.turnL (Z7.encK key) n t.data.toList)).toArray⟩ : ByteArray).size = 16 := by rw [size_ofL, Z7.tagM_length]
  have hic := info17c hx.length
  have hik := info17c (keyBox_length key)
  have HCL := Lib.hid hx.length
  have HKL := Lib.hid (keyBox_length key)
  have HKA := Lib.hid (keyBox_all key)
  have hie : (Try.prog.info? 53).map (·.size) = some (W.cellsOf (Z7.encK key)).length := by rw [info16k (Z7.encK_length key), List.size_toArray]
  have HE : Hid (∀ wx g, Row wx g 55 (keyBox key) → wx.rangeAt g 0 (W.cellsOf (Z7.encK key))) := fun wx g h => by
    have := h.rangeOf 0 16
    rwa [keyBox_enc] at this
  clear hx
  generalize (⟨(Z7.tagM (Z7.macK key) id n (C.turnL (Z7.encK key) n t.data.toList)).toArray⟩ : ByteArray) = G at *
  generalize (⟨(C.turnL (Z7.encK key) n t.data.toList).toArray⟩ : ByteArray) = T at *
  generalize (⟨(Z7.sealL key id n t.data.toList).toArray⟩ : ByteArray) = R at *
  generalize Z7.encK key = K at *
  generalize keyBox key = Y at *
  have r0 : Row (w.alloc (.cells c.toArray 55 (0, 0))) w.heap.size 55 c := Row.new' rfl rfl
  have b0 : Below w.heap.size w (w.alloc (.cells c.toArray 55 (0, 0))) := (Below.refl _ _).alloc (Nat.le_refl _) _
  obtain ⟨wa, hwa⟩ : ∃ wa, wa = w.alloc (.cells c.toArray 55 (0, 0)) := ⟨_, rfl⟩
  rw [← hwa] at r0 b0
  go_enter Try.func21, Try.ntmps21
  go_wp2_with (first
    | refine wpList_load_row rfl 55 (.tmp 4) rfl w.heap.size rfl _ _ _ _ (hwa ▸ r0) Try.underlying55 rfl hic ?_)
  rw [← hwa]
  clear hwa
  refine (CF.out _).mono ?_
  rintro e w1 ⟨rfl, b1⟩
  have r1 := r0.below b1 r0.lt
  have hb1 := b0.trans (b1.mono b0.size)
  have q1 := r1.setRow Y
  have hb2 := below_row hb1 (Nat.le_refl _) Y.toArray
  have hr := HE.out _ _ q1
  clear b1 r0 b0 hb1
  go_wp2_with (first
    | (refine wpList_store_row rfl 55 (.tmp 4) (.tmp 11) rfl w.heap.size _ rfl rfl _ _ r1 hik (by rw [List.size_toArray, List.size_toArray, HCL.out, HKL.out]) HKA.out ?_; generalize w1.setRow w.heap.size Y.toArray = w2 at *; clear r1)
    | refine wpList_load_mid rfl 53 (.tmp 12) rfl w.heap.size 0 rfl _ _ hr Try.underlying53 rfl hie ?_)
  refine (CT.out _).mono ?_
  rintro e w3 ⟨rfl, b3⟩
  have r3 := q1.below b3 q1.lt
  have hb3 := hb2.trans (b3.mono hb2.size)
  clear b3 q1 hb2 hr
  go_wp2_with (first
    | refine wpList_load_row rfl 55 (.tmp 4) rfl w.heap.size rfl _ _ _ _ r3 Try.underlying55 rfl hik ?_)
  refine (CG.out _).mono ?_
  rintro e w4 ⟨rfl, b4⟩
  have hb4 := hb3.trans (b4.mono hb3.size)
  clear b4 r3 hb3
  go_wp2
  go_ret
  exact ⟨by rw [HR.out]; rfl, hb4⟩

end Go.Proofs.Ytbkeodgiflfakaa
