/-
  Several texts in one module: ZBox, ZFill, ZSeal, ZOpen, ZAwake, XAwake, ZNonce.
-/
import Derived.Test.YtbkeodgiflfakaaMod1
import Derived.Test.YtbkeodgiflfakaaMod21
import Derived.Test.YtbkeodgiflfakaaMod18
import Derived.Test.YtbkeodgiflfakaaMod2
import Derived.Great.BuildSlice
/-
  Layer 7: a box's keys: derived, filled, New.
-/
namespace Go.Proofs.Ytbkeodgiflfakaa
open Go.RowKit
set_option linter.unusedVariables false
set_option maxRecDepth 20000

/-- A box's cells. -/
def boxC (k : List UInt8) (m : ByteArray) : List Value := W.cellsOf k ++ [.string m]
theorem boxC_length {k : List UInt8} (hk : k.length = 16) (m : ByteArray) : (boxC k m).length = 17 := by simp [boxC, c8_len, hk]
theorem boxC_all (k : List UInt8) (m : ByteArray) : (boxC k m).toArray.all (·.oneCell') = true := by simp [boxC, W.cellsOf, Value.oneCell']
theorem infoBoxS : (Try.prog.info? 55).map (·.size) = some 17 := by kernel_rfl
theorem info17 {k : List UInt8} (hk : k.length = 16) (m : ByteArray) : (Try.prog.info? 55).map (·.size) = some (boxC k m).toArray.size := by
  rw [List.size_toArray, boxC_length hk]; exact infoBoxS
theorem list16 {α : Type} {l : List α} (h : l.length = 16) : ∃ a0 a1 a2 a3 a4 a5 a6 a7 a8 a9 a10 a11 a12 a13 a14 a15, l = [a0, a1, a2, a3, a4, a5, a6, a7, a8, a9, a10, a11, a12, a13, a14, a15] := by
  match l, h with
  | [a0, a1, a2, a3, a4, a5, a6, a7, a8, a9, a10, a11, a12, a13, a14, a15], _ => exact ⟨_, _, _, _, _, _, _, _, _, _, _, _, _, _, _, _, rfl⟩
theorem builtBox {k : List UInt8} (hk : k.length = 16) (m : ByteArray) : Try.prog.built 55 [(0, .agg (W.cellsOf k).toArray), (1, .string m)] = some (boxC k m).toArray := by
  obtain ⟨a0, a1, a2, a3, a4, a5, a6, a7, a8, a9, a10, a11, a12, a13, a14, a15, rfl⟩ := list16 hk
  kernel_rfl
theorem bytes_of {x : ByteArray} {l : List UInt8} (h : x.data.toList = l) : x = ⟨l.toArray⟩ := by
  subst h; cases x; simp

set_option maxHeartbeats 2000000 in
theorem derived_any (key : ByteArray) (hk : key.size ≤ 100) (w : World) :
    Calls Try.prog 40 #[.string key] w fun e w' => e = .returned (.agg (boxC (Z7.encK key.data.toList) ⟨(Z7.macK key.data.toList).toArray⟩).toArray) ∧ Below w.heap.size w w' := by
  have C1 : Hid (∀ wx, Calls Try.prog 54 #[.string key, .string ⟨#[101, 110, 99]⟩, .int .i64 16] wx fun e w' => ∃ x : ByteArray, e = .returned (.tuple #[.string x, .int .i64 0]) ∧ x.data.toList = Z7.encK key.data.toList ∧ Below wx.heap.size wx w') := fun wx => derive_mid key ⟨#[101, 110, 99]⟩ 16 (by decide) (by omega) (by decide) wx
  have C2 : Hid (∀ wx, Calls Try.prog 54 #[.string key, .string ⟨#[109, 97, 99]⟩, .int .i64 32] wx fun e w' => ∃ x : ByteArray, e = .returned (.tuple #[.string x, .int .i64 0]) ∧ x.data.toList = Z7.macK key.data.toList ∧ Below wx.heap.size wx w') := fun wx => derive_mid key ⟨#[109, 97, 99]⟩ 32 (by decide) (by omega) (by decide) wx
  have HE := Lib.hid (Z7.encK_length key.data.toList)
  generalize Z7.encK key.data.toList = K at *
  generalize Z7.macK key.data.toList = M at *
  have hik := info16k HE.out
  have hib := info17 HE.out ⟨M.toArray⟩
  have r0 : Row (w.alloc (.cells (boxC (List.replicate 16 0) ⟨#[]⟩).toArray 55 (0, 0))) w.heap.size 55 (boxC (List.replicate 16 0) ⟨#[]⟩) := Row.new' rfl rfl
  have b0 : Below w.heap.size w (w.alloc (.cells (boxC (List.replicate 16 0) ⟨#[]⟩).toArray 55 (0, 0))) := (Below.refl _ _).alloc (Nat.le_refl _) _
  obtain ⟨w0, hw0⟩ : ∃ w0, w0 = w.alloc (.cells (boxC (List.replicate 16 0) ⟨#[]⟩).toArray 55 (0, 0)) := ⟨_, rfl⟩
  rw [← hw0] at r0 b0
  go_enter Try.func40, Try.ntmps40
  go_wp2_with fail
  show Calls _ _ _ (w.alloc (.cells (boxC (List.replicate 16 0) ⟨#[]⟩).toArray 55 (0, 0))) _
  rw [← hw0]
  clear hw0
  refine (C1.out _).mono ?_
  rintro e w1 ⟨x, rfl, hx, b1⟩
  have r1 := r0.below b1 r0.lt
  have hb1 := b0.trans (b1.mono b0.size)
  clear b1 r0 b0
  go_wp2_with fail
  refine (C2.out _).mono ?_
  rintro e w2 ⟨y, rfl, hy, b2⟩
  have r2 := r1.below b2 r1.lt
  have hb2 := hb1.trans (b2.mono hb1.size)
  clear b2 r1 hb1
  have hxs : x.size = 16 := by have := HE.out; rw [← hx] at this; simpa using this
  have C3 := Lib.hid (new_yes x hxs w2)
  rw [hx] at C3
  have ey := bytes_of hy
  clear hx hxs hy C1 C2
  subst ey
  go_wp2_with fail
  refine C3.out.mono ?_
  rintro e w3 ⟨rfl, b3⟩
  have r3 := r2.below b3 r2.lt
  have hb3 := hb2.trans (b3.mono hb2.size)
  have rk : Row (w3.alloc (.cells (W.cellsOf K).toArray 53 (0, 0))) w3.heap.size 53 (W.cellsOf K) := Row.new' rfl rfl
  have r4 := r3.alloc (.cells (W.cellsOf K).toArray 53 (0, 0))
  have hb4 := hb3.alloc hb3.size (.cells (W.cellsOf K).toArray 53 (0, 0))
  have HZ : Hid ((W.cellsOf (List.replicate 16 0)).toArray.size = (W.cellsOf K).toArray.size) := by show _ = _; rw [List.size_toArray, List.size_toArray, c8_len, c8_len, HE.out]; rfl
  clear b3 r2 hb2 C3 r3 hb3
  go_wp2_with (first
    | refine wpList_store_new rfl 53 (.tmp 7) (.tmp 22) rfl w3 _ _ _ _ rfl rfl rfl hik HZ.out (c8_all _) ?_
    | refine wpList_load_row rfl 53 (.tmp 7) rfl w3.heap.size rfl _ _ _ _ rk Try.underlying53 rfl hik ?_
    | refine wpList_buildTo rfl 55 #[(0, .tmp 24), (1, .tmp 25)] rfl (some 26) rfl (boxC K ⟨M.toArray⟩).toArray ((show Try.prog.built 55 _ = Try.prog.built 55 [(0, .agg (W.cellsOf K).toArray), (1, .string ⟨M.toArray⟩)] by kernel_rfl).trans (builtBox HE.out _)) ?_
    | refine wpList_store_row rfl 55 (.tmp 2) (.tmp 26) rfl w.heap.size _ rfl rfl _ _ r4 hib (by rw [List.size_toArray, List.size_toArray, boxC_length HE.out, boxC_length rfl]) (boxC_all _ _) ?_)
  exact bodyPost_ret (results_cell_row rfl _ _ w.heap.size _ _ _ _ rfl (r4.setRow _) Try.underlying55 rfl hib) rfl ⟨rfl, below_row hb4 (Nat.le_refl _) _⟩

end Go.Proofs.Ytbkeodgiflfakaa

/-
  Layer 7: filled, New, Head, Size, Nonce, Seq.
-/
namespace Go.Proofs.Ytbkeodgiflfakaa
open Go.RowKit
set_option linter.unusedVariables false
set_option maxRecDepth 20000

def zeroBox : List Value := boxC (List.replicate 16 0) ⟨#[]⟩
def keyBox (key : List UInt8) : List Value := boxC (Z7.encK key) ⟨(Z7.macK key).toArray⟩
/-- A box of that key; the zero one is of one byte 0. -/
def IsBox (c : List Value) (key : List UInt8) : Prop := c = keyBox key ∨ (c = zeroBox ∧ key = [0])

theorem keyBox_length (key : List UInt8) : (keyBox key).length = 17 := boxC_length (Z7.encK_length key) _
theorem zeroBox_length : zeroBox.length = 17 := rfl
theorem info17c {c : List Value} (h : c.length = 17) : (Try.prog.info? 55).map (·.size) = some c.toArray.size := by rw [List.size_toArray, h]; exact infoBoxS
theorem IsBox.length {c : List Value} {key : List UInt8} (h : IsBox c key) : c.length = 17 := by
  rcases h with rfl | ⟨rfl, _⟩
  · exact keyBox_length _
  · rfl
theorem keyBox_all (key : List UInt8) : (keyBox key).toArray.all (·.oneCell') = true := boxC_all _ _
theorem zeroBox_all : zeroBox.toArray.all (·.oneCell') = true := boxC_all _ _
theorem boxC_mac {k : List UInt8} (hk : k.length = 16) (m : ByteArray) : (boxC k m)[16]? = some (.string m) := by
  unfold boxC; rw [List.getElem?_append_right (by rw [c8_len, hk]; exact Nat.le_refl _), c8_len, hk]; rfl
theorem keyBox_mac (key : List UInt8) : (keyBox key)[16]? = some (.string ⟨(Z7.macK key).toArray⟩) := boxC_mac (Z7.encK_length key) _

set_option maxHeartbeats 2000000 in
theorem filled_any (c : List Value) (key : List UInt8) (h : IsBox c key) (w : World) :
    Calls Try.prog 41 #[.agg c.toArray] w fun e w' => e = .returned (.agg (keyBox key).toArray) ∧ Below w.heap.size w w' := by
  have hl := h.length
  have hic := info17c hl
  have hik := info17c (keyBox_length key)
  have HKL := Lib.hid (keyBox_length key)
  have HZL : Hid (zeroBox.length = 17) := zeroBox_length
  have HKA := Lib.hid (keyBox_all key)
  have rc : Row ((w.alloc (.cells c.toArray 55 (0, 0))).alloc (.cells zeroBox.toArray 55 (0, 0))) w.heap.size 55 c := (Row.new' rfl rfl).alloc _
  have rz : Row ((w.alloc (.cells c.toArray 55 (0, 0))).alloc (.cells zeroBox.toArray 55 (0, 0))) (w.heap.size + 1) 55 zeroBox := Row.new' rfl (by simp)
  have b0 : Below w.heap.size w ((w.alloc (.cells c.toArray 55 (0, 0))).alloc (.cells zeroBox.toArray 55 (0, 0))) := ((Below.refl _ _).alloc (Nat.le_refl _) _).alloc (by simp) _
  rcases h with e | ⟨e, ek⟩
  · subst e
    have hy := keyBox_mac key
    have hm : (⟨(Z7.macK key).toArray⟩ : ByteArray).toList.isEmpty = false := by
      rw [ByteArray.toList_eq]
      show (Z7.macK key).isEmpty = false
      have h2 := Z7.macK_length key
      cases hq : Z7.macK key with
      | nil => rw [hq] at h2; cases h2
      | cons x y => rfl
    generalize (⟨(Z7.macK key).toArray⟩ : ByteArray) = m at *
    generalize keyBox key = Y at *
    clear hic hl
    go_enter Try.func41, Try.ntmps41
    go_wp2_with (first
      | refine wpList_load_row rfl 55 (.tmp 1) rfl w.heap.size rfl _ _ _ _ rc Try.underlying55 rfl hik ?_
      | refine wpList_store_row rfl 55 (.tmp 2) (.tmp 7) rfl (w.heap.size + 1) _ rfl rfl _ _ rz hik (by rw [List.size_toArray, List.size_toArray, HZL.out, HKL.out]) HKA.out ?_)
    exact bodyPost_ret (results_cell_row rfl _ _ (w.heap.size + 1) _ _ _ _ rfl (rz.setRow _) Try.underlying55 rfl hik) rfl ⟨rfl, below_row b0 (by omega) _⟩
  · subst e
    subst ek
    have CD : Hid (∀ wx, Calls Try.prog 40 #[.string ⟨#[0]⟩] wx fun e w' => e = .returned (.agg (keyBox [0]).toArray) ∧ Below wx.heap.size wx w') := fun wx => derived_any ⟨#[0]⟩ (by decide) wx
    generalize keyBox [0] = Y at *
    clear hic hl
    have hzm : zeroBox[16]? = some (.string ⟨#[]⟩) := rfl
    go_enter Try.func41, Try.ntmps41
    go_wp2_with fail
    refine (CD.out _).mono ?_
    rintro e w1 ⟨rfl, b1⟩
    have r1 := Row.below (l := zeroBox) (g := w.heap.size + 1) rz b1 rz.lt
    have hb1 : Below w.heap.size w w1 := b0.trans (b1.mono b0.size)
    clear b1 rz rc b0
    go_wp2_with (first
      | refine wpList_store_row rfl 55 (.tmp 2) (.tmp 6) rfl (w.heap.size + 1) _ rfl rfl _ _ r1 hik (by rw [List.size_toArray, List.size_toArray, HZL.out, HKL.out]) HKA.out ?_)
    exact bodyPost_ret (results_cell_row rfl _ _ (w.heap.size + 1) _ _ _ _ rfl (r1.setRow _) Try.underlying55 rfl hik) rfl ⟨rfl, below_row hb1 (by omega) _⟩

set_option maxHeartbeats 2000000 in
theorem sealNew_yes (key : ByteArray) (h1 : 1 ≤ key.size) (h2 : key.size ≤ 64) (w : World) :
    Calls Try.prog 19 #[.string key] w fun e w' => e = .returned (.tuple #[.agg (keyBox key.data.toList).toArray, .int .i64 0]) ∧ Below w.heap.size w w' := by
  have CD : Hid (∀ wx, Calls Try.prog 40 #[.string key] wx fun e w' => e = .returned (.agg (keyBox key.data.toList).toArray) ∧ Below wx.heap.size wx w') := fun wx => derived_any key (by omega) wx
  have g1 : ¬ (key.size : Int) < 1 := by omega
  have g2 : ¬ (64 : Int) < key.size := by omega
  have hik := info17c (keyBox_length key.data.toList)
  have HKL := Lib.hid (keyBox_length key.data.toList)
  have HZL : Hid (zeroBox.length = 17) := zeroBox_length
  have HKA := Lib.hid (keyBox_all key.data.toList)
  generalize keyBox key.data.toList = Y at *
  have rz : Row (w.alloc (.cells zeroBox.toArray 55 (0, 0))) w.heap.size 55 zeroBox := Row.new' rfl rfl
  have b0 : Below w.heap.size w (w.alloc (.cells zeroBox.toArray 55 (0, 0))) := (Below.refl _ _).alloc (Nat.le_refl _) _
  go_enter Try.func19, Try.ntmps19
  go_wp2_with fail
  refine (CD.out _).mono ?_
  rintro e w1 ⟨rfl, b1⟩
  have r1 := Row.below (l := zeroBox) (g := w.heap.size) rz b1 rz.lt
  have hb1 : Below w.heap.size w w1 := b0.trans (b1.mono b0.size)
  clear b1 rz b0
  go_wp2_with (first
    | refine wpList_store_row rfl 55 (.tmp 2) (.tmp 14) rfl w.heap.size _ rfl rfl _ _ r1 hik (by rw [List.size_toArray, List.size_toArray, HZL.out, HKL.out]) HKA.out ?_)
  exact bodyPost_ret (results_row_tmp rfl _ _ w.heap.size 55 Y _ rfl (r1.setRow _) Try.underlying55 rfl hik) rfl ⟨rfl, below_row hb1 (Nat.le_refl _) _⟩

set_option maxHeartbeats 2000000 in
theorem sealNew_no (key : ByteArray) (h : key.size < 1 ∨ 64 < key.size) (w : World) :
    Calls Try.prog 19 #[.string key] w fun e w' => e = .returned (.tuple #[.agg zeroBox.toArray, .int .i64 2]) ∧ Below w.heap.size w w' := by
  have hik := info17c zeroBox_length
  have rz : Row (w.alloc (.cells zeroBox.toArray 55 (0, 0))) w.heap.size 55 zeroBox := Row.new' rfl rfl
  have b0 : Below w.heap.size w (w.alloc (.cells zeroBox.toArray 55 (0, 0))) := (Below.refl _ _).alloc (Nat.le_refl _) _
  go_enter Try.func19, Try.ntmps19
  rcases h with h | h
  · have g1 : (key.size : Int) < 1 := by omega
    go_wp2_with fail
    exact bodyPost_ret (results_row_tmp rfl _ _ w.heap.size 55 zeroBox _ rfl rz Try.underlying55 rfl hik) rfl ⟨rfl, b0⟩
  · have g1 : ¬ (key.size : Int) < 1 := by omega
    have g2 : (64 : Int) < key.size := by omega
    go_wp2_with fail
    exact bodyPost_ret (results_row_tmp rfl _ _ w.heap.size 55 zeroBox _ rfl rz Try.underlying55 rfl hik) rfl ⟨rfl, b0⟩

end Go.Proofs.Ytbkeodgiflfakaa

/-
  Layer 7: tag, Seal, Open.
-/
namespace Go.Proofs.Ytbkeodgiflfakaa
open Go.RowKit
set_option linter.unusedVariables false
set_option maxRecDepth 20000

theorem size_ofL (l : List UInt8) : (⟨l.toArray⟩ : ByteArray).size = l.length := List.size_toArray
theorem size_toL (s : ByteArray) : s.data.toList.length = s.size := by simp
theorem allOf_two (a b : ByteArray) : allOf [a, b] = a.data.toList ++ b.data.toList := by simp [allOf]

set_option maxHeartbeats 4000000 in
theorem tag_any (key : List UInt8) (id n : Nat) (t : ByteArray) (h1 : id ≤ 18446744073709551615) (h2 : n ≤ 18446744073709551615) (ht : t.size ≤ 1000) (w : World) :
    Calls Try.prog 43 #[.agg (keyBox key).toArray, .int .u64 (id : Int), .int .u64 (n : Int), .string t] w fun e w' => e = .returned (.string ⟨(Z7.tagM (Z7.macK key) id n t.data.toList).toArray⟩) ∧ Below w.heap.size w w' := by
  have CH : Hid (∀ wx, Calls Try.prog 23 #[.int .u64 (id : Int), .int .u64 (n : Int)] wx fun e w' => e = .returned (.string ⟨(C.blk id n).toArray⟩) ∧ Below wx.heap.size wx w') := fun wx => head_any id n h1 h2 wx
  have CS : Hid (∀ (wx : World) (g : Nat), g = wx.heap.size → Calls Try.prog 57 #[.string ⟨(Z7.macK key).toArray⟩, .slice (some ⟨g, 0, none⟩) 2 2] (wx.alloc (.cells #[.string ⟨(C.blk id n).toArray⟩, .string t] 9 (0, 0))) fun e w' => e = .returned (.string ⟨(H.hmacL (Z7.macK key) (C.blk id n ++ t.data.toList)).toArray⟩) ∧ Below wx.heap.size wx w') := fun wx g hg => by
    have := hSum_new ⟨(Z7.macK key).toArray⟩ [⟨(C.blk id n).toArray⟩, t] wx _ rfl 2 g rfl hg (by have := Z7.macK_length key; simp [ByteArray.size, this]) (by simp) (by simp) (by rw [allOf_two]; simp [C.blk_length]; omega)
    rw [allOf_two] at this
    exact this
  have HM : Hid ((keyBox key)[16]? = some (.string ⟨(Z7.macK key).toArray⟩)) := keyBox_mac key
  have HLen : Hid ((H.hmacL (Z7.macK key) (C.blk id n ++ t.data.toList)).length = 32) := H.hmacL_length _ _
  have HTag : Hid (Z7.tagM (Z7.macK key) id n t.data.toList = (H.hmacL (Z7.macK key) (C.blk id n ++ t.data.toList)).take 16) := rfl
  generalize H.hmacL (Z7.macK key) (C.blk id n ++ t.data.toList) = S at *
  generalize Z7.tagM (Z7.macK key) id n t.data.toList = G at *
  generalize (⟨(Z7.macK key).toArray⟩ : ByteArray) = m at *
  generalize (⟨(C.blk id n).toArray⟩ : ByteArray) = hd at *
  generalize keyBox key = Y at *
  have r0 : Row (w.alloc (.cells Y.toArray 55 (0, 0))) w.heap.size 55 Y := Row.new' rfl rfl
  have b0 : Below w.heap.size w (w.alloc (.cells Y.toArray 55 (0, 0))) := (Below.refl _ _).alloc (Nat.le_refl _) _
  have c0 : (w.alloc (.cells Y.toArray 55 (0, 0))).cell? ⟨w.heap.size, 16, none⟩ = some (.string m) := (r0.cell 16).trans HM.out
  obtain ⟨wa, hwa⟩ : ∃ wa, wa = w.alloc (.cells Y.toArray 55 (0, 0)) := ⟨_, rfl⟩
  rw [← hwa] at r0 b0 c0
  have hSz : (⟨S.toArray⟩ : ByteArray).size = 32 := by have := HLen.out; simp [ByteArray.size, this]
  go_enter Try.func43, Try.ntmps43
  go_wp2_with fail
  show Code.wp _ _ _ _ (w.alloc (.cells Y.toArray 55 (0, 0)))
  rw [← hwa]
  clear hwa
  have hlt : w.heap.size < wa.heap.size := r0.lt
  go_region_held3 (fun w' => w'.cell? ⟨w.heap.size, 16, none⟩ = some (.string m)) (first | exact c0 | exact q0 | exact q1 | exact q2) (first
    | (go_at_call 23; refine (CH.out _).mono ?_; rintro e w1 ⟨rfl, b1⟩; have q0 : w1.cell? ⟨w.heap.size, 16, none⟩ = some (.string m) := (b1.cell (p := ⟨w.heap.size, 16, none⟩) hlt).trans c0; have q1 : (w1.alloc (.cells #[.string hd, .string t] 9 (0, 0))).cell? ⟨w.heap.size, 16, none⟩ = some (.string m) := (World.cell?_alloc_lt _ _ _ (show w.heap.size < w1.heap.size from Nat.lt_of_lt_of_le hlt b1.size)).trans q0)
    | (go_at_call 57; refine (CS.out _ _ rfl).mono ?_; rintro e w2 ⟨rfl, b2⟩; have q2 : w2.cell? ⟨w.heap.size, 16, none⟩ = some (.string m) := (b2.cell (p := ⟨w.heap.size, 16, none⟩) (show w.heap.size < w1.heap.size from Nat.lt_of_lt_of_le hlt b1.size)).trans q0))
  have hb : Below w.heap.size w w2 := b0.trans ((show Below wa.heap.size wa w2 from ((show Below wa.heap.size wa w1 from (show Below wa.heap.size wa wa.drew from (Below.refl _ _).drew).trans b1)).trans (b2.mono b1.size)).mono (Nat.le_of_lt hlt))
  clear b1 b2 q0 q1 q2 c0 r0 b0
  go_wp2
  go_ret
  exact ⟨by rw [HTag.out, ← W.arr_take]; rfl, hb⟩

theorem keyBox_enc (key : List UInt8) : ((keyBox key).drop 0).take 16 = W.cellsOf (Z7.encK key) := by
  unfold keyBox boxC
  rw [List.drop_zero, List.take_append_of_le_length (by rw [c8_len, Z7.encK_length]; exact Nat.le_refl _), List.take_of_length_le (by rw [c8_len, Z7.encK_length]; exact Nat.le_refl _)]

set_option maxHeartbeats 4000000 in
theorem seal_any (c : List Value) (key : List UInt8) (hx : IsBox c key) (id n : Nat) (t : ByteArray) (h1 : id ≤ 18446744073709551615) (h2 : n ≤ 18446744073709551615) (ht : t.size ≤ 1000) (w : World) :
    Calls Try.prog 21 #[.agg c.toArray, .int .u64 (id : Int), .int .u64 (n : Int), .string t] w fun e w' => e = .returned (.string ⟨(Z7.sealL key id n t.data.toList).toArray⟩) ∧ Below w.heap.size w w' := by
  have CF : Hid (∀ wx, Calls Try.prog 41 #[.agg c.toArray] wx fun e w' => e = .returned (.agg (keyBox key).toArray) ∧ Below wx.heap.size wx w') := fun wx => filled_any c key hx wx
  have CT : Hid (∀ wx, Calls Try.prog 42 #[.agg (W.cellsOf (Z7.encK key)).toArray, .int .u64 (n : Int), .string t] wx fun e w' => e = .returned (.string ⟨(C.turnL (Z7.encK key) n t.data.toList).toArray⟩) ∧ Below wx.heap.size wx w') := fun wx => turn_any (Z7.encK key) n t (Z7.encK_length key) h2 (by omega) wx
  have CG : Hid (∀ wx, Calls Try.prog 43 #[.agg (keyBox key).toArray, .int .u64 (id : Int), .int .u64 (n : Int), .string ⟨(C.turnL (Z7.encK key) n t.data.toList).toArray⟩] wx fun e w' => e = .returned (.string ⟨(Z7.tagM (Z7.macK key) id n (C.turnL (Z7.encK key) n t.data.toList)).toArray⟩) ∧ Below wx.heap.size wx w') := fun wx =>
    tag_any key id n ⟨(C.turnL (Z7.encK key) n t.data.toList).toArray⟩ h1 h2 (by rw [size_ofL, C.turnL_length, size_toL]; exact ht) wx
  have HR : Hid ((⟨(Z7.sealL key id n t.data.toList).toArray⟩ : ByteArray) = ⟨(C.turnL (Z7.encK key) n t.data.toList).toArray⟩ ++ ⟨(Z7.tagM (Z7.macK key) id n (C.turnL (Z7.encK key) n t.data.toList)).toArray⟩) := Go.WideShapes.bytes_inj (by simp [Z7.sealL])
  have hs1 : (⟨(C.turnL (Z7.encK key) n t.data.toList).toArray⟩ : ByteArray).size = t.size := by rw [size_ofL, C.turnL_length, size_toL]
  have hs2 : (⟨(Z7.tagM (Z7.macK key) id n (C.turnL (Z7.encK key) n t.data.toList)).toArray⟩ : ByteArray).size = 16 := by rw [size_ofL, Z7.tagM_length]
  have hic := info17c hx.length
  have hik := info17c (keyBox_length key)
  have HCL := Lib.hid hx.length
  have HKL := Lib.hid (keyBox_length key)
  have HKA := Lib.hid (keyBox_all key)
  have hie : (Try.prog.info? 53).map (·.size) = some (W.cellsOf (Z7.encK key)).length := by rw [info16k (Z7.encK_length key), List.size_toArray]
  have HE : Hid (∀ wx g, Row wx g 55 (keyBox key) → wx.rangeAt g 0 (W.cellsOf (Z7.encK key))) := fun wx g h => by
    have := h.rangeOf 0 16
    rwa [keyBox_enc] at this
  clear hx
  generalize (⟨(Z7.tagM (Z7.macK key) id n (C.turnL (Z7.encK key) n t.data.toList)).toArray⟩ : ByteArray) = G at *
  generalize (⟨(C.turnL (Z7.encK key) n t.data.toList).toArray⟩ : ByteArray) = T at *
  generalize (⟨(Z7.sealL key id n t.data.toList).toArray⟩ : ByteArray) = R at *
  generalize Z7.encK key = K at *
  generalize keyBox key = Y at *
  have r0 : Row (w.alloc (.cells c.toArray 55 (0, 0))) w.heap.size 55 c := Row.new' rfl rfl
  have b0 : Below w.heap.size w (w.alloc (.cells c.toArray 55 (0, 0))) := (Below.refl _ _).alloc (Nat.le_refl _) _
  obtain ⟨wa, hwa⟩ : ∃ wa, wa = w.alloc (.cells c.toArray 55 (0, 0)) := ⟨_, rfl⟩
  rw [← hwa] at r0 b0
  go_enter Try.func21, Try.ntmps21
  go_wp2_with (first
    | refine wpList_load_row rfl 55 (.tmp 4) rfl w.heap.size rfl _ _ _ _ (hwa ▸ r0) Try.underlying55 rfl hic ?_)
  rw [← hwa]
  clear hwa
  refine (CF.out _).mono ?_
  rintro e w1 ⟨rfl, b1⟩
  have r1 := r0.below b1 r0.lt
  have hb1 := b0.trans (b1.mono b0.size)
  have q1 := r1.setRow Y
  have hb2 := below_row hb1 (Nat.le_refl _) Y.toArray
  have hr := HE.out _ _ q1
  clear b1 r0 b0 hb1
  go_wp2_with (first
    | (refine wpList_store_row rfl 55 (.tmp 4) (.tmp 11) rfl w.heap.size _ rfl rfl _ _ r1 hik (by rw [List.size_toArray, List.size_toArray, HCL.out, HKL.out]) HKA.out ?_; generalize w1.setRow w.heap.size Y.toArray = w2 at *; clear r1)
    | refine wpList_load_mid rfl 53 (.tmp 12) rfl w.heap.size 0 rfl _ _ hr Try.underlying53 rfl hie ?_)
  refine (CT.out _).mono ?_
  rintro e w3 ⟨rfl, b3⟩
  have r3 := q1.below b3 q1.lt
  have hb3 := hb2.trans (b3.mono hb2.size)
  clear b3 q1 hb2 hr
  go_wp2_with (first
    | refine wpList_load_row rfl 55 (.tmp 4) rfl w.heap.size rfl _ _ _ _ r3 Try.underlying55 rfl hik ?_)
  refine (CG.out _).mono ?_
  rintro e w4 ⟨rfl, b4⟩
  have hb4 := hb3.trans (b4.mono hb3.size)
  clear b4 r3 hb3
  go_wp2
  go_ret
  exact ⟨by rw [HR.out]; rfl, hb4⟩

end Go.Proofs.Ytbkeodgiflfakaa

/-
  Layer 7: Open.
-/
namespace Go.Proofs.Ytbkeodgiflfakaa
open Go.RowKit
set_option linter.unusedVariables false
set_option maxRecDepth 20000

set_option maxHeartbeats 1000000 in
theorem open_short (c : List Value) (id n : Int) (s : ByteArray) (hs : s.size < 16) (w : World) :
    Calls Try.prog 24 #[.agg c.toArray, .int .u64 id, .int .u64 n, .string s] w fun e w' => e = .returned (.tuple #[.string ⟨#[]⟩, .int .i64 3]) ∧ Below w.heap.size w w' := by
  have h1 : (s.size : Int) < 16 := by omega
  have b0 : Below w.heap.size w (w.alloc (.cells c.toArray 55 (0, 0))) := (Below.refl _ _).alloc (Nat.le_refl _) _
  go_enter Try.func24, Try.ntmps24
  go_wp2
  go_ret2
  exact ⟨rfl, b0⟩

set_option maxHeartbeats 4000000 in
theorem open_long (c : List Value) (key : List UInt8) (hx : IsBox c key) (id n : Nat) (s : ByteArray) (h1 : id ≤ 18446744073709551615) (h2 : n ≤ 18446744073709551615) (hs : 16 ≤ s.size) (hl : s.size ≤ 1000) (w : World) :
    Calls Try.prog 24 #[.agg c.toArray, .int .u64 (id : Int), .int .u64 (n : Int), .string s] w fun e w' => e = .returned (.tuple #[.string ⟨(Z7.openL key id n s.data.toList).toArray⟩, .int .i64 (Z7.openE key id n s.data.toList : Nat)]) ∧ Below w.heap.size w w' := by
  obtain ⟨t, ht⟩ : ∃ t : ByteArray, t = ⟨(s.data.toList.take (s.size - 16)).toArray⟩ := ⟨_, rfl⟩
  obtain ⟨u, hu⟩ : ∃ u : ByteArray, u = ⟨(s.data.toList.drop (s.size - 16)).toArray⟩ := ⟨_, rfl⟩
  have htl : t.data.toList = s.data.toList.take (s.size - 16) := by rw [ht]
  have hul : u.data.toList = s.data.toList.drop (s.size - 16) := by rw [hu]
  have hts : t.size = s.size - 16 := by rw [ht, size_ofL, List.length_take, size_toL]; omega
  have hus : u.size = 16 := by rw [hu, size_ofL, List.length_drop, size_toL]; omega
  have ext : s.extract 0 (s.size - 16) = t := by
    rw [ht, ← W.arr_take]
  have exu : s.extract (s.size - 16) s.size = u := by
    have := W.arr_drop s.data.toList (s.size - 16)
    rw [hu, ← this]
  have CF : Hid (∀ wx, Calls Try.prog 41 #[.agg c.toArray] wx fun e w' => e = .returned (.agg (keyBox key).toArray) ∧ Below wx.heap.size wx w') := fun wx => filled_any c key hx wx
  have CT : Hid (∀ wx, Calls Try.prog 42 #[.agg (W.cellsOf (Z7.encK key)).toArray, .int .u64 (n : Int), .string t] wx fun e w' => e = .returned (.string ⟨(Z7.bodyL key n s.data.toList).toArray⟩) ∧ Below wx.heap.size wx w') := fun wx => by
    have := turn_any (Z7.encK key) n t (Z7.encK_length key) h2 (by omega) wx
    rw [htl] at this
    unfold Z7.bodyL
    rw [size_toL]
    exact this
  have CG : Hid (∀ wx, Calls Try.prog 43 #[.agg (keyBox key).toArray, .int .u64 (id : Int), .int .u64 (n : Int), .string t] wx fun e w' => e = .returned (.string ⟨(Z7.tagM (Z7.macK key) id n t.data.toList).toArray⟩) ∧ Below wx.heap.size wx w') := fun wx =>
    tag_any key id n t h1 h2 (by omega) wx
  have CM : Hid (∀ wx, Calls Try.prog 45 #[.string u, .string ⟨(Z7.tagM (Z7.macK key) id n t.data.toList).toArray⟩] wx fun e w' => e = .returned (.bool (Z7.opens key id n s.data.toList)) ∧ Below wx.heap.size wx w') := fun wx => by
    have := same_any u ⟨(Z7.tagM (Z7.macK key) id n t.data.toList).toArray⟩ (by omega) (by rw [size_ofL, Z7.tagM_length]; decide) wx
    rw [ByteArray.toList_eq, ByteArray.toList_eq] at this
    have e : (u.data.toList == (⟨(Z7.tagM (Z7.macK key) id n t.data.toList).toArray⟩ : ByteArray).data.toList) = Z7.opens key id n s.data.toList := by
      show (u.data.toList == Z7.tagM (Z7.macK key) id n t.data.toList) = _
      unfold Z7.opens
      rw [hul, htl, size_toL, Bool.eq_iff_iff, beq_iff_eq, beq_iff_eq]
      exact eq_comm
    rw [e] at this
    exact this
  have hsl : ¬ s.data.toList.length < 16 := by rw [size_toL]; omega
  have HO : Hid (Z7.openL key id n s.data.toList = if Z7.opens key id n s.data.toList then Z7.bodyL key n s.data.toList else []) := by show _ = _; unfold Z7.openL; rw [if_neg hsl]
  have HE : Hid (Z7.openE key id n s.data.toList = if Z7.opens key id n s.data.toList then 0 else 8) := by show _ = _; unfold Z7.openE; rw [if_neg hsl]
  have hic := info17c hx.length
  have hik := info17c (keyBox_length key)
  have HCL := Lib.hid hx.length
  have HKL := Lib.hid (keyBox_length key)
  have HKA := Lib.hid (keyBox_all key)
  have hie : (Try.prog.info? 53).map (·.size) = some (W.cellsOf (Z7.encK key)).length := by rw [info16k (Z7.encK_length key), List.size_toArray]
  have HEn : Hid (∀ wx g, Row wx g 55 (keyBox key) → wx.rangeAt g 0 (W.cellsOf (Z7.encK key))) := fun wx g h => by
    have := h.rangeOf 0 16
    rwa [keyBox_enc] at this
  clear hx ht hu htl hul hsl
  generalize Z7.opens key id n s.data.toList = ok at *
  generalize Z7.openL key id n s.data.toList = OL at *
  generalize Z7.openE key id n s.data.toList = OE at *
  generalize Z7.bodyL key n s.data.toList = BD at *
  generalize (⟨(Z7.tagM (Z7.macK key) id n t.data.toList).toArray⟩ : ByteArray) = G at *
  generalize Z7.encK key = K at *
  generalize keyBox key = Y at *
  have r0 : Row (w.alloc (.cells c.toArray 55 (0, 0))) w.heap.size 55 c := Row.new' rfl rfl
  have b0 : Below w.heap.size w (w.alloc (.cells c.toArray 55 (0, 0))) := (Below.refl _ _).alloc (Nat.le_refl _) _
  obtain ⟨wa, hwa⟩ : ∃ wa, wa = w.alloc (.cells c.toArray 55 (0, 0)) := ⟨_, rfl⟩
  rw [← hwa] at r0 b0
  have g1 : ¬ (s.size : Int) < 16 := by omega
  obtain ⟨d, hd⟩ : ∃ d, d = s.size - 16 := ⟨_, rfl⟩
  rw [← hd] at ext exu hts
  have hwr : IntKind.i64.wrap ((s.size : Int) - 16) = (d : Int) := by rw [IntKind.wrap_i64]; omega
  have hsub : (s.size : Int) - 16 = (d : Int) := by omega
  have hd0 : ¬ (d : Int) < 0 := by omega
  have hd1 : ¬ (s.size : Int) < d := by omega
  have hd2 : d ≤ s.size := by omega
  clear hd
  go_enter Try.func24, Try.ntmps24
  go_wp2_with (first
    | refine wpList_load_row rfl 55 (.tmp 4) rfl w.heap.size rfl _ _ _ _ (hwa ▸ r0) Try.underlying55 rfl hic ?_)
  rw [← hwa]
  clear hwa
  refine (CF.out _).mono ?_
  rintro e w1 ⟨rfl, b1⟩
  have r1 := r0.below b1 r0.lt
  have hb1 := b0.trans (b1.mono b0.size)
  have q1 := r1.setRow Y
  have hb2 := below_row hb1 (Nat.le_refl _) Y.toArray
  clear b1 r0 b0 hb1
  go_wp2_with (first
    | (refine wpList_store_row rfl 55 (.tmp 4) (.tmp 16) rfl w.heap.size _ rfl rfl _ _ r1 hik (by rw [List.size_toArray, List.size_toArray, HCL.out, HKL.out]) HKA.out ?_; generalize w1.setRow w.heap.size Y.toArray = w2 at *; clear r1))
  simp only [Act.put]
  go_region
  have q2 := q1.drew
  have hb3 := hb2.drew
  clear q1 hb2 ext exu hwr hsub hd0 hd1
  generalize w2.drew = w3 at *
  go_wp2_with (first
    | refine wpList_load_row rfl 55 (.tmp 4) rfl w.heap.size rfl _ _ _ _ q2 Try.underlying55 rfl hik ?_)
  refine (CG.out _).mono ?_
  rintro e w4 ⟨rfl, b4⟩
  have r4 := q2.below b4 q2.lt
  have hb4 := hb3.trans (b4.mono hb3.size)
  clear b4 q2 hb3
  go_wp2_with fail
  refine (CM.out _).mono ?_
  rintro e w5 ⟨rfl, b5⟩
  have r5 := r4.below b5 r4.lt
  have hb5 := hb4.trans (b5.mono hb4.size)
  have hr := HEn.out _ _ r5
  clear b5 r4 hb4
  cases ok with
  | false =>
    go_wp2
    go_ret2
    exact ⟨by rw [HO.out, HE.out]; rfl, hb5⟩
  | true =>
    go_wp2_with (first
      | refine wpList_load_mid rfl 53 (.tmp 35) rfl w.heap.size 0 rfl _ _ hr Try.underlying53 rfl hie ?_)
    refine (CT.out _).mono ?_
    rintro e w6 ⟨rfl, b6⟩
    have hb6 := hb5.trans (b6.mono hb5.size)
    clear b6 r5 hb5 hr
    go_wp2
    go_ret2
    exact ⟨by rw [HO.out, HE.out]; rfl, hb6⟩

theorem open_any (c : List Value) (key : List UInt8) (hx : IsBox c key) (id n : Nat) (s : ByteArray) (h1 : id ≤ 18446744073709551615) (h2 : n ≤ 18446744073709551615) (hl : s.size ≤ 1000) (w : World) :
    Calls Try.prog 24 #[.agg c.toArray, .int .u64 (id : Int), .int .u64 (n : Int), .string s] w fun e w' => e = .returned (.tuple #[.string ⟨(Z7.openL key id n s.data.toList).toArray⟩, .int .i64 (Z7.openE key id n s.data.toList : Nat)]) ∧ Below w.heap.size w w' := by
  by_cases hs : 16 ≤ s.size
  · exact open_long c key hx id n s h1 h2 hs hl w
  · have hsl : s.data.toList.length < 16 := by rw [size_toL]; omega
    have e1 : Z7.openL key id n s.data.toList = [] := by unfold Z7.openL; rw [if_pos hsl]
    have e2 : Z7.openE key id n s.data.toList = 3 := by unfold Z7.openE; rw [if_pos hsl]
    rw [e1, e2]
    exact open_short c id n s (by omega) w

end Go.Proofs.Ytbkeodgiflfakaa

/-
  Layer 7: Nonce, Seq; the example.
-/
namespace Go.Proofs.Ytbkeodgiflfakaa
open Go.RowKit
set_option linter.unusedVariables false
set_option maxRecDepth 20000

theorem awake4x_any (w : World) : Calls Try.prog 59 #[] w fun e w' => e = .returned (.bool true) ∧ Below w.heap.size w w' := by
  go_enter Try.func59, Try.ntmps59
  go_wp2_with fail
  refine (awake4_any _).mono ?_
  rintro e w1 ⟨rfl, b1⟩
  go_wp2
  go_ret
  exact ⟨rfl, b1⟩
theorem awake6x_any (w : World) : Calls Try.prog 60 #[] w fun e w' => e = .returned (.bool true) ∧ Below w.heap.size w w' := by
  go_enter Try.func60, Try.ntmps60
  go_wp2_with fail
  refine (awake6_any _).mono ?_
  rintro e w1 ⟨rfl, b1⟩
  go_wp2
  go_ret
  exact ⟨rfl, b1⟩

set_option maxHeartbeats 2000000 in
theorem awake7_any (w : World) : Calls Try.prog 47 #[] w fun e w' => e = .returned (.bool true) ∧ Below w.heap.size w w' := by
  have CN : Hid (∀ wx, Calls Try.prog 19 #[.string ⟨#[107, 101, 121]⟩] wx fun e w' => e = .returned (.tuple #[.agg (keyBox [107, 101, 121]).toArray, .int .i64 0]) ∧ Below wx.heap.size wx w') := fun wx => sealNew_yes ⟨#[107, 101, 121]⟩ (by decide) (by decide) wx
  have CS : Hid (∀ wx, Calls Try.prog 21 #[.agg (keyBox [107, 101, 121]).toArray, .int .u64 1, .int .u64 2, .string ⟨#[104, 105]⟩] wx fun e w' => e = .returned (.string ⟨(Z7.sealL [107, 101, 121] 1 2 [104, 105]).toArray⟩) ∧ Below wx.heap.size wx w') := fun wx => seal_any _ [107, 101, 121] (.inl rfl) 1 2 ⟨#[104, 105]⟩ (by decide) (by decide) (by decide) wx
  have CO : Hid (∀ wx, Calls Try.prog 24 #[.agg (keyBox [107, 101, 121]).toArray, .int .u64 1, .int .u64 2, .string ⟨(Z7.sealL [107, 101, 121] 1 2 [104, 105]).toArray⟩] wx fun e w' => e = .returned (.tuple #[.string ⟨#[104, 105]⟩, .int .i64 0]) ∧ Below wx.heap.size wx w') := fun wx => by
    have := open_any _ [107, 101, 121] (.inl rfl) 1 2 ⟨(Z7.sealL [107, 101, 121] 1 2 [104, 105]).toArray⟩ (by decide) (by decide) (by rw [size_ofL, Z7.sealL_length]; decide) wx
    rw [show (⟨(Z7.sealL [107, 101, 121] 1 2 [104, 105]).toArray⟩ : ByteArray).data.toList = Z7.sealL [107, 101, 121] 1 2 [104, 105] from rfl, Z7.openL_seal, Z7.openE_seal] at this
    exact this
  have hs : (⟨(Z7.sealL [107, 101, 121] 1 2 [104, 105]).toArray⟩ : ByteArray).size = 18 := by rw [size_ofL, Z7.sealL_length]; rfl
  have hik := info17c (keyBox_length [107, 101, 121])
  have HKL := Lib.hid (keyBox_length [107, 101, 121])
  have HZL : Hid (zeroBox.length = 17) := zeroBox_length
  have HKA := Lib.hid (keyBox_all [107, 101, 121])
  generalize keyBox [107, 101, 121] = Y at *
  generalize (⟨(Z7.sealL [107, 101, 121] 1 2 [104, 105]).toArray⟩ : ByteArray) = T at *
  have HO : Hid (zeroBox.toArray.size = Y.toArray.size) := by show _ = _; rw [List.size_toArray, List.size_toArray, HZL.out, HKL.out]
  go_enter Try.func47, Try.ntmps47
  go_wp2_with fail
  refine (CN.out _).mono ?_
  rintro e w1 ⟨rfl, b1⟩
  have r1 : Row (w1.alloc (.cells Y.toArray 55 (0, 0))) w1.heap.size 55 Y := Row.new' rfl rfl
  have hb1 := b1.alloc b1.size (.cells Y.toArray 55 (0, 0))
  clear b1
  go_wp2_with (first
    | refine wpList_store_new rfl 55 (.tmp 1) (.tmp 8) rfl w1 zeroBox.toArray _ _ _ rfl rfl rfl hik HO.out HKA.out ?_
    | refine wpList_load_row rfl 55 (.tmp 1) rfl w1.heap.size rfl _ _ _ _ r1 Try.underlying55 rfl hik ?_)
  refine (CS.out _).mono ?_
  rintro e w2 ⟨rfl, b2⟩
  have r2 := r1.below b2 r1.lt
  have hb2 := hb1.trans (b2.mono hb1.size)
  clear b2 r1 hb1
  go_wp2_with (first
    | refine wpList_load_row rfl 55 (.tmp 1) rfl w1.heap.size rfl _ _ _ _ r2 Try.underlying55 rfl hik ?_)
  refine (CO.out _).mono ?_
  rintro e w3 ⟨rfl, b3⟩
  have hb3 := hb2.trans (b3.mono hb2.size)
  clear b3 r2 hb2
  go_wp2_with fail
  refine (awake4x_any _).mono ?_
  rintro e w4 ⟨rfl, b4⟩
  have hb4 := hb3.trans (b4.mono hb3.size)
  clear b4 hb3
  go_wp2_with fail
  refine (awake6x_any _).mono ?_
  rintro e w5 ⟨rfl, b5⟩
  have hb5 := hb4.trans (b5.mono hb4.size)
  clear b5 hb4
  go_wp2_with fail
  refine (size_any 0 (by decide) _).mono ?_
  rintro e w5 ⟨rfl, rfl⟩
  go_wp2
  go_ret
  exact ⟨rfl, hb5⟩

end Go.Proofs.Ytbkeodgiflfakaa

/-
  Layer 9: the example.
-/
namespace Go.Proofs.Ytbkeodgiflfakaa
open Go.RowKit
set_option linter.unusedVariables false
set_option maxRecDepth 20000

theorem awake1x_any (w : World) : Calls Try.prog 26 #[] w fun e w' => e = .returned (.bool true) ∧ Below w.heap.size w w' := by
  go_enter Try.func26, Try.ntmps26
  go_wp2_with fail
  refine (awake_any _).mono ?_
  rintro e w1 ⟨rfl, b1⟩
  go_wp2
  go_ret
  exact ⟨rfl, b1⟩
theorem awake7x_any (w : World) : Calls Try.prog 27 #[] w fun e w' => e = .returned (.bool true) ∧ Below w.heap.size w w' := by
  go_enter Try.func27, Try.ntmps27
  go_wp2_with fail
  refine (awake7_any _).mono ?_
  rintro e w1 ⟨rfl, b1⟩
  go_wp2
  go_ret
  exact ⟨rfl, b1⟩

theorem read_awake (w : World) : Calls Try.prog 15 #[.string ⟨(Lib.repeatL [0] 14).toArray⟩] w fun e w' => e = .returned (.tuple #[.agg #[.int .u16 0, .int .u16 0, .int .u64 0, .int .i64 0, .bool false, .string ⟨#[]⟩], .int .i64 0]) ∧ Below w.heap.size w w' := by
  have := read_long ⟨(Lib.repeatL [0] 14).toArray⟩ (by decide) (by decide) w
  have e1 : readC (⟨(Lib.repeatL [0] 14).toArray⟩ : ByteArray).data.toList = [.int .u16 0, .int .u16 0, .int .u64 0, .int .i64 0, .bool false, .string ⟨#[]⟩] := by kernel_rfl
  have e2 : pFaultE ((X9.fN (⟨(Lib.repeatL [0] 14).toArray⟩ : ByteArray).data.toList % 32768 : Nat) : Int) (X9.fT (⟨(Lib.repeatL [0] 14).toArray⟩ : ByteArray).data.toList).length = 0 := by decide
  rw [e1, e2] at this
  exact this

set_option maxHeartbeats 2000000 in
theorem awake9_any (w : World) : Calls Try.prog 7 #[] w fun e w' => e = .returned (.bool true) ∧ Below w.heap.size w w' := by
  have CR : Hid (∀ wx, Calls Try.prog 18 #[.string ⟨#[0]⟩, .int .i64 14] wx fun e w' => e = .returned (.string ⟨(Lib.repeatL [0] 14).toArray⟩) ∧ Below wx.heap.size wx w') := fun wx => Try.strings_Repeat ⟨#[0]⟩ 14 wx (by decide) (by decide)
  have CD : Hid (∀ wx, Calls Try.prog 15 #[.string ⟨(Lib.repeatL [0] 14).toArray⟩] wx fun e w' => e = .returned (.tuple #[.agg #[.int .u16 0, .int .u16 0, .int .u64 0, .int .i64 0, .bool false, .string ⟨#[]⟩], .int .i64 0]) ∧ Below wx.heap.size wx w') := fun wx => read_awake wx
  generalize (⟨(Lib.repeatL [0] 14).toArray⟩ : ByteArray) = T at *
  go_enter Try.func7, Try.ntmps7
  go_wp2_with fail
  refine (CR.out _).mono ?_
  rintro e w1 ⟨rfl, b1⟩
  go_wp2_with fail
  refine (CD.out _).mono ?_
  rintro e w2 ⟨rfl, b2⟩
  have hb2 := b1.trans (b2.mono b1.size)
  clear b1 b2
  have r2 : Row (w2.alloc (.cells #[.int .u16 0, .int .u16 0, .int .u64 0, .int .i64 0, .bool false, .string ⟨#[]⟩] 38 (0, 0))) w2.heap.size 38 [.int .u16 0, .int .u16 0, .int .u64 0, .int .i64 0, .bool false, .string ⟨#[]⟩] := Row.new' rfl rfl
  have hb3 := hb2.alloc hb2.size (.cells #[.int .u16 0, .int .u16 0, .int .u64 0, .int .i64 0, .bool false, .string ⟨#[]⟩] 38 (0, 0))
  clear hb2
  go_wp2_with fail
  refine (awake1x_any _).mono ?_
  rintro e w3 ⟨rfl, b3⟩
  have r3 := r2.below b3 r2.lt
  have hb4 := hb3.trans (b3.mono hb3.size)
  clear b3 r2 hb3
  go_wp2_with fail
  refine (awake7x_any _).mono ?_
  rintro e w4 ⟨rfl, b4⟩
  have r4 := r3.below b4 r3.lt
  have hb5 := hb4.trans (b4.mono hb4.size)
  clear b4 r3 hb4
  have c0 : w4.cell? ⟨w2.heap.size, 0, none⟩ = some (.int .u16 0) := r4.cell 0
  have c1 : w4.cell? ⟨w2.heap.size, 1, none⟩ = some (.int .u16 0) := r4.cell 1
  have c2 : w4.cell? ⟨w2.heap.size, 2, none⟩ = some (.int .u64 0) := r4.cell 2
  have c3 : w4.cell? ⟨w2.heap.size, 3, none⟩ = some (.int .i64 0) := r4.cell 3
  have c4 : w4.cell? ⟨w2.heap.size, 4, none⟩ = some (.bool false) := r4.cell 4
  have c5 : w4.cell? ⟨w2.heap.size, 5, none⟩ = some (.string ⟨#[]⟩) := r4.cell 5
  go_wp2_with fail
  refine (room_any _).mono ?_
  rintro e w5 ⟨rfl, rfl⟩
  go_wp2
  go_ret
  exact ⟨rfl, hb5⟩

end Go.Proofs.Ytbkeodgiflfakaa

/-
  Layer 7: Nonce, Seq.
-/
namespace Go.Proofs.Ytbkeodgiflfakaa
open Go.RowKit
set_option linter.unusedVariables false
set_option maxRecDepth 20000

theorem nonce_or (s : Nat) (h : s < 9223372036854775808) : bits .or .u64 (s : Int) 9223372036854775808 = ((s + 9223372036854775808 : Nat) : Int) := by
  have h1 := u64_or_nat s 9223372036854775808 (by omega) (by omega)
  rw [show (9223372036854775808 : Int) = ((9223372036854775808 : Nat) : Int) from rfl, h1]
  have h2 := Nat.two_pow_add_eq_or_of_lt (i := 63) (b := s) (by omega) 1
  rw [Nat.or_comm]
  rw [show 2 ^ 63 * 1 = 9223372036854775808 from rfl] at h2
  rw [← h2]
  omega
theorem nonce_not (x : Nat) (h : x < 18446744073709551616) : bits .andNot .u64 (x : Int) 9223372036854775808 = ((x % 9223372036854775808 : Nat) : Int) := by
  have h1 := u64_andNot_nat x 9223372036854775808 h (by omega)
  rw [show (9223372036854775808 : Int) = ((9223372036854775808 : Nat) : Int) from rfl, h1]
  rw [show 18446744073709551615 - 9223372036854775808 = 2 ^ 63 - 1 from rfl, Nat.and_two_pow_sub_one_eq_mod]
theorem and_top (x : Nat) (b : Bool) (h : x.testBit 63 = b) : x &&& 9223372036854775808 = if b then 9223372036854775808 else 0 := by
  rw [show (9223372036854775808 : Nat) = 2 ^ 63 from rfl]
  apply Nat.eq_of_testBit_eq
  intro i
  rw [Nat.testBit_and, Nat.testBit_two_pow]
  by_cases e : 63 = i
  · subst e
    rw [h]
    cases b with
    | true => rw [if_pos rfl, Nat.testBit_two_pow]; rfl
    | false => simp
  · cases b with
    | true => rw [if_pos rfl, Nat.testBit_two_pow]; simp [e]
    | false => simp [e]
theorem nonce_and_no (x : Nat) (h : x < 9223372036854775808) : bits .and .u64 (x : Int) 9223372036854775808 = 0 := by
  have h1 := u64_and_nat x 9223372036854775808 (by omega) (by omega)
  rw [show (9223372036854775808 : Int) = ((9223372036854775808 : Nat) : Int) from rfl, h1]
  rw [and_top x false (Nat.testBit_lt_two_pow (by omega))]
  rfl
theorem nonce_and_yes (s : Nat) (h : s < 9223372036854775808) : bits .and .u64 ((s + 9223372036854775808 : Nat) : Int) 9223372036854775808 = 9223372036854775808 := by
  have h1 := u64_and_nat (s + 9223372036854775808) 9223372036854775808 (by omega) (by omega)
  rw [show (9223372036854775808 : Int) = ((9223372036854775808 : Nat) : Int) from rfl, h1]
  have hb : (s + 9223372036854775808).testBit 63 = true := by
    rw [Nat.testBit_eq_decide_div_mod_eq]
    rw [show (2 : Nat) ^ 63 = 9223372036854775808 from rfl]
    simp; omega
  rw [and_top _ true hb]
  rfl

set_option maxHeartbeats 1000000 in
theorem nonce_spent (s : Nat) (d : Bool) (h : 9223372036854775808 ≤ s) (w : World) :
    Calls Try.prog 20 #[.int .u64 (s : Int), .bool d] w fun e w' => e = .returned (.tuple #[.int .u64 0, .int .i64 15]) ∧ w' = w := by
  have h1 : (9223372036854775807 : Int) < s := by omega
  go_enter Try.func20, Try.ntmps20
  go_wp2
  go_ret2
  exact ⟨rfl, rfl⟩
def nonceN (s : Nat) (d : Bool) : Nat := if d then s + 9223372036854775808 else s
set_option maxHeartbeats 1000000 in
theorem nonce_yes (s : Nat) (d : Bool) (h : s < 9223372036854775808) (w : World) :
    Calls Try.prog 20 #[.int .u64 (s : Int), .bool d] w fun e w' => e = .returned (.tuple #[.int .u64 (nonceN s d : Int), .int .i64 0]) ∧ w' = w := by
  have h1 : ¬ (9223372036854775807 : Int) < s := by omega
  have ho := nonce_or s h
  go_enter Try.func20, Try.ntmps20
  cases d with
  | true =>
    go_wp2
    go_ret2
    exact ⟨rfl, rfl⟩
  | false =>
    go_wp2
    go_ret2
    exact ⟨rfl, rfl⟩
set_option maxHeartbeats 1000000 in
theorem seq_of (s : Nat) (d : Bool) (h : s < 9223372036854775808) (w : World) :
    Calls Try.prog 25 #[.int .u64 (nonceN s d : Int)] w fun e w' => e = .returned (.tuple #[.int .u64 (s : Int), .bool d]) ∧ w' = w := by
  cases d with
  | true =>
    have h1 := nonce_not (s + 9223372036854775808) (by omega)
    rw [show (s + 9223372036854775808) % 9223372036854775808 = s from by omega] at h1
    have h2 := nonce_and_yes s h
    show Calls _ _ #[.int .u64 ((s + 9223372036854775808 : Nat) : Int)] _ _
    have hx : (s + 9223372036854775808 : Nat) < 18446744073709551616 := by omega
    generalize (s + 9223372036854775808 : Nat) = x at *
    go_enter Try.func25, Try.ntmps25
    go_wp2
    go_ret2
    exact ⟨rfl, rfl⟩
  | false =>
    have h1 := nonce_not s (by omega)
    rw [show s % 9223372036854775808 = s from by omega] at h1
    have h2 := nonce_and_no s h
    show Calls _ _ #[.int .u64 (s : Int)] _ _
    go_enter Try.func25, Try.ntmps25
    go_wp2
    go_ret2
    exact ⟨rfl, rfl⟩


end Go.Proofs.Ytbkeodgiflfakaa
