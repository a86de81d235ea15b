/-
  Layer 7: filled, New, Head, Size, Nonce, Seq.
-/
import Derived.Test.YtbkeodgiflfakaaZBox
import Derived.Test.YtbkeodgiflfakaaZHead
namespace Go.Proofs.Ytbkeodgiflfakaa
open Go.RowKit
set_option linter.unusedVariables false
set_option maxRecDepth 20000

def zeroBox : List Value := boxC (List.replicate 16 0) ⟨#[]⟩
def keyBox (key : List UInt8) : List Value := boxC (Z7.encK key) ⟨(Z7.macK key).toArray⟩
/-- A box of that key; the zero one is of one byte 0. -/
def IsBox (c : List Value) (key : List UInt8) : Prop := c = keyBox key ∨ (c = zeroBox ∧ key = [0])

theorem keyBox_length (key : List UInt8) : (keyBox key).length = 17 := boxC_length (Z7.encK_length key) _
theorem zeroBox_length : zeroBox.length = 17 := rfl
theorem info17c {c : List Value} (h : c.length = 17) : (Try.prog.info? 55).map (·.size) = some c.toArray.size := by rw [List.size_toArray, h]; exact infoBoxS
theorem IsBox.length {c : List Value} {key : List UInt8} (h : IsBox c key) : c.length = 17 := by
  rcases h with rfl | ⟨rfl, _⟩
  · exact keyBox_length _
  · rfl
theorem keyBox_all (key : List UInt8) : (keyBox key).toArray.all (·.oneCell') = true := boxC_all _ _
theorem zeroBox_all : zeroBox.toArray.all (·.oneCell') = true := boxC_all _ _
theorem boxC_mac {k : List UInt8} (hk : k.length = 16) (m : ByteArray) : (boxC k m)[16]? = some (.string m) := by
  unfold boxC; rw [List.getElem?_append_right (by rw [c8_len, hk]; exact Nat.le_refl _), c8_len, hk]; rfl
theorem keyBox_mac (key : List UInt8) : (keyBox key)[16]? = some (.string ⟨(Z7.macK key).toArray⟩) := boxC_mac (Z7.encK_length key) _

set_option maxHeartbeats 2000000 in
theorem filled_any (c : List Value) (key : List UInt8) (h : IsBox c key) (w : World) :
    Calls Try.prog 41 #[.agg c.toArray] w fun e w' => e = .returned (.agg (keyBox key).toArray) ∧ Below w.heap.size w w' := by
  have hl := h.length
  have hic := info17c hl
  have hik := info17c (keyBox_length key)
  have HKL := Lib.hid (keyBox_length key)
  have HZL : Hid (zeroBox.length = 17) := zeroBox_length
  have HKA := Lib.hid (keyBox_all key)
  have rc : Row ((w.alloc (.cells c.toArray 55 (0, 0))).alloc (.cells zeroBox.toArray 55 (0, 0))) w.heap.size 55 c := (Row.new' rfl rfl).alloc _
  have rz : Row ((w.alloc (.cells c.toArray 55 (0, 0))).alloc (.cells zeroBox.toArray 55 (0, 0))) (w.heap.size + 1) 55 zeroBox := Row.new' rfl (by simp)
  have b0 : Below w.heap.size w ((w.alloc (.cells c.toArray 55 (0, 0))).alloc (.cells zeroBox.toArray 55 (0, 0))) := ((Below.refl _ _).alloc (Nat.le_refl _) _).alloc (by simp) _
  rcases h with e | ⟨e, ek⟩
  · subst e
    have hy := keyBox_mac key
    have hm : (⟨(Z7.macK key).toArray⟩ : ByteArray).toList.isEmpty = false := by
      rw [ByteArray.toList_eq]
      show (Z7.macK key).isEmpty = false
      have h2 := Z7.macK_length key
      cases hq : Z7.macK key with
      | nil => rw [hq] at h2; cases h2
      | cons x y => rfl
    generalize (⟨(Z7.macK key).toArray⟩ : ByteArray) = m at *
    generalize keyBox key = Y at *
    clear hic hl
    go_enter Try.func41, Try.ntmps41
    go_wp2_with (first
      | refine wpList_load_row rfl 55 (.tmp 1) rfl w.heap.size rfl _ _ _ _ rc Try.underlying55 rfl hik ?_
      | refine wpList_store_row rfl 55 (.tmp 2) (.tmp 7) rfl (w.heap.size + 1) _ rfl rfl _ _ rz hik (by rw [List.size_toArray, List.size_toArray, HZL.out, HKL.out]) HKA.out ?_)
    exact bodyPost_ret (results_cell_row rfl _ _ (w.heap.size + 1) _ _ _ _ rfl (rz.setRow _) Try.underlying55 rfl hik) rfl ⟨rfl, below_row b0 (by omega) _⟩
  · subst e
    subst ek
    have CD : Hid (∀ wx, Calls Try.prog 40 #[.string ⟨#[0]⟩] wx fun e w' => e = .returned (.agg (keyBox [0]).toArray) ∧ Below wx.heap.size wx w') := fun wx => derived_any ⟨#[0]⟩ (by decide) wx
    generalize keyBox [0] = Y at *
    clear hic hl
    have hzm : zeroBox[16]? = some (.string ⟨#[]⟩) := rfl
    go_enter Try.func41, Try.ntmps41
    go_wp2_with fail
    refine (CD.out _).mono ?_
    rintro e w1 ⟨rfl, b1⟩
    have r1 := Row.below (l := zeroBox) (g := w.heap.size + 1) rz b1 rz.lt
    have hb1 : Below w.heap.size w w1 := b0.trans (b1.mono b0.size)
    clear b1 rz rc b0
    go_wp2_with (first
      | refine wpList_store_row rfl 55 (.tmp 2) (.tmp 6) rfl (w.heap.size + 1) _ rfl rfl _ _ r1 hik (by rw [List.size_toArray, List.size_toArray, HZL.out, HKL.out]) HKA.out ?_)
    exact bodyPost_ret (results_cell_row rfl _ _ (w.heap.size + 1) _ _ _ _ rfl (r1.setRow _) Try.underlying55 rfl hik) rfl ⟨rfl, below_row hb1 (by omega) _⟩

set_option maxHeartbeats 2000000 in
theorem sealNew_yes (key : ByteArray) (h1 : 1 ≤ key.size) (h2 : key.size ≤ 64) (w : World) :
    Calls Try.prog 19 #[.string key] w fun e w' => e = .returned (.tuple #[.agg (keyBox key.data.toList).toArray, .int .i64 0]) ∧ Below w.heap.size w w' := by
  have CD : Hid (∀ wx, Calls Try.prog 40 #[.string key] wx fun e w' => e = .returned (.agg (keyBox key.data.toList).toArray) ∧ Below wx.heap.size wx w') := fun wx => derived_any key (by omega) wx
  have g1 : ¬ (key.size : Int) < 1 := by omega
  have g2 : ¬ (64 : Int) < key.size := by omega
  have hik := info17c (keyBox_length key.data.toList)
  have HKL := Lib.hid (keyBox_length key.data.toList)
  have HZL : Hid (zeroBox.length = 17) := zeroBox_length
  have HKA := Lib.hid (keyBox_all key.data.toList)
  generalize keyBox key.data.toList = Y at *
  have rz : Row (w.alloc (.cells zeroBox.toArray 55 (0, 0))) w.heap.size 55 zeroBox := Row.new' rfl rfl
  have b0 : Below w.heap.size w (w.alloc (.cells zeroBox.toArray 55 (0, 0))) := (Below.refl _ _).alloc (Nat.le_refl _) _
  go_enter Try.func19, Try.ntmps19
  go_wp2_with fail
  refine (CD.out _).mono ?_
  rintro e w1 ⟨rfl, b1⟩
  have r1 := Row.below (l := zeroBox) (g := w.heap.size) rz b1 rz.lt
  have hb1 : Below w.heap.size w w1 := b0.trans (b1.mono b0.size)
  clear b1 rz b0
  go_wp2_with (first
    | refine wpList_store_row rfl 55 (.tmp 2) (.tmp 14) rfl w.heap.size _ rfl rfl _ _ r1 hik (by rw [List.size_toArray, List.size_toArray, HZL.out, HKL.out]) HKA.out ?_)
  exact bodyPost_ret (results_row_tmp rfl _ _ w.heap.size 55 Y _ rfl (r1.setRow _) Try.underlying55 rfl hik) rfl ⟨rfl, below_row hb1 (Nat.le_refl _) _⟩

set_option maxHeartbeats 2000000 in
theorem sealNew_no (key : ByteArray) (h : key.size < 1 ∨ 64 < key.size) (w : World) :
    Calls Try.prog 19 #[.string key] w fun e w' => e = .returned (.tuple #[.agg zeroBox.toArray, .int .i64 2]) ∧ Below w.heap.size w w' := by
  have hik := info17c zeroBox_length
  have rz : Row (w.alloc (.cells zeroBox.toArray 55 (0, 0))) w.heap.size 55 zeroBox := Row.new' rfl rfl
  have b0 : Below w.heap.size w (w.alloc (.cells zeroBox.toArray 55 (0, 0))) := (Below.refl _ _).alloc (Nat.le_refl _) _
  go_enter Try.func19, Try.ntmps19
  rcases h with h | h
  · have g1 : (key.size : Int) < 1 := by omega
    go_wp2_with fail
    exact bodyPost_ret (results_row_tmp rfl _ _ w.heap.size 55 zeroBox _ rfl rz Try.underlying55 rfl hik) rfl ⟨rfl, b0⟩
  · have g1 : ¬ (key.size : Int) < 1 := by omega
    have g2 : (64 : Int) < key.size := by omega
    go_wp2_with fail
    exact bodyPost_ret (results_row_tmp rfl _ _ w.heap.size 55 zeroBox _ rfl rz Try.underlying55 rfl hik) rfl ⟨rfl, b0⟩

end Go.Proofs.Ytbkeodgiflfakaa
