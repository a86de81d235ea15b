/-
  Layer 7: a box's keys: derived, filled, New.
-/
import Derived.Test.YtbkeodgiflfakaaZPlain
import Derived.Test.YtbkeodgiflfakaaHDerive
import Derived.Test.YtbkeodgiflfakaaHSame
import Derived.Test.YtbkeodgiflfakaaHAwake
import Derived.Test.YtbkeodgiflfakaaCAwake
import Derived.Great.BuildSlice
namespace Go.Proofs.Ytbkeodgiflfakaa
open Go.RowKit
set_option linter.unusedVariables false
set_option maxRecDepth 20000

/-- A box's cells. -/
def boxC (k : List UInt8) (m : ByteArray) : List Value := W.cellsOf k ++ [.string m]
theorem boxC_length {k : List UInt8} (hk : k.length = 16) (m : ByteArray) : (boxC k m).length = 17 := by simp [boxC, c8_len, hk]
theorem boxC_all (k : List UInt8) (m : ByteArray) : (boxC k m).toArray.all (·.oneCell') = true := by simp [boxC, W.cellsOf, Value.oneCell']
theorem infoBoxS : (Try.prog.info? 55).map (·.size) = some 17 := by kernel_rfl
theorem info17 {k : List UInt8} (hk : k.length = 16) (m : ByteArray) : (Try.prog.info? 55).map (·.size) = some (boxC k m).toArray.size := by
  rw [List.size_toArray, boxC_length hk]; exact infoBoxS
theorem list16 {α : Type} {l : List α} (h : l.length = 16) : ∃ a0 a1 a2 a3 a4 a5 a6 a7 a8 a9 a10 a11 a12 a13 a14 a15, l = [a0, a1, a2, a3, a4, a5, a6, a7, a8, a9, a10, a11, a12, a13, a14, a15] := by
  match l, h with
  | [a0, a1, a2, a3, a4, a5, a6, a7, a8, a9, a10, a11, a12, a13, a14, a15], _ => exact ⟨_, _, _, _, _, _, _, _, _, _, _, _, _, _, _, _, rfl⟩
theorem builtBox {k : List UInt8} (hk : k.length = 16) (m : ByteArray) : Try.prog.built 55 [(0, .agg (W.cellsOf k).toArray), (1, .string m)] = some (boxC k m).toArray := by
  obtain ⟨a0, a1, a2, a3, a4, a5, a6, a7, a8, a9, a10, a11, a12, a13, a14, a15, rfl⟩ := list16 hk
  kernel_rfl
theorem bytes_of {x : ByteArray} {l : List UInt8} (h : x.data.toList = l) : x = ⟨l.toArray⟩ := by
  subst h; cases x; simp

set_option maxHeartbeats 2000000 in
theorem derived_any (key : ByteArray) (hk : key.size ≤ 100) (w : World) :
    Calls Try.prog 40 #[.string key] w fun e w' => e = .returned (.agg (boxC (Z7.encK key.data.toList) ⟨(Z7.macK key.data.toList).toArray⟩).toArray) ∧ Below w.heap.size w w' := by
  have C1 : Hid (∀ wx, Calls Try.prog 54 #[.string key, .string ⟨#[101, 110, 99]⟩, .int .i64 16] wx fun e w' => ∃ x : ByteArray, e = .returned (.tuple #[.string x, .int .i64 0]) ∧ x.data.toList = Z7.encK key.data.toList ∧ Below wx.heap.size wx w') := fun wx => derive_mid key ⟨#[101, 110, 99]⟩ 16 (by decide) (by omega) (by decide) wx
  have C2 : Hid (∀ wx, Calls Try.prog 54 #[.string key, .string ⟨#[109, 97, 99]⟩, .int .i64 32] wx fun e w' => ∃ x : ByteArray, e = .returned (.tuple #[.string x, .int .i64 0]) ∧ x.data.toList = Z7.macK key.data.toList ∧ Below wx.heap.size wx w') := fun wx => derive_mid key ⟨#[109, 97, 99]⟩ 32 (by decide) (by omega) (by decide) wx
  have HE := Lib.hid (Z7.encK_length key.data.toList)
  generalize Z7.encK key.data.toList = K at *
  generalize Z7.macK key.data.toList = M at *
  have hik := info16k HE.out
  have hib := info17 HE.out ⟨M.toArray⟩
  have r0 : Row (w.alloc (.cells (boxC (List.replicate 16 0) ⟨#[]⟩).toArray 55 (0, 0))) w.heap.size 55 (boxC (List.replicate 16 0) ⟨#[]⟩) := Row.new' rfl rfl
  have b0 : Below w.heap.size w (w.alloc (.cells (boxC (List.replicate 16 0) ⟨#[]⟩).toArray 55 (0, 0))) := (Below.refl _ _).alloc (Nat.le_refl _) _
  obtain ⟨w0, hw0⟩ : ∃ w0, w0 = w.alloc (.cells (boxC (List.replicate 16 0) ⟨#[]⟩).toArray 55 (0, 0)) := ⟨_, rfl⟩
  rw [← hw0] at r0 b0
  go_enter Try.func40, Try.ntmps40
  go_wp2_with fail
  show Calls _ _ _ (w.alloc (.cells (boxC (List.replicate 16 0) ⟨#[]⟩).toArray 55 (0, 0))) _
  rw [← hw0]
  clear hw0
  refine (C1.out _).mono ?_
  rintro e w1 ⟨x, rfl, hx, b1⟩
  have r1 := r0.below b1 r0.lt
  have hb1 := b0.trans (b1.mono b0.size)
  clear b1 r0 b0
  go_wp2_with fail
  refine (C2.out _).mono ?_
  rintro e w2 ⟨y, rfl, hy, b2⟩
  have r2 := r1.below b2 r1.lt
  have hb2 := hb1.trans (b2.mono hb1.size)
  clear b2 r1 hb1
  have hxs : x.size = 16 := by have := HE.out; rw [← hx] at this; simpa using this
  have C3 := Lib.hid (new_yes x hxs w2)
  rw [hx] at C3
  have ey := bytes_of hy
  clear hx hxs hy C1 C2
  subst ey
  go_wp2_with fail
  refine C3.out.mono ?_
  rintro e w3 ⟨rfl, b3⟩
  have r3 := r2.below b3 r2.lt
  have hb3 := hb2.trans (b3.mono hb2.size)
  have rk : Row (w3.alloc (.cells (W.cellsOf K).toArray 53 (0, 0))) w3.heap.size 53 (W.cellsOf K) := Row.new' rfl rfl
  have r4 := r3.alloc (.cells (W.cellsOf K).toArray 53 (0, 0))
  have hb4 := hb3.alloc hb3.size (.cells (W.cellsOf K).toArray 53 (0, 0))
  have HZ : Hid ((W.cellsOf (List.replicate 16 0)).toArray.size = (W.cellsOf K).toArray.size) := by show _ = _; rw [List.size_toArray, List.size_toArray, c8_len, c8_len, HE.out]; rfl
  clear b3 r2 hb2 C3 r3 hb3
  go_wp2_with (first
    | refine wpList_store_new rfl 53 (.tmp 7) (.tmp 22) rfl w3 _ _ _ _ rfl rfl rfl hik HZ.out (c8_all _) ?_
    | refine wpList_load_row rfl 53 (.tmp 7) rfl w3.heap.size rfl _ _ _ _ rk Try.underlying53 rfl hik ?_
    | refine wpList_buildTo rfl 55 #[(0, .tmp 24), (1, .tmp 25)] rfl (some 26) rfl (boxC K ⟨M.toArray⟩).toArray ((show Try.prog.built 55 _ = Try.prog.built 55 [(0, .agg (W.cellsOf K).toArray), (1, .string ⟨M.toArray⟩)] by kernel_rfl).trans (builtBox HE.out _)) ?_
    | refine wpList_store_row rfl 55 (.tmp 2) (.tmp 26) rfl w.heap.size _ rfl rfl _ _ r4 hib (by rw [List.size_toArray, List.size_toArray, boxC_length HE.out, boxC_length rfl]) (boxC_all _ _) ?_)
  exact bodyPost_ret (results_cell_row rfl _ _ w.heap.size _ _ _ _ rfl (r4.setRow _) Try.underlying55 rfl hib) rfl ⟨rfl, below_row hb4 (Nat.le_refl _) _⟩

end Go.Proofs.Ytbkeodgiflfakaa
