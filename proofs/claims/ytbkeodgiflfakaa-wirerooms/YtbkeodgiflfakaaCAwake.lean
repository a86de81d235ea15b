/-
  Layer 6's example: awake.
-/
import Derived.Test.YtbkeodgiflfakaaCTurn
import Derived.Test.YtbkeodgiflfakaaAAwake
import Derived.Test.YtbkeodgiflfakaaAwake
import Derived.Test.YtbkeodgiflfakaaShelf
namespace Go.Proofs.Ytbkeodgiflfakaa
open Go.RowKit
set_option linter.unusedVariables false
set_option maxRecDepth 20000

/-- A whole row, read by an operation that is guarded, and wanted. -/
theorem wpList_load_g {P : Program} {ops : Array Oper} {rest : List Oper} {o : Oper} {a : Act} {w : World} {Q : Exit → Act → World → Prop} (hw : Region.wanted o (yielded ops a.tmps) = true) (ty : TypeId) (x : Operand) (ho : o.op = .load ty x)
    (g : Nat) (hx : a.eval x = .pointer (some ⟨g, 0, none⟩)) (t : TypeId) (l : List Value) (d : TypeDesc) (hg : Row w g t l)
    (hu : P.underlying ty = some d) (hd : (match d with | .struct _ | .array _ _ => true | _ => false) = true) (hi : (P.info? ty).map (·.size) = some l.toArray.size)
    (h : wpList P ops Q rest (a.put o.dst (.agg l.toArray)) w) : wpList P ops Q (o :: rest) a w := by
  unfold wpList
  rw [if_pos hw]
  exact Or.inl (wp_load_row ty x ho g hx t _ _ d hg hu hd hi h)

theorem awake1_any (w : World) : Calls Try.prog 26 #[] w fun e w' => e = .returned (.bool true) ∧ Below w.heap.size w w' := by
  go_enter Try.func26, Try.ntmps26
  go_wp2_with fail
  refine (awake_any _).mono ?_
  rintro e w1 ⟨rfl, b1⟩
  go_wp2
  go_ret
  exact ⟨rfl, b1⟩
theorem awake5x_any (w : World) : Calls Try.prog 84 #[] w fun e w' => e = .returned (.bool true) ∧ Below w.heap.size w w' := by
  go_enter Try.func84, Try.ntmps84
  go_wp2_with fail
  refine (awake5_any _).mono ?_
  rintro e w1 ⟨rfl, b1⟩
  go_wp2
  go_ret
  exact ⟨rfl, b1⟩

def kKey : List UInt8 := List.replicate 16 107

set_option maxHeartbeats 2000000 in
theorem awake6_any (w : World) : Calls Try.prog 70 #[] w fun e w' => e = .returned (.bool true) ∧ Below w.heap.size w w' := by
  have CR : Hid (∀ wx, Calls Try.prog 18 #[.string ⟨#[107]⟩, .int .i64 16] wx fun e w' => e = .returned (.string ⟨kKey.toArray⟩) ∧ Below wx.heap.size wx w') := fun wx => Try.strings_Repeat ⟨#[107]⟩ 16 wx (by decide) (by decide)
  have CN : Hid (∀ wx, Calls Try.prog 55 #[.string ⟨kKey.toArray⟩] wx fun e w' => e = .returned (.tuple #[.agg (W.cellsOf kKey).toArray, .int .i64 0]) ∧ Below wx.heap.size wx w') := fun wx => new_yes ⟨kKey.toArray⟩ rfl wx
  have CS : Hid (∀ wx, Calls Try.prog 83 #[.agg (W.cellsOf kKey).toArray, .int .u64 1, .int .i64 3] wx fun e w' => e = .returned (.tuple #[.string ⟨(C.streamL kKey 1 3).toArray⟩, .int .i64 0]) ∧ Below wx.heap.size wx w') := fun wx => stream_yes kKey 1 3 rfl (by decide) (by decide) wx
  have CT0 : Hid (∀ wx, Calls Try.prog 42 #[.agg (W.cellsOf kKey).toArray, .int .u64 1, .string ⟨#[]⟩] wx fun e w' => e = .returned (.string ⟨#[]⟩) ∧ Below wx.heap.size wx w') := fun wx => turn_any kKey 1 ⟨#[]⟩ rfl (by decide) (by decide) wx
  have CT3 : Hid (∀ wx, Calls Try.prog 42 #[.agg (W.cellsOf kKey).toArray, .int .u64 1, .string ⟨#[0, 0, 0]⟩] wx fun e w' => e = .returned (.string ⟨(C.streamL kKey 1 3).toArray⟩) ∧ Below wx.heap.size wx w') := fun wx => by
    have := turn_any kKey 1 ⟨#[0, 0, 0]⟩ rfl (by decide) (by decide) wx
    rw [show (⟨#[0, 0, 0]⟩ : ByteArray).data.toList = List.replicate 3 0 from rfl, C.turnL_zero] at this
    exact this
  have hsl : (⟨(C.streamL kKey 1 3).toArray⟩ : ByteArray).size = 3 := by
    have := C.streamL_length kKey 1 3
    simp [ByteArray.size, this]
  have hik : (Try.prog.info? 53).map (·.size) = some (W.cellsOf kKey).toArray.size := info16k rfl
  have HZ : Hid ((W.cellsOf (List.replicate 16 0)).toArray.size = (W.cellsOf kKey).toArray.size) := rfl
  generalize (⟨(C.streamL kKey 1 3).toArray⟩ : ByteArray) = X at *
  generalize (⟨kKey.toArray⟩ : ByteArray) = KS at *
  generalize kKey = k at *
  go_enter Try.func70, Try.ntmps70
  go_wp2_with fail
  refine (CR.out _).mono ?_
  rintro e w1 ⟨rfl, b1⟩
  go_wp2_with fail
  refine (CN.out _).mono ?_
  rintro e w2 ⟨rfl, b2⟩
  have hb2 := b1.trans (b2.mono b1.size)
  have hz2 := hb2.size
  have r2 : Row (w2.alloc (.cells (W.cellsOf k).toArray 53 (0, 0))) w2.heap.size 53 (W.cellsOf k) := Row.new' rfl rfl
  clear b1 b2
  go_wp2_with (first | refine wpList_store_new rfl 53 (.tmp 1) (.tmp 8) rfl w2 _ _ _ _ rfl rfl rfl hik HZ.out (c8_all _) ?_ | refine wpList_load_row rfl 53 (.tmp 1) rfl w2.heap.size rfl _ _ _ _ r2 Try.underlying53 rfl hik ?_)
  refine (CS.out _).mono ?_
  rintro e w3 ⟨rfl, b3⟩
  have r3 := Row.below r2 b3 (by simp)
  have hb3 : Below w.heap.size w w3 := (hb2.alloc hz2 _).trans (b3.mono (by simp; omega))
  clear b3 r2 hb2
  go_wp2_with fail
  refine (awake1_any _).mono ?_
  rintro e w4 ⟨rfl, b4⟩
  have r4 := Row.below r3 b4 r3.lt
  have hb4 := hb3.trans (b4.mono hb3.size)
  clear b4 r3 hb3
  go_wp2_with fail
  refine (awake5x_any _).mono ?_
  rintro e w5 ⟨rfl, b5⟩
  have r5 := Row.below r4 b5 r4.lt
  have hb5 := hb4.trans (b5.mono hb4.size)
  clear b5 r4 hb4
  go_wp2_with (first | refine wpList_load_g rfl 53 (.tmp 1) rfl w2.heap.size rfl _ _ _ r5 Try.underlying53 rfl hik ?_)
  refine (CT0.out _).mono ?_
  rintro e w6 ⟨rfl, b6⟩
  have r6 := Row.below r5 b6 r5.lt
  have hb6 := hb5.trans (b6.mono hb5.size)
  clear b6 r5 hb5
  go_wp2_with (first | refine wpList_load_g rfl 53 (.tmp 1) rfl w2.heap.size rfl _ _ _ r6 Try.underlying53 rfl hik ?_)
  refine (CT3.out _).mono ?_
  rintro e w7 ⟨rfl, b7⟩
  have hb7 := hb6.trans (b7.mono hb6.size)
  clear b7 r6 hb6
  go_wp2
  go_ret
  exact ⟨rfl, hb7⟩

end Go.Proofs.Ytbkeodgiflfakaa
