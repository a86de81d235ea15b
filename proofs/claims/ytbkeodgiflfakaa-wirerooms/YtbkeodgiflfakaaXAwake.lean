/-
  Layer 9: the example.
-/
import Derived.Test.YtbkeodgiflfakaaXRead
import Derived.Test.YtbkeodgiflfakaaZAwake
namespace Go.Proofs.Ytbkeodgiflfakaa
open Go.RowKit
set_option linter.unusedVariables false
set_option maxRecDepth 20000

theorem awake1x_any (w : World) : Calls Try.prog 26 #[] w fun e w' => e = .returned (.bool true) ∧ Below w.heap.size w w' := by
  go_enter Try.func26, Try.ntmps26
  go_wp2_with fail
  refine (awake_any _).mono ?_
  rintro e w1 ⟨rfl, b1⟩
  go_wp2
  go_ret
  exact ⟨rfl, b1⟩
theorem awake7x_any (w : World) : Calls Try.prog 27 #[] w fun e w' => e = .returned (.bool true) ∧ Below w.heap.size w w' := by
  go_enter Try.func27, Try.ntmps27
  go_wp2_with fail
  refine (awake7_any _).mono ?_
  rintro e w1 ⟨rfl, b1⟩
  go_wp2
  go_ret
  exact ⟨rfl, b1⟩

theorem read_awake (w : World) : Calls Try.prog 15 #[.string ⟨(Lib.repeatL [0] 14).toArray⟩] w fun e w' => e = .returned (.tuple #[.agg #[.int .u16 0, .int .u16 0, .int .u64 0, .int .i64 0, .bool false, .string ⟨#[]⟩], .int .i64 0]) ∧ Below w.heap.size w w' := by
  have := read_long ⟨(Lib.repeatL [0] 14).toArray⟩ (by decide) (by decide) w
  have e1 : readC (⟨(Lib.repeatL [0] 14).toArray⟩ : ByteArray).data.toList = [.int .u16 0, .int .u16 0, .int .u64 0, .int .i64 0, .bool false, .string ⟨#[]⟩] := by kernel_rfl
  have e2 : pFaultE ((X9.fN (⟨(Lib.repeatL [0] 14).toArray⟩ : ByteArray).data.toList % 32768 : Nat) : Int) (X9.fT (⟨(Lib.repeatL [0] 14).toArray⟩ : ByteArray).data.toList).length = 0 := by decide
  rw [e1, e2] at this
  exact this

set_option maxHeartbeats 2000000 in
theorem awake9_any (w : World) : Calls Try.prog 7 #[] w fun e w' => e = .returned (.bool true) ∧ Below w.heap.size w w' := by
  have CR : Hid (∀ wx, Calls Try.prog 18 #[.string ⟨#[0]⟩, .int .i64 14] wx fun e w' => e = .returned (.string ⟨(Lib.repeatL [0] 14).toArray⟩) ∧ Below wx.heap.size wx w') := fun wx => Try.strings_Repeat ⟨#[0]⟩ 14 wx (by decide) (by decide)
  have CD : Hid (∀ wx, Calls Try.prog 15 #[.string ⟨(Lib.repeatL [0] 14).toArray⟩] wx fun e w' => e = .returned (.tuple #[.agg #[.int .u16 0, .int .u16 0, .int .u64 0, .int .i64 0, .bool false, .string ⟨#[]⟩], .int .i64 0]) ∧ Below wx.heap.size wx w') := fun wx => read_awake wx
  generalize (⟨(Lib.repeatL [0] 14).toArray⟩ : ByteArray) = T at *
  go_enter Try.func7, Try.ntmps7
  go_wp2_with fail
  refine (CR.out _).mono ?_
  rintro e w1 ⟨rfl, b1⟩
  go_wp2_with fail
  refine (CD.out _).mono ?_
  rintro e w2 ⟨rfl, b2⟩
  have hb2 := b1.trans (b2.mono b1.size)
  clear b1 b2
  have r2 : Row (w2.alloc (.cells #[.int .u16 0, .int .u16 0, .int .u64 0, .int .i64 0, .bool false, .string ⟨#[]⟩] 38 (0, 0))) w2.heap.size 38 [.int .u16 0, .int .u16 0, .int .u64 0, .int .i64 0, .bool false, .string ⟨#[]⟩] := Row.new' rfl rfl
  have hb3 := hb2.alloc hb2.size (.cells #[.int .u16 0, .int .u16 0, .int .u64 0, .int .i64 0, .bool false, .string ⟨#[]⟩] 38 (0, 0))
  clear hb2
  go_wp2_with fail
  refine (awake1x_any _).mono ?_
  rintro e w3 ⟨rfl, b3⟩
  have r3 := r2.below b3 r2.lt
  have hb4 := hb3.trans (b3.mono hb3.size)
  clear b3 r2 hb3
  go_wp2_with fail
  refine (awake7x_any _).mono ?_
  rintro e w4 ⟨rfl, b4⟩
  have r4 := r3.below b4 r3.lt
  have hb5 := hb4.trans (b4.mono hb4.size)
  clear b4 r3 hb4
  have c0 : w4.cell? ⟨w2.heap.size, 0, none⟩ = some (.int .u16 0) := r4.cell 0
  have c1 : w4.cell? ⟨w2.heap.size, 1, none⟩ = some (.int .u16 0) := r4.cell 1
  have c2 : w4.cell? ⟨w2.heap.size, 2, none⟩ = some (.int .u64 0) := r4.cell 2
  have c3 : w4.cell? ⟨w2.heap.size, 3, none⟩ = some (.int .i64 0) := r4.cell 3
  have c4 : w4.cell? ⟨w2.heap.size, 4, none⟩ = some (.bool false) := r4.cell 4
  have c5 : w4.cell? ⟨w2.heap.size, 5, none⟩ = some (.string ⟨#[]⟩) := r4.cell 5
  go_wp2_with fail
  refine (room_any _).mono ?_
  rintro e w5 ⟨rfl, rfl⟩
  go_wp2
  go_ret
  exact ⟨rfl, hb5⟩

end Go.Proofs.Ytbkeodgiflfakaa
