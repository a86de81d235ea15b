/-
  Layer 11: the chapter's example.
-/
import Derived.Test.YtekpbfbipkjibaaNNew
namespace Go.Proofs.Ytekpbfbipkjibaa
open Go.RowKit
set_option linter.unusedVariables false
set_option maxRecDepth 20000

set_option maxHeartbeats 4000000 in
theorem awake11_any (w : World) : Calls Try.prog 9 #[] w fun e w' => e = .returned (.bool true) ∧ Below w.heap.size w w' := by
  have C0 : Hid (∀ wx, Calls Try.prog 10 #[.int .i64 3, .int .i64 2] wx fun e w' => e = .returned (.tuple #[.agg #[.int .i64 3, .int .i64 2, .int .i64 0, .int .i64 0, .string ⟨#[32, 32, 32, 32, 32, 32]⟩], .int .i64 0]) ∧ Below wx.heap.size wx w') := fun wx => scrNew_yes 3 2 (by decide) (by decide) (by decide) (by decide) wx
  have C1 : Hid (∀ wx, Calls Try.prog 12 #[.agg #[.int .i64 3, .int .i64 2, .int .i64 0, .int .i64 0, .string ⟨#[32, 32, 32, 32, 32, 32]⟩], .string ⟨#[97, 98, 99, 100]⟩] wx fun e w' => e = .returned (.agg #[.int .i64 3, .int .i64 2, .int .i64 1, .int .i64 1, .string ⟨#[97, 98, 99, 100, 32, 32]⟩]) ∧ Below wx.heap.size wx w') := fun wx =>
    put_any 3 2 (N11.new 3 2) ⟨#[97, 98, 99, 100]⟩ wx (by decide) (by decide) (N11.new_ok (by decide) (by decide)) (by decide)
  have C2 : Hid (∀ wx, Calls Try.prog 20 #[.agg #[.int .i64 3, .int .i64 2, .int .i64 1, .int .i64 1, .string ⟨#[97, 98, 99, 100, 32, 32]⟩]] wx fun e w' => e = .returned (.tuple #[.int .i64 1, .int .i64 1]) ∧ Below wx.heap.size wx w') := fun wx => cursor_any _ _ _ _ _ wx
  have C3 : Hid (∀ wx, Calls Try.prog 21 #[.agg #[.int .i64 3, .int .i64 2, .int .i64 1, .int .i64 1, .string ⟨#[97, 98, 99, 100, 32, 32]⟩]] wx fun e w' => e = .returned (.string ⟨#[97, 98, 99, 100, 32, 32]⟩) ∧ Below wx.heap.size wx w') := fun wx => cells_any _ _ _ _ _ (by decide) wx
  go_enter Try.func9, Try.ntmps9
  go_wp2_with fail
  refine (C0.out _).mono ?_
  rintro e w1 ⟨rfl, b1⟩
  have r1 : Row (w1.alloc (.cells #[.int .i64 3, .int .i64 2, .int .i64 0, .int .i64 0, .string ⟨#[32, 32, 32, 32, 32, 32]⟩] 25 (0, 0))) w1.heap.size 25 [.int .i64 3, .int .i64 2, .int .i64 0, .int .i64 0, .string ⟨#[32, 32, 32, 32, 32, 32]⟩] := Row.new' rfl rfl
  have bb1 := b1.alloc b1.size (.cells #[.int .i64 3, .int .i64 2, .int .i64 0, .int .i64 0, .string ⟨#[32, 32, 32, 32, 32, 32]⟩] 25 (0, 0))
  go_wp2_with fail
  refine (C1.out _).mono ?_
  rintro e w2 ⟨rfl, b2⟩
  have r2 := r1.below b2 (by simp)
  have bb2 := bb1.trans (b2.mono (by have := b1.size; simp; omega))
  have r3 := r2.setRow [.int .i64 3, .int .i64 2, .int .i64 1, .int .i64 1, .string ⟨#[97, 98, 99, 100, 32, 32]⟩]
  have bb3 := below_row bb2 b1.size (List.toArray [.int .i64 3, .int .i64 2, .int .i64 1, .int .i64 1, .string ⟨#[97, 98, 99, 100, 32, 32]⟩])
  have hs1 := b1.size
  generalize w1.heap.size = g at *
  clear r1 bb1 b2 bb2 b1
  go_wp2_with (first | refine wpList_store_row rfl 25 (.tmp 1) (.tmp 10) rfl g _ rfl rfl _ _ r2 infoScr rfl (by simp [Value.oneCell']) ?_ | refine wpList_load_row rfl 25 (.tmp 1) rfl g rfl _ _ _ _ r3 Try.underlying25 rfl infoScr ?_)
  generalize w2.setRow g (List.toArray [.int .i64 3, .int .i64 2, .int .i64 1, .int .i64 1, .string ⟨#[97, 98, 99, 100, 32, 32]⟩]) = w3 at *
  refine (C2.out _).mono ?_
  rintro e w4 ⟨rfl, b4⟩
  have r4 := r3.below b4 r3.lt
  have bb4 := bb3.trans (b4.mono bb3.size)
  clear r2 r3 bb3 b4
  go_wp2_with (first | refine wpList_rowG (by rfl) 25 (.tmp 1) rfl g rfl _ _ _ r4 Try.underlying25 rfl infoScr ?_)
  refine (C3.out _).mono ?_
  rintro e w5 ⟨rfl, b5⟩
  have bb5 := bb4.trans (b5.mono bb4.size)
  clear r4 bb4 b5
  go_wp2
  go_ret
  exact ⟨rfl, bb5⟩

end Go.Proofs.Ytekpbfbipkjibaa
