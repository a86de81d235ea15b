/-
  Layer 2: what the shortest digits of 0.5 come to.
-/
import Derived.Test.YtdcpacdfbbdnlaaDoorRKind
import Derived.Test.YtdcpacdfbbdnlaaDoorShelf
namespace Go.Proofs.YtdcpacdfbbdnlaaDoor
open Go.RowKit
set_option linter.unusedVariables false
set_option maxRecDepth 20000
set_option linter.unusedSimpArgs false

/-- The table's place for 10^17. -/
def Tab (w : World) : Prop := w.cell? ⟨3, 730, none⟩ = some (.int .u64 12800000000000000000) ∧ w.cell? ⟨3, 731, none⟩ = some (.int .u64 0)

theorem prescale_half (w : World) (ht : Tab w) :
    Calls Tryd.prog 70 #[.pointer (some ⟨w.heap.size, 0, none⟩), .int .i64 (-64), .int .i64 17, .int .i64 56] (w.alloc (.cells #[.int .u64 0, .int .u64 0, .int .i64 0] 96)) fun e w' =>
      e = .returned (.tuple #[]) ∧ w' = w.alloc (.cells #[.int .u64 12800000000000000000, .int .u64 0, .int .i64 5] 96) := by
  obtain ⟨t0, t1⟩ := ht
  have hs : 3 < w.heap.size := World.block_lt_of_cell? _ _ t0
  have t0' : ∀ o, (w.alloc o).cell? ⟨3, 730, none⟩ = some (.int .u64 12800000000000000000) := fun o => by rw [← t0, World.cell?_alloc_past _ _ _ hs]
  have t1' : ∀ o, (w.alloc o).cell? ⟨3, 731, none⟩ = some (.int .u64 0) := fun o => by rw [← t1, World.cell?_alloc_past _ _ _ hs]
  go_enter Tryd.func70, Tryd.ntmps70
  go_wp2
  go_end0
  exact ⟨rfl, rfl⟩

theorem uscale_half (x p : Nat) (r : Int) (w : World) (hx : x < 18446744073709551616) (hp : x * 12800000000000000000 / 18446744073709551616 = p)
    (h1 : (p : Int) / 32 * 32 ≠ (p : Int)) (hr : bits .or .u64 ((p : Int) / 32) 1 = r) :
    Calls Tryd.prog 72 #[.int .u64 x, .pointer (some ⟨w.heap.size, 0, none⟩)] (w.alloc (.cells #[.int .u64 12800000000000000000, .int .u64 0, .int .i64 5] 96)) fun e w' =>
      e = .returned (.int .u64 r) ∧ w' = w.alloc (.cells #[.int .u64 12800000000000000000, .int .u64 0, .int .i64 5] 96) := by
  have b1 : bits .and .i64 5 63 = 5 := by decide +kernel
  go_enter Tryd.func72, Tryd.ntmps72
  go_wp2_with fail
  refine (Tryd.bits_Mul64 x 12800000000000000000 hx (by decide) _).mono ?_
  rintro e w' ⟨rfl, rfl⟩
  rw [hp]
  have h1' : ((p : Int) / 32 * 32 != (p : Int)) = true := by simpa using h1
  go_wp2_with fail
  go_ret
  exact ⟨rfl, rfl⟩

theorem uscale_lo (w : World) : Calls Tryd.prog 72 #[.int .u64 9223372036854775296, .pointer (some ⟨w.heap.size, 0, none⟩)] (w.alloc (.cells #[.int .u64 12800000000000000000, .int .u64 0, .int .i64 5] 96)) fun e w' => e = .returned (.int .u64 199999999999999989) ∧ w' = (w.alloc (.cells #[.int .u64 12800000000000000000, .int .u64 0, .int .i64 5] 96)) := by
  have := uscale_half 9223372036854775296 6399999999999999644 199999999999999989 w (by decide) (by decide +kernel) (by decide +kernel) (by kernel_rfl)
  exact this
theorem uscale_hi (w : World) : Calls Tryd.prog 72 #[.int .u64 9223372036854776832, .pointer (some ⟨w.heap.size, 0, none⟩)] (w.alloc (.cells #[.int .u64 12800000000000000000, .int .u64 0, .int .i64 5] 96)) fun e w' => e = .returned (.int .u64 200000000000000023) ∧ w' = (w.alloc (.cells #[.int .u64 12800000000000000000, .int .u64 0, .int .i64 5] 96)) := by
  have := uscale_half 9223372036854776832 6400000000000000710 200000000000000023 w (by decide) (by decide +kernel) (by decide +kernel) (by kernel_rfl)
  exact this

set_option maxHeartbeats 1000000 in
theorem shortFloat_half (w : World) (ht : Tab w) :
    Calls Tryd.prog 65 #[.int .u64 9223372036854775808, .int .i64 (-64)] w fun e w' => e = .returned (.tuple #[.int .u64 5000000000000000, .int .i64 (-16)]) ∧ w' = w.alloc (.cells #[.int .u64 12800000000000000000, .int .u64 0, .int .i64 5] 96) := by
  have b1 : bits .and .i64 4503599627370496 1 = 0 := by kernel_rfl
  have c1 := prescale_half w ht
  have c2 := uscale_lo w
  have c3 := uscale_hi w
  go_enter Tryd.func65, Tryd.ntmps65
  go_wp2_with (first
    | (go_at_call 70; refine c1.mono ?_; rintro e w' ⟨rfl, rfl⟩)
    | (go_at_call 69; go_in) | (go_at_call 71; go_in))
  refine c2.mono ?_
  rintro e w' ⟨rfl, rfl⟩
  go_wp2_with (first | (go_at_call 73; go_in) | (go_at_call 74; go_in))
  refine c3.mono ?_
  rintro e w' ⟨rfl, rfl⟩
  go_wp2_with (first | (go_at_call 73; go_in) | (go_at_call 75; go_in))
  go_ret2
  exact ⟨rfl, rfl⟩

end Go.Proofs.YtdcpacdfbbdnlaaDoor
