/-
  slices.Equal on words: two rows of the same words are equal.
-/
import Derived.Test.YtjkaignfomlflaaRStep
namespace Go.Proofs.Ytjkaignfomlflaa
open Go.RowKit
set_option linter.unusedVariables false

set_option maxHeartbeats 1000000 in
theorem equalW_any (g1 g2 c1 c2 n : Nat) (l : List Nat) (hn : n = l.length) (hl : l.length ≤ 100000) (w : World) {t1 t2 : Nat} (r1 : Row w g1 t1 (u32s l)) (r2 : Row w g2 t2 (u32s l)) :
    Calls Try.prog 7 #[.slice (some ⟨g1, 0, none⟩) n c1, .slice (some ⟨g2, 0, none⟩) n c2] w fun e w' => e = .returned (.bool true) ∧ Below w.heap.size w w' := by
  subst hn
  have H1 : Hid (∀ j, j < l.length → w.cell? ⟨g1, j, none⟩ = some (.int .u32 ((l.getD j 0 : Nat) : Int))) := fun j hj => (r1.cell j).trans (u32s_at hj)
  have H2 : Hid (∀ j, j < l.length → w.cell? ⟨g2, j, none⟩ = some (.int .u32 ((l.getD j 0 : Nat) : Int))) := fun j hj => (r2.cell j).trans (u32s_at hj)
  clear r1 r2
  generalize l.length = n at *
  go_enter Try.func7, Try.ntmps7
  go_wp2
  go_loopw [5, 13] (fun _ iv wr => ∃ i : Nat, i ≤ n ∧ iv = .int .i64 i ∧ ∃ k, wr = w.drewN k) (fun _ iv _ => n - (intOf iv).toNat)
  case atStart => exact ⟨0, Nat.zero_le _, rfl, 0, rfl⟩
  case round =>
    obtain ⟨i, hi, rfl, k, rfl⟩ := hrel
    by_cases hlt : i < n
    · have e1 := H1.out i hlt
      have e2 := H2.out i hlt
      have hs : (i : Int) < n := by omega
      generalize l.getD i 0 = x at *
      go_wp2
      go_region
      go_wp2
      go_roundw
      case rel => exact ⟨i + 1, by omega, by go_num, k + 1, rfl⟩
      case measure => simp [intOf]; omega
    · obtain rfl : i = n := by omega
      go_wp2
      go_ret
      exact ⟨rfl, below_drewM (Below.refl _ _) k⟩

end Go.Proofs.Ytjkaignfomlflaa
