/-
  slices.Equal on numbers of 64 bits: two rows of the same ones.
-/
import Derived.Test.YtjfhinhakanhaaaGAny
namespace Go.Proofs.Ytjfhinhakanhaaa
open Go.RowKit
set_option linter.unusedVariables false

set_option maxHeartbeats 1000000 in
theorem equalN_any (B1 B2 g1 g2 c1 c2 n : Nat) (L : List R16.Cm) (hn : L.length = n) (hl : n ≤ 100000) (w : World) (r1 : w.ownsRow B1 23 1 (.slice (some ⟨g1, 0, none⟩) n c1) n (R16.nums L)) (r2 : w.ownsRow B2 23 1 (.slice (some ⟨g2, 0, none⟩) n c2) n (R16.nums L)) :
    Calls Try.prog 13 #[.slice (some ⟨g1, 0, none⟩) n c1, .slice (some ⟨g2, 0, none⟩) n c2] w fun e w' => e = .returned (.bool true) ∧ Below w.heap.size w w' := by
  have H0 : Hid (∀ j, j < n → ∃ x : Nat, (R16.nums L)[j]? = some (.int .u64 (x : Int))) := fun j hj => by
    refine ⟨(L[j]'(by omega)).num, ?_⟩
    unfold R16.nums
    rw [List.getElem?_map, List.getElem?_eq_getElem (by omega)]; rfl
  have H1 : Hid (∀ j, j < n → ∃ x : Nat, w.cell? ⟨g1, j, none⟩ = some (.int .u64 (x : Int)) ∧ w.cell? ⟨g2, j, none⟩ = some (.int .u64 (x : Int))) := fun j hj => by
    obtain ⟨x, hx⟩ := H0.out j hj
    exact ⟨x, (r1.cellAt j (by omega)).trans hx, (r2.cellAt j (by omega)).trans hx⟩
  clear r1 r2 H0 hn
  go_enter Try.func13, Try.ntmps13
  go_wp2
  go_loopw [5, 13] (fun _ iv wr => ∃ i : Nat, i ≤ n ∧ iv = .int .i64 i ∧ ∃ k, wr = w.drewN k) (fun _ iv _ => n - (intOf iv).toNat)
  case atStart => exact ⟨0, Nat.zero_le _, rfl, 0, rfl⟩
  case round =>
    obtain ⟨i, hi, rfl, k, rfl⟩ := hrel
    by_cases hlt : i < n
    · obtain ⟨x, e1, e2⟩ := H1.out i hlt
      have hs : (i : Int) < n := by omega
      go_wp2
      go_region
      go_wp2
      go_roundw
      case rel => exact ⟨i + 1, by omega, by go_num, k + 1, rfl⟩
      case measure => simp [intOf]; omega
    · obtain rfl : i = n := by omega
      go_wp2
      go_ret
      exact ⟨rfl, below_drewM (Below.refl _ _) k⟩

end Go.Proofs.Ytjfhinhakanhaaa
