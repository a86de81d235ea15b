/-
  Layer 3: the document's own constants, and its Step.
-/
import Derived.Test.YtjkaignfomlflaaSStep
namespace Go.Proofs.Ytjkaignfomlflaa
open Go.RowKit
set_option linter.unusedVariables false

theorem refK_any (w : World) : Calls Try.prog 8 #[] w fun e w' => e = .returned (.slice (some ⟨w.heap.size, 0, none⟩) 64 64) ∧ Row w' w.heap.size 22 (u32s S.keys) ∧ Below w.heap.size w w' := by
  go_enter Try.func8, Try.ntmps8
  go_wp2
  go_ret
  exact ⟨rfl, Row.new' rfl rfl, (Below.refl _ _).alloc (Nat.le_refl _) _⟩

theorem refStart_any (w : World) : Calls Try.prog 9 #[] w fun e w' => e = .returned (.slice (some ⟨w.heap.size, 0, none⟩) 8 8) ∧ Row w' w.heap.size 22 (u32s S.start) ∧ Below w.heap.size w w' := by
  go_enter Try.func9, Try.ntmps9
  go_wp2
  go_ret
  exact ⟨rfl, Row.new' rfl rfl, (Below.refl _ _).alloc (Nat.le_refl _) _⟩

theorem make64 (w : World) : (Instr.makeSlice 29 (.int .i64 64) (.int .i64 64)).run Try.prog w = .ok (.slice (some ⟨w.heap.size, 0, none⟩) 64 64) (w.alloc (.cells (u32s (List.replicate 64 0)).toArray 22 (0, 0))) := by kernel_rfl
theorem make8 (w : World) : (Instr.makeSlice 29 (.int .i64 8) (.int .i64 8)).run Try.prog w = .ok (.slice (some ⟨w.heap.size, 0, none⟩) 8 8) (w.alloc (.cells (u32s (List.replicate 8 0)).toArray 22 (0, 0))) := by kernel_rfl

theorem refRot {k : Nat} {c : Int} (hc : c = (k : Int)) (h1 : 1 ≤ k) (h2 : k ≤ 31) {x : Nat} (hx : x < 4294967296) (w : World) {q n : Nat} :
    Calls Try.prog 23 #[.int .u32 x, .int .i64 c] (w.drewN (q + n)) fun e w'' => e = .returned (.int .u32 (S.rotr x k : Nat)) ∧ ∃ m, w'' = w.drewN (q + m) := by
  subst hc
  exact (refRotr_any x k hx h1 h2 _).mono fun e w' h => ⟨h.1, by obtain ⟨m, hm⟩ := h.2; exact ⟨n + m, by rw [hm, World.drewN_drewN, Nat.add_assoc]⟩⟩
theorem refRot0 {k : Nat} {c : Int} (hc : c = (k : Int)) (h1 : 1 ≤ k) (h2 : k ≤ 31) {x : Nat} (hx : x < 4294967296) (w : World) {n : Nat} :
    Calls Try.prog 23 #[.int .u32 x, .int .i64 c] (w.drewN n) fun e w'' => e = .returned (.int .u32 (S.rotr x k : Nat)) ∧ ∃ m, w'' = w.drewN m := by
  subst hc
  exact (refRotr_any x k hx h1 h2 _).mono fun e w' h => ⟨h.1, by obtain ⟨m, hm⟩ := h.2; exact ⟨n + m, by rw [hm, World.drewN_drewN]⟩⟩

/-- What lies in the row behind so many bytes. -/
def fwRow (b : List UInt8) (m : Nat) : List Nat := S.fw b m ++ List.replicate 48 0
theorem fwRow_length (b : List UInt8) (m : Nat) : (fwRow b m).length = 64 := by simp [fwRow, S.fw_length]
theorem fwRow_at (b : List UInt8) (m i : Nat) (h : i < 16) : (fwRow b m).getD i 0 = (S.fw b m).getD i 0 := by
  simp only [fwRow, List.getD_eq_getElem?_getD]
  rw [List.getElem?_append_left (by rw [S.fw_length]; exact h)]
theorem fwRow_step (b : List UInt8) (hb : b.length = 64) (i j : Nat) (hi : i < 16) (hj : j < 4) :
    (fwRow b (4 * i + j)).set i ((S.fw b (4 * i + j)).getD i 0 * 256 + (b[4 * i + j]'(by omega)).toNat) = fwRow b (4 * i + j + 1) := by
  have h := S.fw_step b hb (4 * i + j) (by omega)
  rw [show (4 * i + j) / 4 = i from by omega] at h
  unfold fwRow
  rw [List.set_append_left _ _ (by rw [S.fw_length]; exact hi), h]
theorem fwRow_zero (b : List UInt8) : fwRow b 0 = List.replicate 64 0 := by unfold fwRow; rw [S.fw_zero]; rfl
theorem fwRow_full (b : List UInt8) (hb : b.length = 64) : fwRow b 64 = drawnRow b 0 := by unfold fwRow drawnRow; rw [S.fw_full b hb]; rfl

end Go.Proofs.Ytjkaignfomlflaa
