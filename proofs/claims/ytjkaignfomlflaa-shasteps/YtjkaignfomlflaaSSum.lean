/-
  Layer 3: sha.Sum; the chapter's example.
-/
import Derived.Test.YtjkaignfomlflaaSText
import Derived.Test.YtjkaignfomlflaaAwake
namespace Go.Proofs.Ytjkaignfomlflaa
open Go.RowKit
set_option linter.unusedVariables false

theorem IsStrs.grown {w w' : World} {v : Value} {xs : List ByteArray} (h : IsStrs w v xs) (hs : w.heap.size ≤ w'.heap.size) (hc : ∀ b, b < w.heap.size → w'.heap[b]? = w.heap[b]?) : IsStrs w' v xs := by
  rcases h with h | ⟨bk, o, c, h1, h2, h3, h4⟩
  · exact .inl h
  · refine .inr ⟨bk, o, c, h1, h2, by omega, fun j x hj => ?_⟩
    have := h4 j x hj
    unfold World.cell? at this ⊢
    simp only [hc bk h3] at this ⊢
    exact this

set_option maxHeartbeats 1000000 in
theorem sum_any (v : Value) (xs : List ByteArray) (w : World) (hv : IsStrs w v xs) (hn : xs.length ≤ 1000) (hl : (allOf xs).length ≤ 1000000) :
    Calls Try.prog 13 #[v] w fun e w' => e = .returned (.agg (W.cellsOf (S.sumL (allOf xs))).toArray) ∧ Below w.heap.size w w' := by
  obtain ⟨b, hb⟩ : ∃ b, b = S.sumL (allOf xs) := ⟨_, rfl⟩
  have hbl : b.length = 32 := by rw [hb]; exact S.sumL_length _
  have hi : (Try.prog.info? 37).map (·.size) = some (W.cellsOf b).toArray.size := by rw [List.size_toArray, cellsOf_len, hbl]; kernel_rfl
  have CT : Hid (∀ w', IsStrs w' v xs → Calls Try.prog 16 #[v] w' fun e w'' => e = .returned (.string ⟨b.toArray⟩) ∧ Below w'.heap.size w' w'') := fun w' h => by rw [hb]; exact text_any v xs w' h hn hl
  rw [← hb]
  have HV : Hid (IsStrs w v xs) := hv
  have HM : Hid (Nat.min (⟨b.toArray⟩ : ByteArray).size 32 = 32) := by
    have : (⟨b.toArray⟩ : ByteArray).size = 32 := by simp [ByteArray.size, hbl]
    show Nat.min _ _ = _; rw [this]; rfl
  have HE : Hid ((⟨b.toArray⟩ : ByteArray).data.toList.take 32 = b) := by
    show List.take 32 b = b; rw [List.take_of_length_le (by omega)]
  have HBL := Lib.hid hbl
  clear hb hbl hv hl
  go_enter Try.func13, Try.ntmps13
  go_wp2
  obtain ⟨wa, hwa⟩ : ∃ wa, wa = (w.alloc (.cells (W.cellsOf (List.replicate 32 0)).toArray 37 (0, 0))).alloc (.cells (W.cellsOf (List.replicate 32 0)).toArray 37 (0, 0)) := ⟨_, rfl⟩
  have r0 : Row wa w.heap.size 37 (W.cellsOf (List.replicate 32 0)) := by rw [hwa]; exact (Row.new _ _ _).alloc _
  have r1 : Row wa (w.heap.size + 1) 37 (W.cellsOf (List.replicate 32 0)) := by rw [hwa]; exact Row.new' rfl (by simp)
  have hba : Below w.heap.size w wa := by rw [hwa]; exact ((Below.refl _ _).alloc (Nat.le_refl _) _).alloc (by simp) _
  have HVA : Hid (IsStrs wa.drew v xs) := HV.out.grown hba.size (fun k hk => hba.block k hk)
  show Code.wp _ _ _ _ ((w.alloc (.cells (W.cellsOf (List.replicate 32 0)).toArray 37 (0, 0))).alloc (.cells (W.cellsOf (List.replicate 32 0)).toArray 37 (0, 0)))
  rw [← hwa]
  clear hwa
  go_region_held3 (fun _ => True) (trivial) (first
    | (go_at_call 16; refine (CT.out _ HVA.out).mono ?_; rintro e w1 ⟨rfl, b1⟩; have p0 := Row.under b1 r0.lt (show Row _ w.heap.size _ _ from r0); have p1 := Row.under b1 r1.lt (show Row _ (w.heap.size + 1) _ _ from r1); have hb1 : Below w.heap.size w w1 := (hba.drew).trans (b1.mono hba.size); clear b1)
    | (refine step_copy_text rfl (.tmp 4) (.tmp 6) 53 9 rfl 5 Try.underlying53 (by kernel_rfl) (w.heap.size + 1) 0 32 32 32 rfl _ rfl _ _ p1 HM.out (by simp [cellsOf_len]) ?_; intro w2 h2 b2))
  have q1 : Row w2 (w.heap.size + 1) 37 (W.cellsOf b) := by
    have := h2.out
    rw [HE.out, splice_all (by rw [cellsOf_len, cellsOf_len, HBL.out]; rfl)] at this
    exact this
  have q0 := p0.below b2 (by omega)
  have hb2 : Below w.heap.size w w2 := hb1.trans (b2.mono (by omega))
  clear h2 b2 p0 p1 hb1 r0 r1 hba
  go_wp2_with (first | refine wpList_load_row rfl 37 _ rfl (w.heap.size + 1) rfl _ _ _ _ q1 Try.underlying37 rfl hi ?_ | refine wpList_store_row rfl 37 (.tmp 2) (.tmp 8) rfl w.heap.size _ rfl rfl _ _ q0 hi (by simp [cellsOf_len, HBL.out]) (cellsOf_all _) ?_)
  exact bodyPost_ret (results_cell_row rfl _ _ w.heap.size _ _ _ _ rfl (q0.setRow (W.cellsOf b)) Try.underlying37 rfl hi) rfl ⟨rfl, below_row hb2 (Nat.le_refl _) _⟩

end Go.Proofs.Ytjkaignfomlflaa
