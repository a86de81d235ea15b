/-
  Layer 15: slices.Clone of states; New.
-/
import Derived.Test.YtngoighdpmeepaaVMore
import Derived.Deep.RegionHeld3
namespace Go.Proofs.Ytngoighdpmeepaa
open Go.RowKit
set_option linter.unusedVariables false
set_option linter.unusedSimpArgs false
set_option maxRecDepth 20000

theorem infoStZ : (Try.prog.info? 75).map (fun i => (i.zero, i.size, i.bytes)) = some (some (.agg #[.int .u64 0, .int .u64 0, .string ⟨#[]⟩]), 3, 32) := by kernel_rfl
namespace S15
theorem own_slice {w : World} {B e n : Nat} {v : Value} {xs : List Value} (h : w.ownsRow B e 3 v (n + 1) xs) : ∃ g cap, v = .slice (some ⟨g, 0, none⟩) (n + 1) cap ∧ B ≤ g ∧ g < w.heap.size ∧ n + 1 ≤ cap ∧ cap ≤ maxLen := by
  obtain ⟨_, hv | ⟨g', cap', cur, hv, h1, hg, h2, h3, _, ht⟩⟩ := h
  · exact absurd hv.2 (by omega)
  · exact ⟨g', cap', hv, h1, (Array.getElem?_eq_some_iff.1 hg).1, h2, h3⟩
theorem addrAdd (g off j : Nat) : (⟨g, off, none⟩ : Addr).add j = ⟨g, off + j, none⟩ := by unfold Addr.add; split <;> simp_all
end S15

set_option maxHeartbeats 1000000 in
/-- slices.Clone of states. -/
theorem cloneSt_any (g off n cap : Nat) (L : List S15.St) (w : World) (hn : L.length = n + 1) (h8 : n < 1000) (ha : S15.StAt w g off L) :
    Calls Try.prog 36 #[.slice (some ⟨g, off, none⟩) (n + 1) cap] w fun e w' => ∃ v, e = .returned v ∧ w'.ownsRow w.heap.size 75 3 v (n + 1) (S15.cellsL L) ∧ Below w.heap.size w w' := by
  obtain ⟨i0, hi, hz0, hz1, hz2⟩ := info_parts infoStZ
  have hw := ha.alloc (.cells #[] 75 (0, 0))
  have hnews : Hid (∀ j u, (S15.cellsL L)[j]? = some u → (w.alloc (.cells #[] 75 (0, 0))).cell? ((⟨g, off, none⟩ : Addr).add j) = some u) := fun j u hj => by rw [S15.addrAdd]; exact hw.cellAt hj
  have hlen : Hid ((S15.cellsL L).length = (n + 1) * 3) := by show _ = _; rw [S15.cellsL_len, hn]
  have hone := Lib.hid (S15.cellsL_one L)
  have hown0 : (w.alloc (.cells #[] 75 (0, 0))).ownsRow w.heap.size 75 3 (.slice (some ⟨w.heap.size, 0, none⟩) 0 0) 0 [] := World.ownsRow_lit w #[] 0 (Nat.le_refl _) (by decide) rfl
  have bb : Below w.heap.size w (w.alloc (.cells #[] 75 (0, 0))) := (Below.refl _ _).alloc (Nat.le_refl _) _
  have hq : ∀ wx : World, (binOp .eql 40 (.slice (some ⟨g, off, none⟩) (n + 1) cap) (.slice none 0 0)).run Try.prog wx = .ok (.bool false) wx := fun wx => Lib.run_eql_slice_nil (P := Try.prog) wx 40 75 (some ⟨g, off, none⟩) (n + 1) cap 0 0 Try.underlying40
  clear ha hn hw
  go_enter Try.func36, Try.ntmps36
  go_wp2_with (at_builtin; refine wpList_append_own _ rfl _ _ 40 rfl w.heap.size 75 i0 _ 3 32 Try.underlying40 hi hz0 hz1 hz2 rfl (by decide) (.slice (some ⟨w.heap.size, 0, none⟩) 0 0) 0 [] rfl hown0 ⟨g, off, none⟩ (n + 1) cap (S15.cellsL L) rfl hlen.out hnews.out hone.out (by unfold maxLen; omega) (by omega) (by simp) ?_)
  intro v' w' ho hg _
  have bb2 := bb.grown hg (by simp) (fun k hk => by cases hk; exact Nat.le_refl _)
  clear hg
  go_wp2
  go_ret
  exact ⟨v', rfl, ho, bb2⟩

set_option maxHeartbeats 1000000 in
/-- New. -/
theorem new_any15 (t : ByteArray) (w : World) :
    Calls Try.prog 13 #[.string t, .agg #[.func (.func 34) #[] #[], .func (.func 35) #[] #[]]] w fun e w' => ∃ g, e = .returned (.agg #[.func (.func 34) #[] #[], .func (.func 35) #[] #[], .string t, .slice (some ⟨g, 0, none⟩) 1 1, .int .u64 0]) ∧ S15.StAt w' g 0 [⟨0, 0, t⟩] ∧ Below w.heap.size w w' := by
  have r0 : Row ((w.alloc (.cells #[.func (.func 34) #[] #[], .func (.func 35) #[] #[]] 39 (0, 0))).alloc (.cells #[.nilFunc, .nilFunc, .string ⟨#[]⟩, .slice none 0 0, .int .u64 0] 42 (0, 0))) w.heap.size 39 [.func (.func 34) #[] #[], .func (.func 35) #[] #[]] := (Row.new' rfl rfl).alloc _
  have q1 : Row (((w.alloc (.cells #[.func (.func 34) #[] #[], .func (.func 35) #[] #[]] 39 (0, 0))).alloc (.cells #[.nilFunc, .nilFunc, .string ⟨#[]⟩, .slice none 0 0, .int .u64 0] 42 (0, 0))).alloc (.cells #[.int .u64 0, .int .u64 0, .string t] 75 (0, 0))) (w.heap.size + 1) 42 [.nilFunc, .nilFunc, .string ⟨#[]⟩, .slice none 0 0, .int .u64 0] := (Row.new' rfl (by simp)).alloc _
  have s1 : Row (((w.alloc (.cells #[.func (.func 34) #[] #[], .func (.func 35) #[] #[]] 39 (0, 0))).alloc (.cells #[.nilFunc, .nilFunc, .string ⟨#[]⟩, .slice none 0 0, .int .u64 0] 42 (0, 0))).alloc (.cells #[.int .u64 0, .int .u64 0, .string t] 75 (0, 0))) (w.heap.size + 2) 75 [.int .u64 0, .int .u64 0, .string t] := Row.new' rfl (by simp)
  have bb : Below w.heap.size w (((w.alloc (.cells #[.func (.func 34) #[] #[], .func (.func 35) #[] #[]] 39 (0, 0))).alloc (.cells #[.nilFunc, .nilFunc, .string ⟨#[]⟩, .slice none 0 0, .int .u64 0] 42 (0, 0))).alloc (.cells #[.int .u64 0, .int .u64 0, .string t] 75 (0, 0))) := (((Below.refl _ _).alloc (Nat.le_refl _) _).alloc (by simp) _).alloc (by simp; omega) _
  have hs : S15.StAt (((w.alloc (.cells #[.func (.func 34) #[] #[], .func (.func 35) #[] #[]] 39 (0, 0))).alloc (.cells #[.nilFunc, .nilFunc, .string ⟨#[]⟩, .slice none 0 0, .int .u64 0] 42 (0, 0))).alloc (.cells #[.int .u64 0, .int .u64 0, .string t] 75 (0, 0))) (w.heap.size + 2) 0 [⟨0, 0, t⟩] := ⟨_, [], [], rfl, s1⟩
  go_enter Try.func13, Try.ntmps13
  go_wp2_with (first | refine wpList_load_row rfl 39 (.tmp 3) rfl w.heap.size rfl _ _ _ _ r0 Try.underlying39 rfl infoRu ?_ | refine wpList_store_row rfl 42 (.tmp 4) (.tmp 10) rfl (w.heap.size + 1) _ rfl rfl _ _ q1 infoSn rfl (by simp [Value.oneCell']) ?_)
  exact bodyPost_ret (results_cell_row rfl _ _ (w.heap.size + 1) _ _ _ _ rfl (q1.setRow [.func (.func 34) #[] #[], .func (.func 35) #[] #[], .string t, .slice (some ⟨w.heap.size + 2, 0, none⟩) 1 1, .int .u64 0]) Try.underlying42 rfl infoSn) rfl ⟨w.heap.size + 2, rfl, hs.setRow (by omega) _, below_row bb (by omega) _⟩

end Go.Proofs.Ytngoighdpmeepaa
