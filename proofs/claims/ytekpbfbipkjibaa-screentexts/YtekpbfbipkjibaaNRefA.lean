/-
  The document's side of layer 11: a blank row; New.
-/
import Derived.Test.YtekpbfbipkjibaaNCalls
import Derived.Test.YtekpbfbipkjibaaSTake
import Derived.Laws.AppendOwn
import Derived.Deep.AppendLies
namespace Go.Proofs.Ytekpbfbipkjibaa
open Go.RowKit
set_option linter.unusedVariables false
set_option maxRecDepth 20000

theorem infoRS : (Try.prog.info? 33).map (·.size) = some 5 := by kernel_rfl

set_option maxHeartbeats 1000000 in
theorem refBlank_any (n : Nat) (hn : n ≤ 1000) (w : World) :
    Calls Try.prog 36 #[.int .i64 n] w fun e w' => e = .returned (.string ⟨(List.replicate n 32).toArray⟩) ∧ w' = w := by
  have HS : Hid (∀ i : Nat, (⟨(List.replicate i (32 : UInt8)).toArray⟩ : ByteArray) ++ ⟨#[32]⟩ = ⟨(List.replicate (i + 1) 32).toArray⟩) := fun i => by
    rw [show List.replicate (i + 1) (32 : UInt8) = List.replicate i 32 ++ [32] from List.replicate_succ']
    apply ByteArray.ext
    apply Array.ext'
    simp [ByteArray.data_append]
  go_enter Try.func36, Try.ntmps36
  go_wp2
  go_loopw [3, 4] (fun sv iv wr => ∃ (i : Nat) (T0 : ByteArray), i ≤ n ∧ iv = .int .i64 i ∧ sv = .string T0 ∧ Hid (T0 = ⟨(List.replicate i 32).toArray⟩) ∧ wr = w) (fun _ iv _ => n - (intOf iv).toNat)
  case atStart => exact ⟨0, ⟨#[]⟩, Nat.zero_le _, rfl, rfl, rfl, rfl⟩
  case round =>
    obtain ⟨i, T0, hi, rfl, rfl, HT0, rfl⟩ := hrel
    by_cases hlt : i < n
    · have hs : (i : Int) < n := by omega
      have hTs : T0.size ≤ 1000 := by rw [HT0.out]; show (List.replicate i (32 : UInt8)).toArray.size ≤ 1000; simp; omega
      have HT1 : Hid (T0 ++ ⟨#[32]⟩ = ⟨(List.replicate (i + 1) (32 : UInt8)).toArray⟩) := by show _ = _; rw [HT0.out]; exact HS.out i
      go_wp2
      go_roundw
      case rel => exact ⟨i + 1, T0 ++ ⟨#[32]⟩, by omega, by go_num, rfl, HT1, by first | rfl | trivial⟩
      case measure => simp [intOf]; omega
    · obtain rfl : i = n := by omega
      go_wp2
      go_ret
      exact ⟨by rw [HT0.out] <;> rfl, rfl⟩

theorem own_setCell {w : World} {B e n g i : Nat} {v u : Value} {xs : List Value} (h : w.ownsRow B e 1 v n xs) (hg : g < B) : (w.setCell ⟨g, i, none⟩ u).ownsRow B e 1 v n xs :=
  h.kept (row := some g) ⟨rfl, rfl, rfl, by simp [World.setCell], fun k _ hk => heap_setCell_other w ⟨g, i, none⟩ k u (fun e => hk (by simp [e]))⟩ (by
    cases hv : v.ownBlock with
    | none => exact .inl rfl
    | some k => exact .inr (fun hh => by cases hh; have := (h.lt _ hv).1; omega))
theorem own_setRow {w : World} {B B' e n g : Nat} {v : Value} {xs : List Value} (h : w.ownsRow B e 1 v n xs) (hv : ∀ k, v.ownBlock = some k → B' ≤ k ∧ k < w.heap.size) (hg : g < B') (cs : Array Value) : (w.setRow g cs).ownsRow B e 1 v n xs :=
  h.kept (row := some g) ⟨rfl, rfl, rfl, by simp [World.setRow], fun k _ hk => Go.setRow_other w g k cs (fun e => hk (by simp [e]))⟩ (by
    cases hv' : v.ownBlock with
    | none => exact .inl rfl
    | some k => exact .inr (fun hh => by cases hh; have := (hv _ hv').1; omega))
theorem own_monoN {w : World} {base base' : Nat} {e : TypeId} {size : Nat} {v : Value} {n : Nat} {xs : List Value} (h : w.ownsRow base e size v n xs) (hb : base' ≤ base) : w.ownsRow base' e size v n xs :=
  ⟨h.1, h.2.imp id fun ⟨g, cap, cur, h1, h2, h3⟩ => ⟨g, cap, cur, h1, Nat.le_trans hb h2, h3⟩⟩
theorem own_one {w : World} {B e n : Nat} {v : Value} {xs : List Value} (h : w.ownsRow B e 1 v n xs) (hn : 0 < n) : v.oneCell' = true := by
  rcases h.2 with ⟨rfl, _⟩ | ⟨g, cap, cur, rfl, _⟩ <;> rfl

set_option maxHeartbeats 8000000 in
theorem refNew_any (wd ht : Nat) (h1 : 1 ≤ wd) (h2 : wd ≤ 80) (h3 : 1 ≤ ht) (h4 : ht ≤ 24) (w : World) :
    Calls Try.prog 14 #[.int .i64 wd, .int .i64 ht] w fun e w' => ∃ gq cap, e = .returned (.agg #[.int .i64 wd, .int .i64 ht, .int .i64 0, .int .i64 0, .slice (some ⟨gq, 0, none⟩) ht cap]) ∧ w'.ownsRow w.heap.size 9 1 (.slice (some ⟨gq, 0, none⟩) ht cap) ht (txt (List.replicate ht (List.replicate wd 32))) ∧ Below w.heap.size w w' := by
  obtain ⟨i0, hi, hz0, hz1, hz2⟩ := infoN infoStrN
  obtain ⟨BW, hBW⟩ : ∃ BW : ByteArray, BW = ⟨(List.replicate wd (32 : UInt8)).toArray⟩ := ⟨_, rfl⟩
  have CB : Hid (∀ wx, Calls Try.prog 36 #[.int .i64 wd] wx fun e w' => e = .returned (.string BW) ∧ w' = wx) := fun wx => by rw [hBW]; exact refBlank_any wd (by omega) wx
  have HST : Hid (∀ i, txt (List.replicate i (List.replicate wd 32)) ++ [.string BW] = txt (List.replicate (i + 1) (List.replicate wd 32))) := fun i => by rw [List.replicate_succ', txt_snoc, hBW]
  have HBW := Lib.hid hBW
  clear hBW
  have r0 : Row ((w.alloc (.cells #[.int .i64 0, .int .i64 0, .int .i64 0, .int .i64 0, .slice none 0 0] 33 (0, 0))).alloc (.cells #[.int .i64 wd, .int .i64 ht, .int .i64 0, .int .i64 0, .slice none 0 0] 33 (0, 0))) w.heap.size 33 [.int .i64 0, .int .i64 0, .int .i64 0, .int .i64 0, .slice none 0 0] := (Row.new' rfl rfl).alloc _
  have r1 : Row ((w.alloc (.cells #[.int .i64 0, .int .i64 0, .int .i64 0, .int .i64 0, .slice none 0 0] 33 (0, 0))).alloc (.cells #[.int .i64 wd, .int .i64 ht, .int .i64 0, .int .i64 0, .slice none 0 0] 33 (0, 0))) (w.heap.size + 1) 33 [.int .i64 wd, .int .i64 ht, .int .i64 0, .int .i64 0, .slice none 0 0] := Row.new' rfl (by simp)
  have b0 : Below w.heap.size w ((w.alloc (.cells #[.int .i64 0, .int .i64 0, .int .i64 0, .int .i64 0, .slice none 0 0] 33 (0, 0))).alloc (.cells #[.int .i64 wd, .int .i64 ht, .int .i64 0, .int .i64 0, .slice none 0 0] 33 (0, 0))) := ((Below.refl _ _).alloc (Nat.le_refl _) _).alloc (by simp) _
  go_enter Try.func14, Try.ntmps14
  go_wp2
  go_loopw [6] (fun iv wr => ∃ (i : Nat) (v : Value), i ≤ ht ∧ iv = .int .i64 i ∧ Row wr w.heap.size 33 [.int .i64 0, .int .i64 0, .int .i64 0, .int .i64 0, .slice none 0 0] ∧ Row wr (w.heap.size + 1) 33 [.int .i64 wd, .int .i64 ht, .int .i64 0, .int .i64 0, v] ∧ wr.ownsRow (w.heap.size + 2) 9 1 v i (txt (List.replicate i (List.replicate wd 32))) ∧ Below w.heap.size w wr) (fun iv _ => ht - (intOf iv).toNat)
  case atStart => exact ⟨0, .slice none 0 0, Nat.zero_le _, rfl, r0, r1, World.ownsRow_nil _ _ _ _, b0⟩
  case round =>
    clear r0 r1 b0
    obtain ⟨i, v, hi', rfl, r0, r1, ho, hbl⟩ := hrel
    by_cases hlt : i < ht
    · have hs : (i : Int) < ht := by omega
      have c4 := r1.cell 4
      simp only [List.getElem?_cons_zero, List.getElem?_cons_succ] at c4
      have c4a := (r1.alloc (.cells #[.string BW] 9 (0, 0))).cell 4
      simp only [List.getElem?_cons_zero, List.getElem?_cons_succ] at c4a
      have HSTEP : Hid (txt (List.replicate i (List.replicate wd 32)) ++ [.string BW] = txt (List.replicate (i + 1) (List.replicate wd 32))) := HST.out i
      go_wp2
      refine wp_region_held_drew (S := fun w' => Below w.heap.size w w') (by kernel_rfl) (hbl.drew) (fun hHeld => ?_)
      refine take_d 0 (some 15) (.pointer (some ⟨w.heap.size + 1, 4, none⟩)) rfl (by kernel_rfl) (by kernel_rfl) (by kernel_rfl) (fun _ _ _ h => h) (fun oi h => by cases h; exact Or.inl ⟨by rfl, fun w' hS' => by go_simp⟩) hHeld ?_
      try simp only [Act.put, List.setIfInBounds_toArray, List.set_cons_zero, List.set_cons_succ]
      refine take_d 2 (some 17) (.int .i64 wd) rfl (by kernel_rfl) (by kernel_rfl) (by kernel_rfl) (fun _ _ _ h => h) (fun oi h => by cases h; exact Or.inl ⟨by rfl, fun w' hS' => by go_simp⟩) hHeld ?_
      try simp only [Act.put, List.setIfInBounds_toArray, List.set_cons_zero, List.set_cons_succ]
      refine two_d 1 3 rfl rfl (by kernel_rfl) ?_ ?_
      · intro K hK
        go_simp
        refine hK.out _ _ hHeld (fun hHeld => ?_)
        clear hK K
        try simp only [Act.put, List.setIfInBounds_toArray, List.set_cons_zero, List.set_cons_succ]
        refine one_d 3 (some 18) rfl (by kernel_rfl) ?_
        intro o ho1 hd
        cases ho1
        clear hd
        intro K hK
        go_simp
        refine (CB.out _).mono ?_
        rintro e wq ⟨rfl, rfl⟩
        refine hK.out _ _ hHeld (fun hHeld => ?_)
        clear hK K
        try simp only [Act.put, List.setIfInBounds_toArray, List.set_cons_zero, List.set_cons_succ]
        refine one_d 4 (some 19) rfl (by kernel_rfl) ?_
        intro o ho1 hd
        cases ho1
        clear hd
        intro K hK
        go_simp
        refine hK.out _ _ (hHeld.alloc hHeld.size _) (fun hHeld => ?_)
        clear hK K
        try simp only [Act.put, List.setIfInBounds_toArray, List.set_cons_zero, List.set_cons_succ]
        refine one_d 5 (some 20) rfl (by kernel_rfl) ?_
        intro o ho2 hd K hK
        cases ho2
        rw [if_pos (by rfl)]
        refine wp_append_own _ _ _ 31 rfl (w.heap.size + 2) 9 i0 (.string ⟨#[]⟩) 1 16 Try.underlying31 hi hz0 hz1 hz2 rfl (by decide) v i _ rfl (ho.drew.alloc _) ⟨wr.heap.size, 0, none⟩ 1 1 [.string BW] rfl rfl (by intro j u hj; match j, hj with | 0, hj => simp at hj; subst hj; simp [Addr.add]) (by intro u hu; simp at hu; subst hu; rfl) (by unfold maxLen; omega) (by omega) (by have := r1.lt; simp; omega) ?_
        intro v' w5 ho5 hgrow hnil
        obtain ⟨g5, cap5, rfl, hg5, hlt5⟩ := World.ownsRow.form ho5 (by omega)
        have hne : v.ownBlock ≠ some (w.heap.size + 1) := fun hh => by have := ((ho.drew.alloc (.cells #[.string BW] 9 (0, 0))).lt _ hh).1; omega
        have hb5 : Below (w.heap.size + 2) (wr.drew.alloc (.cells #[.string BW] 9 (0, 0))) w5 := (Below.refl _ _).grown hgrow (by have := r1.lt; simp; omega) (fun k hk => ((ho.drew.alloc (.cells #[.string BW] 9 (0, 0))).lt k hk).1)
        have q1 := (r1.drew.alloc (.cells #[.string BW] 9 (0, 0))).below hb5 (by omega)
        have q0 := (r0.drew.alloc (.cells #[.string BW] 9 (0, 0))).below hb5 (by omega)
        have bb5 := (hbl.drew.alloc hbl.size (.cells #[.string BW] 9 (0, 0))).trans (hb5.mono (by omega))
        clear hgrow hnil hb5
        rw [hd]
        refine hK.out _ _ bb5 (fun hHeld => ?_)
        clear hK K hd
        try simp only [Act.put, List.setIfInBounds_toArray, List.set_cons_zero, List.set_cons_succ]
        refine take_d 6 (some 21) (.pointer (some ⟨w.heap.size + 1, 4, none⟩)) rfl (by kernel_rfl) (by kernel_rfl) (by kernel_rfl) (fun _ _ _ h => h) (fun oi h => by cases h; exact Or.inl ⟨by rfl, fun w' hS' => by go_simp⟩) hHeld ?_
        try simp only [Act.put, List.setIfInBounds_toArray, List.set_cons_zero, List.set_cons_succ]
        refine one_d 7 none rfl (by kernel_rfl) ?_
        intro o ho3 hd K hK
        cases ho3
        have c4 := q1.cell 4
        have f4 := q1.frozen 4
        simp only [List.getElem?_cons_zero, List.getElem?_cons_succ] at c4
        have q1' : Row (w5.setCell ⟨w.heap.size + 1, 4, none⟩ (.slice (some ⟨g5, 0, none⟩) (i + 1) cap5)) (w.heap.size + 1) 33 [.int .i64 wd, .int .i64 ht, .int .i64 0, .int .i64 0, (.slice (some ⟨g5, 0, none⟩) (i + 1) cap5)] := q1.set 4 (.slice (some ⟨g5, 0, none⟩) (i + 1) cap5)
        have q0' := q0.other (k := w.heap.size + 1) (i := 4) (by omega) (.slice (some ⟨g5, 0, none⟩) (i + 1) cap5)
        have bb6 := bb5.setCell (p := ⟨w.heap.size + 1, 4, none⟩) (by simp) (.slice (some ⟨g5, 0, none⟩) (i + 1) cap5)
        have ho6 : (w5.setCell ⟨w.heap.size + 1, 4, none⟩ (.slice (some ⟨g5, 0, none⟩) (i + 1) cap5)).ownsRow (w.heap.size + 2) 9 1 (.slice (some ⟨g5, 0, none⟩) (i + 1) cap5) (i + 1) (txt (List.replicate i (List.replicate wd 32)) ++ [.string BW]) := own_setCell ho5 (by omega)
        go_simp
        refine hK.out _ _ bb6 (fun hHeld => ?_)
        clear hK K hd hHeld c4 f4 q1 q0 bb5 ho5
        try simp only [Act.put]
        refine wpAnyH_done (by kernel_rfl) ?_ _
        try simp only [Act.put]
        have ho7 := ho6
        rw [HSTEP.out] at ho7
        go_wp2
        go_roundw
        case rel => exact ⟨i + 1, .slice (some ⟨g5, 0, none⟩) (i + 1) cap5, by omega, by go_num, q0', q1', ho7, bb6⟩
        case measure => simp [intOf]; omega
      · intro K hK
        go_simp
        refine (CB.out _).mono ?_
        rintro e wq ⟨rfl, rfl⟩
        refine hK.out _ _ hHeld (fun hHeld => ?_)
        clear hK K
        try simp only [Act.put, List.setIfInBounds_toArray, List.set_cons_zero, List.set_cons_succ]
        refine two_d 1 4 rfl rfl (by kernel_rfl) ?_ ?_
        · intro K hK
          go_simp
          refine hK.out _ _ hHeld (fun hHeld => ?_)
          clear hK K
          try simp only [Act.put, List.setIfInBounds_toArray, List.set_cons_zero, List.set_cons_succ]
          refine one_d 4 (some 19) rfl (by kernel_rfl) ?_
          intro o ho1 hd
          cases ho1
          clear hd
          intro K hK
          go_simp
          refine hK.out _ _ (hHeld.alloc hHeld.size _) (fun hHeld => ?_)
          clear hK K
          try simp only [Act.put, List.setIfInBounds_toArray, List.set_cons_zero, List.set_cons_succ]
          refine one_d 5 (some 20) rfl (by kernel_rfl) ?_
          intro o ho2 hd K hK
          cases ho2
          rw [if_pos (by rfl)]
          refine wp_append_own _ _ _ 31 rfl (w.heap.size + 2) 9 i0 (.string ⟨#[]⟩) 1 16 Try.underlying31 hi hz0 hz1 hz2 rfl (by decide) v i _ rfl (ho.drew.alloc _) ⟨wr.heap.size, 0, none⟩ 1 1 [.string BW] rfl rfl (by intro j u hj; match j, hj with | 0, hj => simp at hj; subst hj; simp [Addr.add]) (by intro u hu; simp at hu; subst hu; rfl) (by unfold maxLen; omega) (by omega) (by have := r1.lt; simp; omega) ?_
          intro v' w5 ho5 hgrow hnil
          obtain ⟨g5, cap5, rfl, hg5, hlt5⟩ := World.ownsRow.form ho5 (by omega)
          have hne : v.ownBlock ≠ some (w.heap.size + 1) := fun hh => by have := ((ho.drew.alloc (.cells #[.string BW] 9 (0, 0))).lt _ hh).1; omega
          have hb5 : Below (w.heap.size + 2) (wr.drew.alloc (.cells #[.string BW] 9 (0, 0))) w5 := (Below.refl _ _).grown hgrow (by have := r1.lt; simp; omega) (fun k hk => ((ho.drew.alloc (.cells #[.string BW] 9 (0, 0))).lt k hk).1)
          have q1 := (r1.drew.alloc (.cells #[.string BW] 9 (0, 0))).below hb5 (by omega)
          have q0 := (r0.drew.alloc (.cells #[.string BW] 9 (0, 0))).below hb5 (by omega)
          have bb5 := (hbl.drew.alloc hbl.size (.cells #[.string BW] 9 (0, 0))).trans (hb5.mono (by omega))
          clear hgrow hnil hb5
          rw [hd]
          refine hK.out _ _ bb5 (fun hHeld => ?_)
          clear hK K hd
          try simp only [Act.put, List.setIfInBounds_toArray, List.set_cons_zero, List.set_cons_succ]
          refine take_d 6 (some 21) (.pointer (some ⟨w.heap.size + 1, 4, none⟩)) rfl (by kernel_rfl) (by kernel_rfl) (by kernel_rfl) (fun _ _ _ h => h) (fun oi h => by cases h; exact Or.inl ⟨by rfl, fun w' hS' => by go_simp⟩) hHeld ?_
          try simp only [Act.put, List.setIfInBounds_toArray, List.set_cons_zero, List.set_cons_succ]
          refine one_d 7 none rfl (by kernel_rfl) ?_
          intro o ho3 hd K hK
          cases ho3
          have c4 := q1.cell 4
          have f4 := q1.frozen 4
          simp only [List.getElem?_cons_zero, List.getElem?_cons_succ] at c4
          have q1' : Row (w5.setCell ⟨w.heap.size + 1, 4, none⟩ (.slice (some ⟨g5, 0, none⟩) (i + 1) cap5)) (w.heap.size + 1) 33 [.int .i64 wd, .int .i64 ht, .int .i64 0, .int .i64 0, (.slice (some ⟨g5, 0, none⟩) (i + 1) cap5)] := q1.set 4 (.slice (some ⟨g5, 0, none⟩) (i + 1) cap5)
          have q0' := q0.other (k := w.heap.size + 1) (i := 4) (by omega) (.slice (some ⟨g5, 0, none⟩) (i + 1) cap5)
          have bb6 := bb5.setCell (p := ⟨w.heap.size + 1, 4, none⟩) (by simp) (.slice (some ⟨g5, 0, none⟩) (i + 1) cap5)
          have ho6 : (w5.setCell ⟨w.heap.size + 1, 4, none⟩ (.slice (some ⟨g5, 0, none⟩) (i + 1) cap5)).ownsRow (w.heap.size + 2) 9 1 (.slice (some ⟨g5, 0, none⟩) (i + 1) cap5) (i + 1) (txt (List.replicate i (List.replicate wd 32)) ++ [.string BW]) := own_setCell ho5 (by omega)
          go_simp
          refine hK.out _ _ bb6 (fun hHeld => ?_)
          clear hK K hd hHeld c4 f4 q1 q0 bb5 ho5
          try simp only [Act.put]
          refine wpAnyH_done (by kernel_rfl) ?_ _
          try simp only [Act.put]
          have ho7 := ho6
          rw [HSTEP.out] at ho7
          go_wp2
          go_roundw
          case rel => exact ⟨i + 1, .slice (some ⟨g5, 0, none⟩) (i + 1) cap5, by omega, by go_num, q0', q1', ho7, bb6⟩
          case measure => simp [intOf]; omega
        · intro K hK
          go_simp
          refine hK.out _ _ (hHeld.alloc hHeld.size _) (fun hHeld => ?_)
          clear hK K
          try simp only [Act.put, List.setIfInBounds_toArray, List.set_cons_zero, List.set_cons_succ]
          refine one_d 1 (some 16) rfl (by kernel_rfl) ?_
          intro o ho1 hd
          cases ho1
          clear hd
          intro K hK
          go_simp
          refine hK.out _ _ hHeld (fun hHeld => ?_)
          clear hK K
          try simp only [Act.put, List.setIfInBounds_toArray, List.set_cons_zero, List.set_cons_succ]
          refine one_d 5 (some 20) rfl (by kernel_rfl) ?_
          intro o ho2 hd K hK
          cases ho2
          rw [if_pos (by rfl)]
          refine wp_append_own _ _ _ 31 rfl (w.heap.size + 2) 9 i0 (.string ⟨#[]⟩) 1 16 Try.underlying31 hi hz0 hz1 hz2 rfl (by decide) v i _ rfl (ho.drew.alloc _) ⟨wr.heap.size, 0, none⟩ 1 1 [.string BW] rfl rfl (by intro j u hj; match j, hj with | 0, hj => simp at hj; subst hj; simp [Addr.add]) (by intro u hu; simp at hu; subst hu; rfl) (by unfold maxLen; omega) (by omega) (by have := r1.lt; simp; omega) ?_
          intro v' w5 ho5 hgrow hnil
          obtain ⟨g5, cap5, rfl, hg5, hlt5⟩ := World.ownsRow.form ho5 (by omega)
          have hne : v.ownBlock ≠ some (w.heap.size + 1) := fun hh => by have := ((ho.drew.alloc (.cells #[.string BW] 9 (0, 0))).lt _ hh).1; omega
          have hb5 : Below (w.heap.size + 2) (wr.drew.alloc (.cells #[.string BW] 9 (0, 0))) w5 := (Below.refl _ _).grown hgrow (by have := r1.lt; simp; omega) (fun k hk => ((ho.drew.alloc (.cells #[.string BW] 9 (0, 0))).lt k hk).1)
          have q1 := (r1.drew.alloc (.cells #[.string BW] 9 (0, 0))).below hb5 (by omega)
          have q0 := (r0.drew.alloc (.cells #[.string BW] 9 (0, 0))).below hb5 (by omega)
          have bb5 := (hbl.drew.alloc hbl.size (.cells #[.string BW] 9 (0, 0))).trans (hb5.mono (by omega))
          clear hgrow hnil hb5
          rw [hd]
          refine hK.out _ _ bb5 (fun hHeld => ?_)
          clear hK K hd
          try simp only [Act.put, List.setIfInBounds_toArray, List.set_cons_zero, List.set_cons_succ]
          refine take_d 6 (some 21) (.pointer (some ⟨w.heap.size + 1, 4, none⟩)) rfl (by kernel_rfl) (by kernel_rfl) (by kernel_rfl) (fun _ _ _ h => h) (fun oi h => by cases h; exact Or.inl ⟨by rfl, fun w' hS' => by go_simp⟩) hHeld ?_
          try simp only [Act.put, List.setIfInBounds_toArray, List.set_cons_zero, List.set_cons_succ]
          refine one_d 7 none rfl (by kernel_rfl) ?_
          intro o ho3 hd K hK
          cases ho3
          have c4 := q1.cell 4
          have f4 := q1.frozen 4
          simp only [List.getElem?_cons_zero, List.getElem?_cons_succ] at c4
          have q1' : Row (w5.setCell ⟨w.heap.size + 1, 4, none⟩ (.slice (some ⟨g5, 0, none⟩) (i + 1) cap5)) (w.heap.size + 1) 33 [.int .i64 wd, .int .i64 ht, .int .i64 0, .int .i64 0, (.slice (some ⟨g5, 0, none⟩) (i + 1) cap5)] := q1.set 4 (.slice (some ⟨g5, 0, none⟩) (i + 1) cap5)
          have q0' := q0.other (k := w.heap.size + 1) (i := 4) (by omega) (.slice (some ⟨g5, 0, none⟩) (i + 1) cap5)
          have bb6 := bb5.setCell (p := ⟨w.heap.size + 1, 4, none⟩) (by simp) (.slice (some ⟨g5, 0, none⟩) (i + 1) cap5)
          have ho6 : (w5.setCell ⟨w.heap.size + 1, 4, none⟩ (.slice (some ⟨g5, 0, none⟩) (i + 1) cap5)).ownsRow (w.heap.size + 2) 9 1 (.slice (some ⟨g5, 0, none⟩) (i + 1) cap5) (i + 1) (txt (List.replicate i (List.replicate wd 32)) ++ [.string BW]) := own_setCell ho5 (by omega)
          go_simp
          refine hK.out _ _ bb6 (fun hHeld => ?_)
          clear hK K hd hHeld c4 f4 q1 q0 bb5 ho5
          try simp only [Act.put]
          refine wpAnyH_done (by kernel_rfl) ?_ _
          try simp only [Act.put]
          have ho7 := ho6
          rw [HSTEP.out] at ho7
          go_wp2
          go_roundw
          case rel => exact ⟨i + 1, .slice (some ⟨g5, 0, none⟩) (i + 1) cap5, by omega, by go_num, q0', q1', ho7, bb6⟩
          case measure => simp [intOf]; omega
    · obtain rfl : ht = i := by omega
      obtain ⟨gq, cap, rfl, hgq, hlq⟩ := World.ownsRow.form ho (by omega)
      go_wp2_with (first | refine wpList_load_row rfl 33 (.tmp 5) rfl (w.heap.size + 1) rfl _ _ _ _ r1 Try.underlying33 rfl infoRS ?_ | refine wpList_store_row rfl 33 (.tmp 4) (.tmp 22) rfl w.heap.size _ rfl rfl _ _ r0 infoRS rfl (by simp [Value.oneCell']) ?_)
      refine bodyPost_ret (results_cell_row rfl _ _ w.heap.size _ _ _ _ rfl (r0.setRow [.int .i64 wd, .int .i64 ht, .int .i64 0, .int .i64 0, .slice (some ⟨gq, 0, none⟩) ht cap]) Try.underlying33 rfl infoRS) rfl ⟨gq, cap, rfl, ?_, below_row hbl (Nat.le_refl _) _⟩
      exact own_setRow (own_monoN ho (by omega)) (World.ownsRow.lt ho) (by omega) _

end Go.Proofs.Ytekpbfbipkjibaa
