/-
  Layer 16: slices.Insert in the middle of a row of the call's own.
-/
import Derived.Test.YtjfhinhakanhaaaGMake
import Derived.Shelf.Spec.SlicesInsert
import Derived.Lib.AppendZerosOnto
import Derived.Lib.Overlaps
import Derived.Laws.CopyRow
import Derived.Laws.Externs
namespace Go.Proofs.Ytjfhinhakanhaaa
open Go.RowKit Go.Lib
set_option linter.unusedVariables false
set_option linter.unusedSimpArgs false
set_option maxRecDepth 20000

/-- 'copy' between rows whose values take k cells. -/
theorem run_copy_rowk {P : Program} (w : World) (dT sT ty elem : TypeId) (k g o dLen dCap : Nat) (a : Addr) (sLen sCap m : Nat) (cur : Array Value) (t : TypeId) (cs : List Value)
    (hu : P.underlying dT = some (.slice elem)) (hs : (P.info? elem).map (·.size) = some k)
    (hg : w.heap[g]? = some (.cells cur t (0, 0))) (hm : Nat.min sLen dLen = m) (hn : cs.length = m * k)
    (hsrc : ∀ j v, cs[j]? = some v → w.cell? (a.add j) = some v) (hfit : o + cs.length ≤ cur.size) (h1 : ∀ v ∈ cs, v.oneCell' = true) :
    (Builtin.copy_ #[dT, sT] ty #[.slice (some ⟨g, o, none⟩) dLen dCap, .slice (some a) sLen sCap]).run P w =
      .ok (goInt m) (w.setRow g (cur.toList.take o ++ cs ++ cur.toList.drop (o + cs.length)).toArray) := by
  have hl := run_loadCells_list (P := P) w a cs hsrc
  have hst := run_storeCells_at P g o t cs 0 cur w hg (by simpa using hfit) h1
  cases hq : P.info? elem with
  | none => simp [hq] at hs
  | some i =>
    have hi : i.size = k := by simpa [hq] using hs
    simp [Builtin.copy_, run_underlying hu, Builtin.lenOf, Builtin.firstCells, sizeOf, typeInfo, hq, hi, hm, ← hn, hl, hst]

theorem R16.spA {α : Type} (a : Nat) (l P M D : List α) (hP : P.length = 2) (h : a + 2 ≤ l.length) :
    (l.take (a + 2) ++ M ++ D).take a ++ P ++ (l.take (a + 2) ++ M ++ D).drop (a + 2) = l.take a ++ (P ++ M) ++ D := by
  have h1 : (l.take (a + 2)).length = a + 2 := by rw [List.length_take]; omega
  rw [List.append_assoc (l.take (a + 2)), List.take_append_of_le_length (by omega), List.take_take, Nat.min_eq_left (by omega), List.drop_append, h1, Nat.sub_self, List.drop_zero, List.drop_of_length_le (by omega)]
  simp
theorem R16.spB {α : Type} (a m : Nat) (l P M : List α) (hP : P.length = 2) (hM : M.length = m) (h : a + 2 + m ≤ l.length) :
    (l.take a ++ P ++ l.drop (a + 2)).take (a + 2) ++ M ++ (l.take a ++ P ++ l.drop (a + 2)).drop (a + 2 + m) = l.take a ++ (P ++ M) ++ l.drop (a + 2 + m) := by
  have h1 : (l.take a ++ P).length = a + 2 := by rw [List.length_append, List.length_take]; omega
  rw [List.take_append_of_le_length (by omega), List.take_of_length_le (by omega), List.drop_append, h1, List.drop_of_length_le (by omega), List.drop_drop, show a + 2 + (a + 2 + m - (a + 2)) = a + 2 + m by omega]
  simp
theorem R16.mid (L : List R16.Cm) (p : R16.Cm) (i N : Nat) (hn : L.length = N) (hi : i ≤ N) (l D : List Value) (hl : l.take (i * 2) = R16.cellsL (L.take i)) :
    (l.take (i * 2) ++ (p.c ++ R16.cellsL (L.drop i)) ++ D).take ((N + 1) * 2) = R16.cellsL (L.take i ++ p :: L.drop i) := by
  rw [hl, R16.cellsL_append, R16.cellsL, List.take_append_of_le_length, List.take_of_length_le]
  · rw [List.length_append, List.length_append, R16.cellsL_len, R16.cellsL_len, R16.Cm.c_len, List.length_take, List.length_drop]; omega
  · rw [List.length_append, List.length_append, R16.cellsL_len, R16.cellsL_len, R16.Cm.c_len, List.length_take, List.length_drop]; omega

theorem szCm : ∀ w, (Go.sizeOf 60).run Try.prog w = .ok 2 w := fun w => by
  obtain ⟨i0, hi, hz0, hz1, hz2⟩ := info_parts infoCmZ
  simp [Go.sizeOf, Go.typeInfo, hi, hz1]

set_option maxHeartbeats 4000000 in
/-- slices.Insert in the middle: there is room. -/
theorem insertRoom_any (B g N i cap gv : Nat) (L : List R16.Cm) (p : R16.Cm) (w : World) (hn : L.length = N) (hi : i < N) (h0 : 0 < i) (h8 : N < 900) (hroom : N + 1 ≤ cap) (ho : w.ownsRow B 60 2 (.slice (some ⟨g, 0, none⟩) N cap) N (R16.cellsL L)) (hv : Row w gv 60 [.int .u64 (p.num : Int), .string p.tx]) (hgv : gv ≠ g) :
    Calls Try.prog 23 #[.slice (some ⟨g, 0, none⟩) N cap, .int .i64 (i : Int), .slice (some ⟨gv, 0, none⟩) 1 1] w fun e w' => ∃ v, e = .returned v ∧ w'.ownsRow B 60 2 v (N + 1) (R16.cellsL (L.take i ++ p :: L.drop i)) ∧ w.grownBy w' (some g) := by
  obtain ⟨i0, hi0, hz0, hz1, hz2⟩ := info_parts infoCmZ
  obtain ⟨hlen, hv0 | ⟨g', cap', cur, hv1, hBg, hg, hnc, hcm, hcs, ht⟩⟩ := ho
  · exact absurd hv0.1 (by simp)
  obtain rfl : g = g' := by simpa using congrArg (fun v => match v with | Value.slice (some a) _ _ => a.block | _ => 0) hv1
  obtain rfl : cap = cap' := by simpa using congrArg (fun v => match v with | Value.slice _ _ c => c | _ => 0) hv1
  clear hv1 hlen
  have hml : maxLen ≤ 9223372036854775807 := by unfold maxLen; omega
  have hc63 : cap ≤ 9223372036854775807 := Nat.le_trans hcm hml
  have hov : ∀ lb cb, (callFunc 30 #[.slice (some ⟨gv, 0, none⟩) 1 1, .slice (some ⟨g, (i + 1) * 2, none⟩) lb cb]).run Try.prog w = .ok (.value (.bool false)) w := fun lb cb => by
    rw [run_callFunc_extern Try.func30 (by kernel_rfl) (by kernel_rfl) (by kernel_rfl) (e := Extern.SlicesOverlaps.overlaps #[28, 28] #[4]) (by kernel_rfl),
      Lib.run_overlaps_apart w 28 4 60 Try.underlying28 2 szCm ⟨gv, 0, none⟩ ⟨g, (i + 1) * 2, none⟩ 1 1 lb cb hgv 60 60 2 (cap * 2) (by unfold Row at hv; simp [World.shape?, hv]) (by simp [World.shape?, hg, hcs]) (by omega) (hv.frozen 0) (hv.frozen 2)]
    rfl
  have hcl : cur.toList.length = cap * 2 := by rw [Array.length_toList, hcs]
  have hdl : (R16.cellsL (L.drop i)).length = (N - i) * 2 := by rw [R16.cellsL_len, List.length_drop, hn]
  have hp1 : ∀ j v, (R16.cellsL (L.drop i))[j]? = some v → w.drew.cell? ((⟨g, i * 2, none⟩ : Addr).add j) = some v := fun j v hj => by
    rw [R16.addrAdd]
    have h1 : cur.toList[i * 2 + j]? = some v := by
      rw [← R16.cellsL_drop, List.getElem?_drop, ← ht, List.getElem?_take] at hj
      split at hj
      · exact hj
      · cases hj
    show w.cell? _ = _
    simp only [World.cell?, hg]
    simpa using h1
  obtain ⟨C1, hC1⟩ : ∃ C1, C1 = cur.toList.take (i * 2 + 2) ++ R16.cellsL (L.drop i) ++ cur.toList.drop (i * 2 + 2 + (R16.cellsL (L.drop i)).length) := ⟨_, rfl⟩
  have hcp1 : ∀ ty dc sc, (Builtin.copy_ #[28, 28] ty #[.slice (some ⟨g, (i + 1) * 2, none⟩) (N - i) dc, .slice (some ⟨g, i * 2, none⟩) (N + 1 - i) sc]).run Try.prog w.drew = .ok (goInt ((N - i : Nat) : Int)) (w.drew.setRow g C1.toArray) := fun ty dc sc => by
    have := run_copy_rowk (P := Try.prog) w.drew 28 28 ty 60 2 g ((i + 1) * 2) (N - i) dc ⟨g, i * 2, none⟩ (N + 1 - i) sc (N - i) cur 60 (R16.cellsL (L.drop i)) Try.underlying28 infoCm hg (by simp only [Nat.min_def]; split <;> omega) hdl hp1 (by omega) (R16.cellsL_one _)
    rw [this, hC1, show (i + 1) * 2 = i * 2 + 2 by omega]
  have hC1l : C1.length = cap * 2 := by
    rw [hC1, List.length_append, List.length_append, List.length_take, List.length_drop]; omega
  obtain ⟨C2, hC2⟩ : ∃ C2, C2 = C1.take (i * 2) ++ p.c ++ C1.drop (i * 2 + p.c.length) := ⟨_, rfl⟩
  have hgA : (w.drew.setRow g C1.toArray).heap[g]? = some (.cells C1.toArray 60 (0, 0)) := setRow_heap w.drew g cur _ _ _ hg
  have hp2 : ∀ j v, p.c[j]? = some v → (w.drew.setRow g C1.toArray).cell? ((⟨gv, 0, none⟩ : Addr).add j) = some v := fun j v hj => by
    rw [R16.addrAdd, Nat.zero_add]
    have h1 : Row (w.drew.setRow g C1.toArray) gv 60 p.c := Row.setRow_other (w := w.drew) hv hgv _
    rw [h1.cell]; exact hj
  have hcp2 : ∀ ty dc, (Builtin.copy_ #[28, 28] ty #[.slice (some ⟨g, i * 2, none⟩) (N + 1 - i) dc, .slice (some ⟨gv, 0, none⟩) 1 1]).run Try.prog (w.drew.setRow g C1.toArray) = .ok (goInt ((1 : Nat) : Int)) ((w.drew.setRow g C1.toArray).setRow g C2.toArray) := fun ty dc => by
    have := run_copy_rowk (P := Try.prog) (w.drew.setRow g C1.toArray) 28 28 ty 60 2 g (i * 2) (N + 1 - i) dc ⟨gv, 0, none⟩ 1 1 1 C1.toArray 60 p.c Try.underlying28 infoCm hgA (by simp only [Nat.min_def]; split <;> omega) rfl hp2 (by have := p.c_len; simp; omega) p.c_one
    rw [this, hC2, List.toList_toArray]
  have hC2e : C2 = cur.toList.take (i * 2) ++ (p.c ++ R16.cellsL (L.drop i)) ++ cur.toList.drop (i * 2 + 2 + (R16.cellsL (L.drop i)).length) := by
    rw [hC2, hC1, R16.Cm.c_len]; exact R16.spA (i * 2) _ _ _ _ p.c_len (by omega)
  have hfin : ((w.drew.setRow g C1.toArray).setRow g C2.toArray).ownsRow B 60 2 (.slice (some ⟨g, 0, none⟩) (N + 1) cap) (N + 1) (R16.cellsL (L.take i ++ p :: L.drop i)) := by
    refine ⟨by rw [R16.cellsL_len, List.length_append, List.length_cons, List.length_take, List.length_drop]; omega, .inr ⟨g, cap, C2.toArray, rfl, hBg, setRow_heap _ g _ _ _ _ hgA, hroom, hcm, ?_, ?_⟩⟩
    · rw [hC2e]; simp only [List.size_toArray, List.length_append, List.length_take, List.length_drop, R16.Cm.c_len]; omega
    · rw [List.toList_toArray, hC2e]
      refine R16.mid L p i N hn (by omega) _ _ ?_
      rw [← R16.cellsL_take, ← ht, List.take_take, Nat.min_eq_left (by omega)]
  have hgr : w.grownBy ((w.drew.setRow g C1.toArray).setRow g C2.toArray) (some g) := ⟨rfl, rfl, rfl, by simp [World.setRow], fun k hk hne => by
    rw [setRow_other _ g k _ (fun e => hne (by rw [e])), setRow_other _ g k _ (fun e => hne (by rw [e]))]; rfl⟩
  have e2 : ¬ ((i : Int) = (N : Int)) := by omega
  have e3 : ¬ ((cap : Int) < (N : Int) + 1) := by omega
  have hw1 : IntKind.i64.wrap ((i : Int) + 1) = (i : Int) + 1 := by rw [IntKind.wrap_i64]; omega
  have hw2 : IntKind.i64.wrap ((N : Int) + 1) = (N : Int) + 1 := by rw [IntKind.wrap_i64]; omega
  have hb1 : (0 : Int) ≤ (i : Int) + 1 := by omega
  have htn : ((i : Int) + 1).toNat = i + 1 := by omega
  have hb2 : ¬ (cap = i + 1) := by omega
  have hb3 : (i : Int) ≤ (N : Int) + 1 := by omega
  have hb4 : ¬ (cap = i) := by omega
  have hin : i ≤ N := by omega
  have mixed : Try.prog.follows Departure.mixedOrders = true := by kernel_rfl
  have HFIN := Lib.hid hfin
  have HGR := Lib.hid hgr
  obtain ⟨WB, hWB⟩ : ∃ W, W = (w.drew.setRow g C1.toArray).setRow g C2.toArray := ⟨_, rfl⟩
  rw [← hWB] at HFIN HGR hcp2
  clear hfin hgr hC2e hgA hp2 hp1 hC1 hC2 hC1l hdl hcl ht hcs hcm hml hg hn hWB
  go_enter Try.func23, Try.ntmps23
  go_wp2_with (simp only [hov])
  go_region_law_o (refine step_copy_runI rfl _ _ 28 28 rfl _ _ (by simp [Act.eval, Act.put]) (by simp [Act.eval, Act.put]) (hcp1 _ _ _) ?_)
  go_wp2_with (at_builtin; refine wpList_copy_runI _ rfl _ _ 28 28 rfl _ _ rfl rfl (hcp2 _ _) ?_)
  go_ret
  exact ⟨_, rfl, HFIN.out, HGR.out⟩
set_option maxHeartbeats 4000000 in
/-- slices.Insert in the middle: there is no room. -/
theorem insertGrow_any (B g N i cap gv : Nat) (L : List R16.Cm) (p : R16.Cm) (w : World) (hn : L.length = N) (hi : i < N) (h0 : 0 < i) (h8 : N < 900) (hroom : ¬ N + 1 ≤ cap) (hB : B ≤ w.heap.size) (ho : w.ownsRow B 60 2 (.slice (some ⟨g, 0, none⟩) N cap) N (R16.cellsL L)) (hv : Row w gv 60 [.int .u64 (p.num : Int), .string p.tx]) :
    Calls Try.prog 23 #[.slice (some ⟨g, 0, none⟩) N cap, .int .i64 (i : Int), .slice (some ⟨gv, 0, none⟩) 1 1] w fun e w' => ∃ v, e = .returned v ∧ w'.ownsRow B 60 2 v (N + 1) (R16.cellsL (L.take i ++ p :: L.drop i)) ∧ w.grownBy w' (some g) := by
  obtain ⟨i0, hi0, hz0, hz1, hz2⟩ := info_parts infoCmZ
  have hat := R16.CmAt.of_owns ho
  obtain ⟨hlen, hv0 | ⟨g', cap', cur, hv1, hBg, hg, hnc, hcm, hcs, ht⟩⟩ := ho
  · exact absurd hv0.1 (by simp)
  obtain rfl : g = g' := by simpa using congrArg (fun v => match v with | Value.slice (some a) _ _ => a.block | _ => 0) hv1
  obtain rfl : cap = cap' := by simpa using congrArg (fun v => match v with | Value.slice _ _ c => c | _ => 0) hv1
  clear hv1 hlen ht hcs hg
  have hml : maxLen ≤ 9223372036854775807 := by unfold maxLen; omega
  have hlg : g < w.heap.size := hat.lt
  have hlv : gv < w.heap.size := hv.lt
  have hXl : (R16.cellsL (L.take i)).length = i * 2 := by rw [R16.cellsL_len, List.length_take]; omega
  have hdl : (R16.cellsL (L.drop i)).length = (N - i) * 2 := by rw [R16.cellsL_len, List.length_drop, hn]
  have hold : (Builtin.firstCells i0.size i (.slice (some ⟨g, 0, none⟩) i cap)).run Try.prog w.drew = .ok (R16.cellsL (L.take i)).toArray w.drew := by
    rw [hz1]
    exact run_firstCells_some w.drew 2 i ⟨g, 0, none⟩ i cap _ hXl (fun j v hj => by
      rw [R16.addrAdd]
      rw [← R16.cellsL_take, List.getElem?_take] at hj
      split at hj
      · exact hat.cellAt hj
      · cases hj)
  have hkk : (N : Int) + 1 - (i : Int) = ((N + 1 - i : Nat) : Int) := by omega
  have hik : i + (N + 1 - i) = N + 1 := by omega
  have hrz : ∀ ty, (Builtin.append_ #[28, 3] ty #[.slice (some ⟨g, 0, none⟩) i cap, .int .i64 ((N : Int) + 1 - (i : Int))]).run Try.prog w =
      .ok (.slice (some ⟨w.heap.size, 0, none⟩) (N + 1) (grownCap w (N + 1) cap 60)) (w.drew.alloc (.cells ((R16.cellsL (L.take i)).toArray ++ Builtin.zeroCells (Value.agg #[.int .u64 0, .string ⟨#[]⟩]).cells (N + 1 - i) ++ Builtin.zeroCells (Value.agg #[.int .u64 0, .string ⟨#[]⟩]).cells (grownCap w (N + 1) cap 60 - (N + 1))) 60)) := fun ty => by
    have h := Lib.run_append_grow_zeros w 28 3 ty 60 i0 _ .i64 .i64 Try.underlying28 Try.underlying3 hi0 hz0 (some ⟨g, 0, none⟩) i cap _ hold (N + 1 - i) (by omega) (by omega) (by omega) (by omega) (by rw [hz2]; omega) (by rw [hz2, hik]; exact growslice_fits (by omega) (by omega))
    rw [hik] at h
    rw [hkk]
    exact h
  obtain ⟨G, hG⟩ : ∃ G, G = grownCap w (N + 1) cap 60 := ⟨_, rfl⟩
  rw [← hG] at hrz
  have hGn : N + 1 ≤ G := by rw [hG]; exact grownCap_ge w _ _ _
  have hGm : G ≤ maxLen := by rw [hG]; exact grownCap_le_maxLen w (N + 1) cap _ (by unfold maxLen; omega)
  have hG63 : G ≤ 9223372036854775807 := Nat.le_trans hGm hml
  obtain ⟨R0, hR0⟩ : ∃ R0 : List Value, R0 = R16.cellsL (L.take i) ++ (Builtin.zeroCells (Value.agg #[.int .u64 0, .string ⟨#[]⟩]).cells (N + 1 - i) ++ Builtin.zeroCells (Value.agg #[.int .u64 0, .string ⟨#[]⟩]).cells (G - (N + 1))).toList := ⟨_, rfl⟩
  have hR0a : (R16.cellsL (L.take i)).toArray ++ Builtin.zeroCells (Value.agg #[.int .u64 0, .string ⟨#[]⟩]).cells (N + 1 - i) ++ Builtin.zeroCells (Value.agg #[.int .u64 0, .string ⟨#[]⟩]).cells (G - (N + 1)) = R0.toArray := by
    rw [hR0]; apply Array.toList_inj.1; simp
  have hR0l : R0.length = G * 2 := by
    rw [hR0, List.length_append, hXl, Array.length_toList, Array.size_append, size_zeroCells, size_zeroCells]
    have : ((Value.agg #[.int .u64 0, .string ⟨#[]⟩]).cells).size = 2 := by rfl
    rw [this]; omega
  rw [hR0a] at hrz
  obtain ⟨W1, hW1⟩ : ∃ W1, W1 = w.drew.alloc (.cells R0.toArray 60) := ⟨_, rfl⟩
  rw [← hW1] at hrz
  have hg1 : W1.heap[w.heap.size]? = some (.cells R0.toArray 60 (0, 0)) := by rw [hW1]; exact heap_alloc_new w.drew _
  have hv1 : Row W1 gv 60 p.c := by rw [hW1]; exact Row.alloc (w := w.drew) hv _
  have ha1 : R16.CmAt W1 g 0 L := by rw [hW1]; exact hat.drew.alloc _
  obtain ⟨R1, hR1⟩ : ∃ R1, R1 = R0.take (i * 2) ++ p.c ++ R0.drop (i * 2 + p.c.length) := ⟨_, rfl⟩
  have hp1 : ∀ j v, p.c[j]? = some v → W1.cell? ((⟨gv, 0, none⟩ : Addr).add j) = some v := fun j v hj => by
    rw [R16.addrAdd, Nat.zero_add, hv1.cell]; exact hj
  have hcpA : ∀ ty dc, (Builtin.copy_ #[28, 28] ty #[.slice (some ⟨w.heap.size, i * 2, none⟩) (N + 1 - i) dc, .slice (some ⟨gv, 0, none⟩) 1 1]).run Try.prog W1 = .ok (goInt ((1 : Nat) : Int)) (W1.setRow w.heap.size R1.toArray) := fun ty dc => by
    have := run_copy_rowk (P := Try.prog) W1 28 28 ty 60 2 w.heap.size (i * 2) (N + 1 - i) dc ⟨gv, 0, none⟩ 1 1 1 R0.toArray 60 p.c Try.underlying28 infoCm hg1 (by simp only [Nat.min_def]; split <;> omega) rfl hp1 (by have := p.c_len; simp; omega) p.c_one
    rw [this, hR1, List.toList_toArray]
  have hR1l : R1.length = G * 2 := by rw [hR1, List.length_append, List.length_append, List.length_take, List.length_drop, R16.Cm.c_len]; omega
  obtain ⟨W2, hW2⟩ : ∃ W2, W2 = W1.setRow w.heap.size R1.toArray := ⟨_, rfl⟩
  rw [← hW2] at hcpA
  have hg2 : W2.heap[w.heap.size]? = some (.cells R1.toArray 60 (0, 0)) := by rw [hW2]; exact setRow_heap W1 _ _ _ _ _ hg1
  have ha2 : R16.CmAt W2 g 0 L := by rw [hW2]; exact ha1.setRow (by omega) _
  obtain ⟨R2, hR2⟩ : ∃ R2, R2 = R1.take (i * 2 + 2) ++ R16.cellsL (L.drop i) ++ R1.drop (i * 2 + 2 + (R16.cellsL (L.drop i)).length) := ⟨_, rfl⟩
  have hp2 : ∀ j v, (R16.cellsL (L.drop i))[j]? = some v → W2.drew.cell? ((⟨g, i * 2, none⟩ : Addr).add j) = some v := fun j v hj => by
    rw [R16.addrAdd]
    have := (ha2.drew.from (i := i) (by omega)).cellAt hj
    rwa [Nat.zero_add] at this
  have hcpB : ∀ ty dc sc, (Builtin.copy_ #[28, 28] ty #[.slice (some ⟨w.heap.size, (i + 1) * 2, none⟩) (N - i) dc, .slice (some ⟨g, i * 2, none⟩) (N - i) sc]).run Try.prog W2.drew = .ok (goInt ((N - i : Nat) : Int)) (W2.drew.setRow w.heap.size R2.toArray) := fun ty dc sc => by
    have := run_copy_rowk (P := Try.prog) W2.drew 28 28 ty 60 2 w.heap.size ((i + 1) * 2) (N - i) dc ⟨g, i * 2, none⟩ (N - i) sc (N - i) R1.toArray 60 (R16.cellsL (L.drop i)) Try.underlying28 infoCm hg2 (by simp only [Nat.min_def]; split <;> omega) hdl hp2 (by simp; omega) (R16.cellsL_one _)
    rw [this, hR2, show (i + 1) * 2 = i * 2 + 2 by omega, List.toList_toArray]
  have hR2e : R2 = R0.take (i * 2) ++ (p.c ++ R16.cellsL (L.drop i)) ++ R0.drop (i * 2 + 2 + (R16.cellsL (L.drop i)).length) := by
    rw [hR2, hR1, R16.Cm.c_len]; exact R16.spB (i * 2) _ _ _ _ p.c_len rfl (by omega)
  have hfin : (W2.drew.setRow w.heap.size R2.toArray).ownsRow B 60 2 (.slice (some ⟨w.heap.size, 0, none⟩) (N + 1) G) (N + 1) (R16.cellsL (L.take i ++ p :: L.drop i)) := by
    refine ⟨by rw [R16.cellsL_len, List.length_append, List.length_cons, List.length_take, List.length_drop]; omega, .inr ⟨w.heap.size, G, R2.toArray, rfl, hB, setRow_heap W2.drew _ _ _ _ _ hg2, hGn, hGm, ?_, ?_⟩⟩
    · rw [hR2e]; simp only [List.size_toArray, List.length_append, List.length_take, List.length_drop, R16.Cm.c_len]; omega
    · rw [List.toList_toArray, hR2e]
      refine R16.mid L p i N hn (by omega) _ _ ?_
      rw [hR0, List.take_append_of_le_length (by omega), List.take_of_length_le (by omega)]
  have hgr : w.grownBy (W2.drew.setRow w.heap.size R2.toArray) (some g) := by
    subst hW2; subst hW1
    refine ⟨rfl, rfl, rfl, by simp [World.setRow], fun k hk hne => ?_⟩
    rw [setRow_other _ _ k _ (by omega)]
    show ((w.drew.alloc _).setRow w.heap.size _).heap[k]? = _
    rw [setRow_other _ _ k _ (by omega)]
    first | exact heap_alloc_old w.drew _ hk | exact heap_alloc_old w.drew _ k hk
  have e2 : ¬ ((i : Int) = (N : Int)) := by omega
  have e3 : (cap : Int) < (N : Int) + 1 := by omega
  have hw1 : IntKind.i64.wrap ((i : Int) + 1) = (i : Int) + 1 := by rw [IntKind.wrap_i64]; omega
  have hw2 : IntKind.i64.wrap ((N : Int) + 1) = (N : Int) + 1 := by rw [IntKind.wrap_i64]; omega
  have hw3 : IntKind.i64.wrap ((N : Int) + 1 - (i : Int)) = (N : Int) + 1 - (i : Int) := by rw [IntKind.wrap_i64]; omega
  have hb1 : (0 : Int) ≤ (i : Int) + 1 := by omega
  have htn : ((i : Int) + 1).toNat = i + 1 := by omega
  have hb2 : ¬ (G = i + 1) := by omega
  have hb3 : (i : Int) ≤ (N : Int) + 1 := by omega
  have hb4 : ¬ (cap = i) := by omega
  have hb5 : ¬ (G = i) := by omega
  have hb6 : (i : Int) ≤ (N : Int) := by omega
  have hb7 : (i : Int) ≤ (cap : Int) := by omega
  have hb8 : i ≤ cap := by omega
  have hc63 : cap ≤ 9223372036854775807 := by omega
  have hin : i ≤ N := by omega
  have mixed : Try.prog.follows Departure.mixedOrders = true := by kernel_rfl
  have HFIN := Lib.hid hfin
  have HGR := Lib.hid hgr
  obtain ⟨W3, hW3⟩ : ∃ W, W = W2.drew.setRow w.heap.size R2.toArray := ⟨_, rfl⟩
  rw [← hW3] at HFIN HGR hcpB
  obtain ⟨H, hH⟩ : ∃ H, H = w.heap.size := ⟨_, rfl⟩
  rw [← hH] at HFIN hcpA hcpB hrz
  clear hfin hgr hR2e hg2 hg1 hp2 hp1 hR0 hR1 hR2 hR0a hR0l hR1l hXl hdl hml hat ha1 ha2 hv hv1 hn hW1 hW2 hW3 hG hkk hik hold hH hlg hlv hcm
  go_enter Try.func23, Try.ntmps23
  go_wp2_with (first
    | (at_builtin; refine Lib.wpList_append_run _ rfl _ _ _ _ rfl _ _ rfl rfl _ _ (hrz _) ?_)
    | (at_builtin; refine wpList_copy_runI _ rfl _ _ 28 28 rfl _ _ rfl rfl (hcpA _ _) ?_))
  go_region_law_o (refine step_copy_runI rfl _ _ 28 28 rfl _ _ (by simp [Act.eval, Act.put]) (by simp [Act.eval, Act.put]) (hcpB _ _ _) ?_)
  go_wp2
  go_ret
  exact ⟨_, rfl, HFIN.out, HGR.out⟩
end Go.Proofs.Ytjfhinhakanhaaa
