/-
  Several texts in one module: SCopy, RPush, ACopy.
-/
import Derived.Test.YtjkaignfomlflaaGreatMod4
import Derived.Laws.CopyOwn
import Derived.Lib.BufferWrite
import Derived.ArgAppend
import Derived.Laws.IdiomStrings
/-
  Layer 3: copy of a text's beginning into a row of bytes, however long the text; a block of a text.
-/
namespace Go.Proofs.YtjkaignfomlflaaGreat
open Go.RowKit
set_option linter.unusedVariables false
set_option maxRecDepth 20000

theorem cellsOf_one (l : List UInt8) : ∀ v ∈ W.cellsOf l, v.oneCell' = true := by
  intro v hv
  obtain ⟨x, _, rfl⟩ := List.mem_map.1 hv
  rfl
theorem cellsOf_all (l : List UInt8) : (W.cellsOf l).toArray.all (·.oneCell') = true := by simp [W.cellsOf, Value.oneCell']
theorem cellsOf_len (l : List UInt8) : (W.cellsOf l).length = l.length := by simp [W.cellsOf]

/-- copy(dst, s): as many bytes as both have. -/
theorem run_copy_text {P : Program} (w : World) (dT sT ty elem : TypeId) (g o dLen dCap k : Nat) (s : ByteArray) (cur : List Value) (t : TypeId)
    (hu : P.underlying dT = some (.slice elem)) (hs : (P.info? elem).map (·.size) = some 1) (hg : w.heap[g]? = some (.cells cur.toArray t (0, 0))) (hk : Nat.min s.size dLen = k) (hfit : o + k ≤ cur.length) :
    (Builtin.copy_ #[dT, sT] ty #[.slice (some ⟨g, o, none⟩) dLen dCap, .string s]).run P w =
      .ok (goInt k) (w.setRow g (splice cur o (W.cellsOf (s.data.toList.take k))).toArray) := by
  have hks : k ≤ s.size := by rw [← hk]; exact Nat.min_le_left _ _
  have hlen : (W.cellsOf (s.data.toList.take k)).length = k := by rw [cellsOf_len, List.length_take]; simp; omega
  have hst := run_storeCells_at P g o t (W.cellsOf (s.data.toList.take k)) 0 cur.toArray w hg (by rw [hlen]; simpa using hfit) (cellsOf_one _)
  have htk : List.take k (List.map (fun b : UInt8 => Value.int IntKind.u8 (b.toNat : Int)) s.data.toList) = W.cellsOf (s.data.toList.take k) := by
    simp [W.cellsOf, List.map_take]
  rw [hlen] at hst
  simp only [Nat.add_zero] at hst
  cases hq : P.info? elem with
  | none => simp [hq] at hs
  | some i =>
    simp [Builtin.copy_, run_underlying hu, Builtin.lenOf, Builtin.firstCells, sizeOf, typeInfo, hq, hk]
    rw [htk, hst]
    simp [Result.andThen, splice, hlen]

/-- .. as one step of a region that draws. -/
theorem step_copy_text {P : Program} {ops : Array Oper} {o : Oper} {a : Act} {w : World} {K : Act → World → Prop} {Q : Exit → Act → World → Prop} {E : Prop} (hgd : o.guard = none) (d x : Operand) (dT sT : TypeId)
    (ho : o.op = .call { callee := .builtin .copy, args := #[d, x], argTypes := #[dT, sT] }) (elem : TypeId) (hu : P.underlying dT = some (.slice elem)) (hs : (P.info? elem).map (·.size) = some 1)
    (g off dLen dCap k : Nat) (hd : a.eval d = .slice (some ⟨g, off, none⟩) dLen dCap) (s : ByteArray) (hx : a.eval x = .string s) (cur : List Value) (t : TypeId) (hg : Row w g t cur) (hk : Nat.min s.size dLen = k) (hfit : off + k ≤ cur.length)
    (h : ∀ w', Hid (Row w' g t (splice cur off (W.cellsOf (s.data.toList.take k)))) → Below g w w' → K (a.put o.dst (goInt k)) w') :
    if Region.wanted o (yielded ops a.tmps) = true then Oper.wp P o a w K Q else E := by
  have hw : Region.wanted o (yielded ops a.tmps) = true := by simp [Region.wanted, hgd]
  rw [if_pos hw]
  have hrun := run_copy_text (P := P) w dT sT o.type elem g off dLen dCap k s cur t hu hs hg hk hfit
  unfold Oper.wp
  simp [execOp, ho, resolve, invoke, builtin, hd, hx, hrun, Result.andThen]
  exact h _ (hg.setRow _) (below_row (Below.refl _ _) (Nat.le_refl _) _)

theorem splice_all {cur cs : List Value} (h : cs.length = cur.length) : splice cur 0 cs = cs := by simp [splice, h]

set_option maxHeartbeats 1000000 in
theorem blockAt_any (s : ByteArray) (at' : Nat) (hs : at' + 64 ≤ s.size) (hm : s.size ≤ 10000000) (w : World) :
    Calls Tryz.prog 74 #[.string s, .int .i64 at'] w fun e w' => e = .returned (.agg (W.cellsOf ((s.data.toList.drop at').take 64)).toArray) ∧ Below w.heap.size w w' := by
  obtain ⟨b, hb⟩ : ∃ b, b = (s.data.toList.drop at').take 64 := ⟨_, rfl⟩
  have hbl : b.length = 64 := by rw [hb, List.length_take, List.length_drop]; simp; omega
  have hex : (s.extract at' s.size).size - 64 + 64 = (s.extract at' s.size).size := by rw [ByteArray.size_extract]; omega
  have hes : (s.extract at' s.size).data.toList.take 64 = b := by
    rw [hb, ByteArray.data_extract]
    simp only [Array.toList_extract, List.extract_eq_take_drop]
    rw [List.take_take, Nat.min_eq_left (by omega)]
  have hi : (Tryz.prog.info? 81).map (·.size) = some (W.cellsOf b).toArray.size := by rw [List.size_toArray, cellsOf_len, hbl]; kernel_rfl
  rw [← hb]
  have HE := Lib.hid hes
  have HBL := Lib.hid hbl
  have ha0 : (at' : Int) ≤ (s.size : Int) := by omega
  have HM : Hid (Nat.min (s.extract at' s.size).size 64 = 64) := Nat.min_eq_right (by omega)
  clear hb hbl hes hex
  go_enter Tryz.func74, Tryz.ntmps74
  go_wp2
  go_region_law (refine step_copy_text rfl (.tmp 6) (.tmp 9) 49 9 rfl 5 Tryz.underlying49 (by kernel_rfl) (w.heap.size + 1) 0 64 64 64 rfl _ rfl _ _ (Row.new' (l := W.cellsOf (List.replicate 64 0)) rfl (by simp)).drew HM.out (by simp [cellsOf_len]) ?_; intro w1 h1 b1)
  have r1 : Row w1 (w.heap.size + 1) 81 (W.cellsOf b) := by
    have := h1.out
    rw [HE.out, splice_all (by rw [cellsOf_len, cellsOf_len, HBL.out]; rfl)] at this
    exact this
  have r0 : Row w1 w.heap.size 81 (W.cellsOf (List.replicate 64 0)) := ((Row.new' rfl rfl).alloc _).drew.below b1 (by omega)
  have b2 : Below w.heap.size w w1 := ((((Below.refl _ _).alloc (Nat.le_refl _) _).alloc (by simp) _).drew).trans (b1.mono (by omega))
  clear h1 b1
  go_wp2_with (first | refine wpList_load_row rfl 81 _ rfl (w.heap.size + 1) rfl _ _ _ _ r1 Tryz.underlying81 rfl hi ?_ | refine wpList_store_row rfl 81 (.tmp 4) (.tmp 11) rfl w.heap.size _ rfl rfl _ _ r0 hi (by simp [cellsOf_len, HBL.out]) (cellsOf_all _) ?_)
  exact bodyPost_ret (results_cell_row rfl _ _ w.heap.size _ _ _ _ rfl (r0.setRow (W.cellsOf b)) Tryz.underlying81 rfl hi) rfl ⟨rfl, below_row b2 (Nat.le_refl _) _⟩

end Go.Proofs.YtjkaignfomlflaaGreat

/-
  Laws of no program: a row of bytes that a call made, byte by byte appended to, also one that a text was converted to.
-/
namespace Go.Proofs.YtjkaignfomlflaaGreat
open Go.RowKit
set_option linter.unusedVariables false
set_option maxRecDepth 20000

/-- A slice of the call's own, told by its cells: its bytes, and what it has room for. -/
def IsBytes (w : World) (B : Nat) (v : Value) (l : List UInt8) : Prop :=
  ∃ g cap, v = .slice (some ⟨g, 0, none⟩) l.length cap ∧ B ≤ g ∧ g < w.heap.size ∧ l.length ≤ cap ∧ cap ≤ maxLen ∧ (∀ j u, (W.cellsOf l)[j]? = some u → w.cell? ⟨g, j, none⟩ = some u) ∧
    ∀ j, l.length ≤ j → j < cap → (w.cell? ⟨g, j, none⟩).isSome = true ∧ w.frozen? ⟨g, j, none⟩ = false

theorem IsBytes.heap {w w' : World} {B : Nat} {v : Value} {l : List UInt8} (h : IsBytes w B v l) (hs : w.heap.size ≤ w'.heap.size) (hh : ∀ k, k < w.heap.size → w'.heap[k]? = w.heap[k]?) : IsBytes w' B v l := by
  obtain ⟨g, cap, h1, h2, h3, h4, h5, h6, h7⟩ := h
  have c : ∀ j, w'.cell? ⟨g, j, none⟩ = w.cell? ⟨g, j, none⟩ := fun j => by unfold World.cell?; simp only [hh g h3]
  have f : ∀ j, w'.frozen? ⟨g, j, none⟩ = w.frozen? ⟨g, j, none⟩ := fun j => by unfold World.frozen?; simp only [hh g h3]
  exact ⟨g, cap, h1, h2, by omega, h4, h5, fun j u hj => by rw [c]; exact h6 j u hj, fun j a b => by rw [c, f]; exact h7 j a b⟩
theorem IsBytes.alloc {w : World} {B : Nat} {v : Value} {l : List UInt8} (h : IsBytes w B v l) (o : Obj) : IsBytes (w.alloc o) B v l :=
  h.heap (by simp) (fun k hk => by show (w.heap.push o)[k]? = _; rw [Array.getElem?_push, if_neg (Nat.ne_of_lt hk)])

theorem cellsOf_snoc (l : List UInt8) (c : UInt8) : W.cellsOf (l ++ [c]) = W.cellsOf l ++ [.int .u8 (c.toNat : Int)] := by simp [W.cellsOf]

theorem hgrow_below {B : Nat} {w w' : World} (h : w.grownBy w' none) (hB : B ≤ w.heap.size) : Below B w w' :=
  (Below.refl B w).grown h hB (by simp)

/-- One byte more. -/
theorem wpList_push {P : Program} (w : World) {ops : Array Oper} {rest : List Oper} {o : Oper} {a : Act} {Q : Exit → Act → World → Prop}
    (hg : o.guard = none) (s x : Operand) (t : TypeId) (hop : o.op = Op.call { callee := Callee.builtin Builtin.append, args := #[s, x], argTypes := #[t, t] })
    (e : TypeId) (i : TypeInfo) (h1 : P.underlying t = some (.slice e)) (h2 : P.info? e = some i) (h3 : i.zero = some (.int .u8 0)) (h4 : i.size = 1) (h5 : i.bytes = 1)
    (B : Nat) (v : Value) (l : List UInt8) (hs : a.eval s = v) (hv : IsBytes w B v l) (hBw : B ≤ w.heap.size)
    (ad : Addr) (c : UInt8) (hx : a.eval x = .slice (some ad) 1 1) (hc : w.cell? ad = some (.int .u8 (c.toNat : Int))) (hl : l.length ≤ 100000000)
    (hK : ∀ v' w', IsBytes w' B v' (l ++ [c]) → Below B w w' → wpList P ops Q rest (a.put o.dst v') w') : wpList P ops Q (o :: rest) a w := by
  obtain ⟨g, cap, rfl, hB, hlt, hle, hm, hcell, hsp⟩ := hv
  have hnews : ∀ (j : Nat) u, ([Value.int .u8 (c.toNat : Int)] : List Value)[j]? = some u → w.cell? (ad.add j) = some u := by
    intro j u hj
    match j, hj with
    | 0, hj => simp at hj; subst hj; rw [show ad.add 0 = ad from by unfold Addr.add; split <;> simp_all]; exact hc
  refine wpList_append_arg w hg s x t hop e i (.int .u8 0) 1 1 h1 h2 h3 h4 h5 rfl (by decide) g 0 l.length cap (W.cellsOf l) hs (by rw [cellsOf_len]; omega) (fun j u hj => by rw [Nat.zero_add]; exact hcell j u hj)
    ad 1 1 [.int .u8 (c.toNat : Int)] hx rfl hnews (by intro u hu; simp at hu; subst hu; rfl) (fun hr j hj => ?_) (by unfold maxLen; omega) (by omega) (fun hr => ?_) (fun hgr v' w' ho hgrow => ?_)
  · obtain rfl : j = 0 := by simpa using hj
    rw [show 0 + l.length * 1 + 0 = l.length from by omega]
    exact hsp l.length (Nat.le_refl _) (by omega)
  · rw [show 0 + l.length * 1 = l.length from by omega]
    show wpList P ops Q rest (a.put o.dst (.slice (some ⟨g, 0, none⟩) (l.length + 1) cap)) (w.setCell ⟨g, l.length, none⟩ (.int .u8 (c.toNat : Int)))
    have hsome := hsp l.length (Nat.le_refl _) (by omega)
    obtain ⟨u0, hu0⟩ := Option.isSome_iff_exists.1 hsome.1
    refine hK _ _ ⟨g, cap, by simp, hB, by simpa [World.setCell] using hlt, by simpa using hr, hm, fun j u hj => ?_, fun j hj1 hj2 => ?_⟩ ((Below.refl _ _).setCell hB _)
    · rw [cellsOf_snoc] at hj
      by_cases hjl : j < l.length
      · rw [World.cell?_setCell_other _ _ _ _ (fun h => by cases h; omega)]
        rw [List.getElem?_append_left (by rw [cellsOf_len]; exact hjl)] at hj
        exact hcell j u hj
      · rw [List.getElem?_append_right (by rw [cellsOf_len]; omega), cellsOf_len] at hj
        have hj0 : j - l.length = 0 := by
          by_cases h0 : j - l.length = 0
          · exact h0
          · rw [List.getElem?_eq_none (by simp; omega)] at hj; cases hj
        obtain rfl : j = l.length := by omega
        rw [hj0] at hj
        simp at hj
        subst hj
        exact World.cell?_setCell_same _ _ _ hu0
    · simp at hj1
      rw [World.cell?_setCell_other _ _ _ _ (fun h => by cases h; omega), World.frozen?_setCell]
      exact hsp j (by omega) hj2
  · refine hK v' w' ?_ (hgrow_below hgrow hBw)
    rw [← cellsOf_snoc] at ho
    rcases ho.2 with ⟨_, h0⟩ | ⟨g', cap', cur, rfl, hb', hh, hn', hm', hs', ht'⟩
    · omega
    · have hlt' : g' < w'.heap.size := (ho.lt g' rfl).2
      refine ⟨g', cap', by simp, by omega, hlt', by simpa using hn', hm', fun j u hj => ?_, fun j hj1 hj2 => ?_⟩
      · have hjl : j < (l ++ [c]).length := by
          by_cases h0 : j < (l ++ [c]).length
          · exact h0
          · rw [List.getElem?_eq_none (by rw [cellsOf_len]; omega)] at hj; cases hj
        rw [ho.cellAt j (by simp at hjl; omega)]
        exact hj
      · refine ⟨?_, ?_⟩
        · rw [cell_of_row w' g' j cur e (0, 0) hh, Array.getElem?_eq_getElem (by omega)]; rfl
        · exact frozen_of_row w' g' j cur e hh

end Go.Proofs.YtjkaignfomlflaaGreat

/-
  Laws of no program: copy of a text into a row of bytes.
-/
namespace Go.Proofs.YtjkaignfomlflaaGreat
open Go.RowKit
set_option linter.unusedVariables false
set_option maxRecDepth 20000

/-- copy(dst, s): as many bytes as both have. -/
theorem copyS_run {P : Program} (w : World) (dT sT ty elem : TypeId) (g o dLen dCap k : Nat) (s : ByteArray) (cur : List Value) (t : TypeId)
    (hu : P.underlying dT = some (.slice elem)) (hs : (P.info? elem).map (·.size) = some 1) (hg : w.heap[g]? = some (.cells cur.toArray t (0, 0))) (hk : Nat.min s.size dLen = k) (hfit : o + k ≤ cur.length) :
    (Builtin.copy_ #[dT, sT] ty #[.slice (some ⟨g, o, none⟩) dLen dCap, .string s]).run P w =
      .ok (goInt k) (w.setRow g (splice cur o (W.cellsOf (s.data.toList.take k))).toArray) := by
  have hks : k ≤ s.size := by rw [← hk]; exact Nat.min_le_left _ _
  have hlen : (W.cellsOf (s.data.toList.take k)).length = k := by rw [c8_len, List.length_take]; simp; omega
  have hst := run_storeCells_at P g o t (W.cellsOf (s.data.toList.take k)) 0 cur.toArray w hg (by rw [hlen]; simpa using hfit) (c8_one _)
  have htk : List.take k (List.map (fun b : UInt8 => Value.int IntKind.u8 (b.toNat : Int)) s.data.toList) = W.cellsOf (s.data.toList.take k) := by
    simp [W.cellsOf, List.map_take]
  rw [hlen] at hst
  simp only [Nat.add_zero] at hst
  cases hq : P.info? elem with
  | none => simp [hq] at hs
  | some i =>
    simp [Builtin.copy_, run_underlying hu, Builtin.lenOf, Builtin.firstCells, sizeOf, typeInfo, hq, hk]
    rw [htk, hst]
    simp [Result.andThen, splice, hlen]

theorem wp_copyS {P : Program} {o : Oper} {a : Act} {w : World} {K : Act → World → Prop} {Q : Exit → Act → World → Prop} (d x : Operand) (dT sT : TypeId)
    (ho : o.op = .call { callee := .builtin .copy, args := #[d, x], argTypes := #[dT, sT] }) (elem : TypeId) (hu : P.underlying dT = some (.slice elem)) (hs : (P.info? elem).map (·.size) = some 1)
    (g off dLen dCap k : Nat) (hd : a.eval d = .slice (some ⟨g, off, none⟩) dLen dCap) (s : ByteArray) (hx : a.eval x = .string s) (cur : List Value) (t : TypeId) (hg : Row w g t cur) (hk : Nat.min s.size dLen = k) (hfit : off + k ≤ cur.length)
    (h : K (a.put o.dst (goInt k)) (w.setRow g (splice cur off (W.cellsOf (s.data.toList.take k))).toArray)) : o.wp P a w K Q := by
  have hrun := copyS_run (P := P) w dT sT o.type elem g off dLen dCap k s cur t hu hs hg hk hfit
  unfold Oper.wp
  simp [execOp, ho, resolve, invoke, builtin, hd, hx, hrun, Result.andThen]
  exact h

theorem wpList_copyS {P : Program} {ops : Array Oper} {rest : List Oper} {o : Oper} {a : Act} {w : World} {Q : Exit → Act → World → Prop} (hgd : o.guard = none) (d x : Operand) (dT sT : TypeId)
    (ho : o.op = .call { callee := .builtin .copy, args := #[d, x], argTypes := #[dT, sT] }) (elem : TypeId) (hu : P.underlying dT = some (.slice elem)) (hs : (P.info? elem).map (·.size) = some 1)
    (g off dLen dCap k : Nat) (hd : a.eval d = .slice (some ⟨g, off, none⟩) dLen dCap) (s : ByteArray) (hx : a.eval x = .string s) (cur : List Value) (t : TypeId) (hg : Row w g t cur) (hk : Nat.min s.size dLen = k) (hfit : off + k ≤ cur.length)
    (h : wpList P ops Q rest (a.put o.dst (goInt k)) (w.setRow g (splice cur off (W.cellsOf (s.data.toList.take k))).toArray)) : wpList P ops Q (o :: rest) a w :=
  wpList_plain hgd fun _ hK => wp_copyS d x dT sT ho elem hu hs g off dLen dCap k hd s hx cur t hg hk hfit (hK _ _ h)

end Go.Proofs.YtjkaignfomlflaaGreat
