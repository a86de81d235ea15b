/-
  Several texts in one module: SCopy, ACopy.
-/
import Derived.Test.YtbkeodgiflfakaaMod6
import Derived.Laws.CopyOwn
import Derived.Lib.BufferWrite
/-
  Layer 3: copy of a text's beginning into a row of bytes, however long the text; a block of a text.
-/
namespace Go.Proofs.Ytbkeodgiflfakaa
open Go.RowKit
set_option linter.unusedVariables false
set_option maxRecDepth 20000

theorem cellsOf_one (l : List UInt8) : ∀ v ∈ W.cellsOf l, v.oneCell' = true := by
  intro v hv
  obtain ⟨x, _, rfl⟩ := List.mem_map.1 hv
  rfl
theorem cellsOf_all (l : List UInt8) : (W.cellsOf l).toArray.all (·.oneCell') = true := by simp [W.cellsOf, Value.oneCell']
theorem cellsOf_len (l : List UInt8) : (W.cellsOf l).length = l.length := by simp [W.cellsOf]

/-- copy(dst, s): as many bytes as both have. -/
theorem run_copy_text {P : Program} (w : World) (dT sT ty elem : TypeId) (g o dLen dCap k : Nat) (s : ByteArray) (cur : List Value) (t : TypeId)
    (hu : P.underlying dT = some (.slice elem)) (hs : (P.info? elem).map (·.size) = some 1) (hg : w.heap[g]? = some (.cells cur.toArray t (0, 0))) (hk : Nat.min s.size dLen = k) (hfit : o + k ≤ cur.length) :
    (Builtin.copy_ #[dT, sT] ty #[.slice (some ⟨g, o, none⟩) dLen dCap, .string s]).run P w =
      .ok (goInt k) (w.setRow g (splice cur o (W.cellsOf (s.data.toList.take k))).toArray) := by
  have hks : k ≤ s.size := by rw [← hk]; exact Nat.min_le_left _ _
  have hlen : (W.cellsOf (s.data.toList.take k)).length = k := by rw [cellsOf_len, List.length_take]; simp; omega
  have hst := run_storeCells_at P g o t (W.cellsOf (s.data.toList.take k)) 0 cur.toArray w hg (by rw [hlen]; simpa using hfit) (cellsOf_one _)
  have htk : List.take k (List.map (fun b : UInt8 => Value.int IntKind.u8 (b.toNat : Int)) s.data.toList) = W.cellsOf (s.data.toList.take k) := by
    simp [W.cellsOf, List.map_take]
  rw [hlen] at hst
  simp only [Nat.add_zero] at hst
  cases hq : P.info? elem with
  | none => simp [hq] at hs
  | some i =>
    simp [Builtin.copy_, run_underlying hu, Builtin.lenOf, Builtin.firstCells, sizeOf, typeInfo, hq, hk]
    rw [htk, hst]
    simp [Result.andThen, splice, hlen]

/-- .. as one step of a region that draws. -/
theorem step_copy_text {P : Program} {ops : Array Oper} {o : Oper} {a : Act} {w : World} {K : Act → World → Prop} {Q : Exit → Act → World → Prop} {E : Prop} (hgd : o.guard = none) (d x : Operand) (dT sT : TypeId)
    (ho : o.op = .call { callee := .builtin .copy, args := #[d, x], argTypes := #[dT, sT] }) (elem : TypeId) (hu : P.underlying dT = some (.slice elem)) (hs : (P.info? elem).map (·.size) = some 1)
    (g off dLen dCap k : Nat) (hd : a.eval d = .slice (some ⟨g, off, none⟩) dLen dCap) (s : ByteArray) (hx : a.eval x = .string s) (cur : List Value) (t : TypeId) (hg : Row w g t cur) (hk : Nat.min s.size dLen = k) (hfit : off + k ≤ cur.length)
    (h : ∀ w', Hid (Row w' g t (splice cur off (W.cellsOf (s.data.toList.take k)))) → Below g w w' → K (a.put o.dst (goInt k)) w') :
    if Region.wanted o (yielded ops a.tmps) = true then Oper.wp P o a w K Q else E := by
  have hw : Region.wanted o (yielded ops a.tmps) = true := by simp [Region.wanted, hgd]
  rw [if_pos hw]
  have hrun := run_copy_text (P := P) w dT sT o.type elem g off dLen dCap k s cur t hu hs hg hk hfit
  unfold Oper.wp
  simp [execOp, ho, resolve, invoke, builtin, hd, hx, hrun, Result.andThen]
  exact h _ (hg.setRow _) (below_row (Below.refl _ _) (Nat.le_refl _) _)

theorem splice_all {cur cs : List Value} (h : cs.length = cur.length) : splice cur 0 cs = cs := by simp [splice, h]

set_option maxHeartbeats 1000000 in
theorem blockAt_any (s : ByteArray) (at' : Nat) (hs : at' + 64 ≤ s.size) (hm : s.size ≤ 10000000) (w : World) :
    Calls Try.prog 81 #[.string s, .int .i64 at'] w fun e w' => e = .returned (.agg (W.cellsOf ((s.data.toList.drop at').take 64)).toArray) ∧ Below w.heap.size w w' := by
  obtain ⟨b, hb⟩ : ∃ b, b = (s.data.toList.drop at').take 64 := ⟨_, rfl⟩
  have hbl : b.length = 64 := by rw [hb, List.length_take, List.length_drop]; simp; omega
  have hex : (s.extract at' s.size).size - 64 + 64 = (s.extract at' s.size).size := by rw [ByteArray.size_extract]; omega
  have hes : (s.extract at' s.size).data.toList.take 64 = b := by
    rw [hb, ByteArray.data_extract]
    simp only [Array.toList_extract, List.extract_eq_take_drop]
    rw [List.take_take, Nat.min_eq_left (by omega)]
  have hi : (Try.prog.info? 110).map (·.size) = some (W.cellsOf b).toArray.size := by rw [List.size_toArray, cellsOf_len, hbl]; kernel_rfl
  rw [← hb]
  have HE := Lib.hid hes
  have HBL := Lib.hid hbl
  have ha0 : (at' : Int) ≤ (s.size : Int) := by omega
  have HM : Hid (Nat.min (s.extract at' s.size).size 64 = 64) := Nat.min_eq_right (by omega)
  clear hb hbl hes hex
  go_enter Try.func81, Try.ntmps81
  go_wp2
  go_region_law (refine step_copy_text rfl (.tmp 6) (.tmp 9) 78 9 rfl 5 Try.underlying78 (by kernel_rfl) (w.heap.size + 1) 0 64 64 64 rfl _ rfl _ _ (Row.new' (l := W.cellsOf (List.replicate 64 0)) rfl (by simp)).drew HM.out (by simp [cellsOf_len]) ?_; intro w1 h1 b1)
  have r1 : Row w1 (w.heap.size + 1) 110 (W.cellsOf b) := by
    have := h1.out
    rw [HE.out, splice_all (by rw [cellsOf_len, cellsOf_len, HBL.out]; rfl)] at this
    exact this
  have r0 : Row w1 w.heap.size 110 (W.cellsOf (List.replicate 64 0)) := ((Row.new' rfl rfl).alloc _).drew.below b1 (by omega)
  have b2 : Below w.heap.size w w1 := ((((Below.refl _ _).alloc (Nat.le_refl _) _).alloc (by simp) _).drew).trans (b1.mono (by omega))
  clear h1 b1
  go_wp2_with (first | refine wpList_load_row rfl 110 _ rfl (w.heap.size + 1) rfl _ _ _ _ r1 Try.underlying110 rfl hi ?_ | refine wpList_store_row rfl 110 (.tmp 4) (.tmp 11) rfl w.heap.size _ rfl rfl _ _ r0 hi (by simp [cellsOf_len, HBL.out]) (cellsOf_all _) ?_)
  exact bodyPost_ret (results_cell_row rfl _ _ w.heap.size _ _ _ _ rfl (r0.setRow (W.cellsOf b)) Try.underlying110 rfl hi) rfl ⟨rfl, below_row b2 (Nat.le_refl _) _⟩

end Go.Proofs.Ytbkeodgiflfakaa

/-
  Laws of no program: copy of a text into a row of bytes.
-/
namespace Go.Proofs.Ytbkeodgiflfakaa
open Go.RowKit
set_option linter.unusedVariables false
set_option maxRecDepth 20000

/-- copy(dst, s): as many bytes as both have. -/
theorem copyS_run {P : Program} (w : World) (dT sT ty elem : TypeId) (g o dLen dCap k : Nat) (s : ByteArray) (cur : List Value) (t : TypeId)
    (hu : P.underlying dT = some (.slice elem)) (hs : (P.info? elem).map (·.size) = some 1) (hg : w.heap[g]? = some (.cells cur.toArray t (0, 0))) (hk : Nat.min s.size dLen = k) (hfit : o + k ≤ cur.length) :
    (Builtin.copy_ #[dT, sT] ty #[.slice (some ⟨g, o, none⟩) dLen dCap, .string s]).run P w =
      .ok (goInt k) (w.setRow g (splice cur o (W.cellsOf (s.data.toList.take k))).toArray) := by
  have hks : k ≤ s.size := by rw [← hk]; exact Nat.min_le_left _ _
  have hlen : (W.cellsOf (s.data.toList.take k)).length = k := by rw [c8_len, List.length_take]; simp; omega
  have hst := run_storeCells_at P g o t (W.cellsOf (s.data.toList.take k)) 0 cur.toArray w hg (by rw [hlen]; simpa using hfit) (c8_one _)
  have htk : List.take k (List.map (fun b : UInt8 => Value.int IntKind.u8 (b.toNat : Int)) s.data.toList) = W.cellsOf (s.data.toList.take k) := by
    simp [W.cellsOf, List.map_take]
  rw [hlen] at hst
  simp only [Nat.add_zero] at hst
  cases hq : P.info? elem with
  | none => simp [hq] at hs
  | some i =>
    simp [Builtin.copy_, run_underlying hu, Builtin.lenOf, Builtin.firstCells, sizeOf, typeInfo, hq, hk]
    rw [htk, hst]
    simp [Result.andThen, splice, hlen]

theorem wp_copyS {P : Program} {o : Oper} {a : Act} {w : World} {K : Act → World → Prop} {Q : Exit → Act → World → Prop} (d x : Operand) (dT sT : TypeId)
    (ho : o.op = .call { callee := .builtin .copy, args := #[d, x], argTypes := #[dT, sT] }) (elem : TypeId) (hu : P.underlying dT = some (.slice elem)) (hs : (P.info? elem).map (·.size) = some 1)
    (g off dLen dCap k : Nat) (hd : a.eval d = .slice (some ⟨g, off, none⟩) dLen dCap) (s : ByteArray) (hx : a.eval x = .string s) (cur : List Value) (t : TypeId) (hg : Row w g t cur) (hk : Nat.min s.size dLen = k) (hfit : off + k ≤ cur.length)
    (h : K (a.put o.dst (goInt k)) (w.setRow g (splice cur off (W.cellsOf (s.data.toList.take k))).toArray)) : o.wp P a w K Q := by
  have hrun := copyS_run (P := P) w dT sT o.type elem g off dLen dCap k s cur t hu hs hg hk hfit
  unfold Oper.wp
  simp [execOp, ho, resolve, invoke, builtin, hd, hx, hrun, Result.andThen]
  exact h

theorem wpList_copyS {P : Program} {ops : Array Oper} {rest : List Oper} {o : Oper} {a : Act} {w : World} {Q : Exit → Act → World → Prop} (hgd : o.guard = none) (d x : Operand) (dT sT : TypeId)
    (ho : o.op = .call { callee := .builtin .copy, args := #[d, x], argTypes := #[dT, sT] }) (elem : TypeId) (hu : P.underlying dT = some (.slice elem)) (hs : (P.info? elem).map (·.size) = some 1)
    (g off dLen dCap k : Nat) (hd : a.eval d = .slice (some ⟨g, off, none⟩) dLen dCap) (s : ByteArray) (hx : a.eval x = .string s) (cur : List Value) (t : TypeId) (hg : Row w g t cur) (hk : Nat.min s.size dLen = k) (hfit : off + k ≤ cur.length)
    (h : wpList P ops Q rest (a.put o.dst (goInt k)) (w.setRow g (splice cur off (W.cellsOf (s.data.toList.take k))).toArray)) : wpList P ops Q (o :: rest) a w :=
  wpList_plain hgd fun _ hK => wp_copyS d x dT sT ho elem hu hs g off dLen dCap k hd s hx cur t hg hk hfit (hK _ _ h)

end Go.Proofs.Ytbkeodgiflfakaa
