/-
  Plain mathematics for layer 3: a block's words, byte by byte; rows of cells in a world. No condition.
-/
import Derived.Test.YtngoighdpmeepaaSPlain
import Derived.Laws.Rows
import Derived.Below
import Derived.Deep.Quiet
namespace Go.Proofs.Ytngoighdpmeepaa
open Go.RowKit
set_option linter.unusedVariables false

/-- Words as cells. -/
def u32s (l : List Nat) : List Value := l.map fun (x : Nat) => Value.int .u32 (x : Int)
theorem u32s_length (l : List Nat) : (u32s l).length = l.length := by simp [u32s]
theorem u32s_at {l : List Nat} {i : Nat} (h : i < l.length) : (u32s l)[i]? = some (Value.int .u32 ((l.getD i 0 : Nat) : Int)) := by
  simp [u32s, h]
theorem u32s_set (l : List Nat) (i x : Nat) : (u32s l).set i (Value.int .u32 (x : Int)) = u32s (l.set i x) := by simp [u32s, List.map_set]
theorem u32s_one (l : List Nat) : (u32s l).toArray.all (·.oneCell') = true := by simp [u32s, Value.oneCell']
theorem u32s_cell (l : List Nat) : ∀ v ∈ u32s l, v.oneCell' = true := by
  intro v hv
  obtain ⟨x, _, rfl⟩ := List.mem_map.1 hv
  rfl
theorem u32s_append (a b : List Nat) : u32s (a ++ b) = u32s a ++ u32s b := by simp [u32s]

/-- A block of the memory holds these cells, and may be written. -/
def Row (w : World) (g : Nat) (t : TypeId) (l : List Value) : Prop := w.heap[g]? = some (.cells l.toArray t (0, 0))
theorem Row.cell {w : World} {g t : Nat} {l : List Value} (h : Row w g t l) (i : Nat) : w.cell? ⟨g, i, none⟩ = l[i]? := by
  rw [cell_of_row w g i _ t _ h]; simp
theorem Row.frozen {w : World} {g t : Nat} {l : List Value} (h : Row w g t l) (i : Nat) : w.frozen? ⟨g, i, none⟩ = false := frozen_of_row w g i _ t h
theorem Row.lt {w : World} {g t : Nat} {l : List Value} (h : Row w g t l) : g < w.heap.size := by
  by_cases hlt : g < w.heap.size
  · exact hlt
  · unfold Row at h; rw [Array.getElem?_eq_none (by omega)] at h; cases h
theorem Row.src {w : World} {g t : Nat} {l : List Value} (h : Row w g t l) : ∀ (j : Nat) v, l[j]? = some v → w.cell? ((⟨g, 0, none⟩ : Addr).add j) = some v := by
  intro j v hj
  have e : (⟨g, 0, none⟩ : Addr).add j = ⟨g, j, none⟩ := by unfold Addr.add; split <;> simp_all
  rw [e, h.cell, hj]
theorem Row.set {w : World} {g t : Nat} {l : List Value} (h : Row w g t l) (i : Nat) (v : Value) : Row (w.setCell ⟨g, i, none⟩ v) g t (l.set i v) := by
  unfold Row
  rw [heap_setCell_same w g i _ t v h]
  simp
theorem Row.other {w : World} {g t : Nat} {l : List Value} (h : Row w g t l) {k i : Nat} (hk : g ≠ k) (v : Value) : Row (w.setCell ⟨k, i, none⟩ v) g t l := by
  unfold Row
  rw [heap_setCell_other _ _ _ _ hk]; exact h
theorem Row.drew {w : World} {g t : Nat} {l : List Value} (h : Row w g t l) : Row w.drew g t l := h
theorem Row.drewN {w : World} {g t : Nat} {l : List Value} (h : Row w g t l) : ∀ n, Row (w.drewN n) g t l
  | 0 => h
  | n + 1 => Row.drewN (w := w) h n
theorem Row.alloc {w : World} {g t : Nat} {l : List Value} (h : Row w g t l) (o : Obj) : Row (w.alloc o) g t l := by
  show (w.heap.push o)[g]? = _; rw [Array.getElem?_push, if_neg (Nat.ne_of_lt h.lt)]; exact h
theorem Row.below {w w' : World} {B g t : Nat} {l : List Value} (h : Row w g t l) (hb : Below B w w') (hg : g < B) : Row w' g t l := by
  unfold Row; rw [hb.block g hg]; exact h
theorem Row.new (w : World) (t : TypeId) (l : List Value) : Row (w.alloc (.cells l.toArray t (0, 0))) w.heap.size t l := by show (w.heap.push _)[w.heap.size]? = _; simp
theorem Row.new' {w : World} {t : TypeId} {l : List Value} {A : Array Value} {g : Nat} (hA : A = l.toArray) (hg : g = w.heap.size) : Row (w.alloc (.cells A t (0, 0))) g t l := by subst hA; subst hg; exact Row.new w t l
theorem Row.setRow {w : World} {g t : Nat} {l : List Value} (h : Row w g t l) (l' : List Value) : Row (w.setRow g l'.toArray) g t l' := setRow_heap w g _ _ t _ h
theorem Row.setRow_other {w : World} {g t : Nat} {l : List Value} (h : Row w g t l) {k : Nat} (hk : g ≠ k) (l' : Array Value) : Row (w.setRow k l') g t l := by
  unfold Row; rw [Go.setRow_other w k g l' hk]; exact h
theorem below_row {B g : Nat} {a w : World} (h : Below B a w) (hg : B ≤ g) (cs : Array Value) : Below B a (w.setRow g cs) :=
  h.trans ⟨rfl, rfl, rfl, by simp [World.setRow], fun k hk => Go.setRow_other w g k cs (by omega)⟩
theorem below_drewM {B : Nat} {a w : World} (h : Below B a w) : ∀ q, Below B a (w.drewN q)
  | 0 => h
  | q + 1 => (below_drewM h q).drew

theorem setRow_last (w : World) (c c' : Array Value) (t : TypeId) : (w.alloc (.cells c t (0, 0))).setRow w.heap.size c' = w.alloc (.cells c' t (0, 0)) := by
  simp only [World.setRow, World.alloc]
  congr 1
  apply Array.ext_getElem?
  intro i
  rw [Array.getElem?_modify]
  by_cases h : w.heap.size = i
  · subst h; simp
  · have h' : ¬ i = w.heap.size := fun e => h e.symm
    simp [h, h', Array.getElem?_push]

/-- A whole array into the block that was laid last. -/
theorem wpList_store_new {P : Program} {ops : Array Oper} {rest : List Oper} {o : Oper} {a : Act} {Q : Exit → Act → World → Prop} (hgd : o.guard = none) (ty : TypeId) (x y : Operand) (ho : o.op = .store ty x y)
    (w : World) (c c' : Array Value) (t : TypeId) (g : Nat) (hx : a.eval x = .pointer (some ⟨g, 0, none⟩)) (hg : g = w.heap.size) (hy : a.eval y = .agg c') (hi : (P.info? ty).map (·.size) = some c'.size)
    (hold : c.size = c'.size) (h1 : c'.all (·.oneCell') = true)
    (h : wpList P ops Q rest (a.put o.dst undef) (w.alloc (.cells c' t (0, 0)))) : wpList P ops Q (o :: rest) a (w.alloc (.cells c t (0, 0))) := by
  subst hg
  refine wpList_store_row hgd ty x y ho w.heap.size c' hx hy t c (by show (w.heap.push _)[w.heap.size]? = _; simp) hi hold h1 ?_
  rw [setRow_last]; exact h

namespace S
open W

/-- The words behind so many bytes. -/
def fw (b : List UInt8) (j : Nat) : List Nat := (List.range 16).map fun i => getN (((b.take j).drop (4 * i)).take 4)
theorem fw_length (b : List UInt8) (j : Nat) : (fw b j).length = 16 := by simp [fw]
theorem fw_zero (b : List UInt8) : fw b 0 = List.replicate 16 0 := by simp [fw, getN, List.map_const']
theorem fw_full (b : List UInt8) (hb : b.length = 64) : fw b 64 = words16 b := by
  unfold fw words16; rw [List.take_of_length_le (by omega)]
theorem fw_at (b : List UInt8) (j : Nat) (hj : j < 64) : (fw b j).getD (j / 4) 0 = getN ((b.take j).drop (4 * (j / 4))) := by
  simp only [fw, List.getD_eq_getElem?_getD, List.getElem?_map]
  rw [List.getElem?_range (by omega)]
  simp only [Option.map_some, Option.getD_some]
  rw [List.take_of_length_le]
  simp; omega
theorem fw_lt (b : List UInt8) (j : Nat) (hj : j < 64) : (fw b j).getD (j / 4) 0 < 16777216 := by
  rw [fw_at b j hj]
  have h1 := getN_lt ((b.take j).drop (4 * (j / 4)))
  have h2 : ((b.take j).drop (4 * (j / 4))).length ≤ 3 := by simp; omega
  have h3 : 256 ^ ((b.take j).drop (4 * (j / 4))).length ≤ 256 ^ 3 := Nat.pow_le_pow_right (by decide) h2
  have h4 : (256 : Nat) ^ 3 = 16777216 := by decide
  omega
theorem fw_step (b : List UInt8) (hb : b.length = 64) (j : Nat) (hj : j < 64) :
    (fw b j).set (j / 4) ((fw b j).getD (j / 4) 0 * 256 + (b[j]'(by omega)).toNat) = fw b (j + 1) := by
  apply List.ext_getElem
  · simp [fw]
  · intro i h1 h2
    have hi : i < 16 := by simpa [fw] using h2
    rw [List.getElem_set]
    by_cases e : j / 4 = i
    · rw [if_pos e, fw_at b j hj]
      subst e
      simp only [fw, List.getElem_map, List.getElem_range]
      rw [List.take_succ_eq_append_getElem (i := j) (l := b) (by omega), List.drop_append_of_le_length (by simp; omega), List.take_of_length_le (i := 4) (by simp; omega), getN_snoc]
    · rw [if_neg e]
      simp only [fw, List.getElem_map, List.getElem_range]
      congr 1
      by_cases hlt : i < j / 4
      · rw [List.take_succ_eq_append_getElem (i := j) (l := b) (by omega), List.drop_append_of_le_length (by simp; omega), List.take_append_of_le_length (by simp; omega)]
      · rw [List.drop_eq_nil_of_le (by simp; omega), List.drop_eq_nil_of_le (by simp; omega)]

end S
end Go.Proofs.Ytngoighdpmeepaa
