/-
  Layer 8: buffers in memory; (*buffer).fill.
-/
import Derived.Test.YtealpdofcgbnlaaACopy
namespace Go.Proofs.Ytealpdofcgbnlaa
open Go.RowKit
set_option linter.unusedVariables false

/-- Beside the blocks lo .. hi - 1 all that was there is as it was. -/
structure Out (lo hi : Nat) (w w' : World) : Prop where
  os : w'.os = w.os
  tape : w'.tape = w.tape
  output : w'.output = w.output
  size : w.heap.size ≤ w'.heap.size
  block : ∀ k, k < w.heap.size → (k < lo ∨ hi ≤ k) → w'.heap[k]? = w.heap[k]?
theorem Out.refl (lo hi : Nat) (w : World) : Out lo hi w w := ⟨rfl, rfl, rfl, Nat.le_refl _, fun _ _ _ => rfl⟩
theorem Out.trans {lo hi : Nat} {a b c : World} (h : Out lo hi a b) (k : Out lo hi b c) : Out lo hi a c :=
  ⟨k.os.trans h.os, k.tape.trans h.tape, k.output.trans h.output, Nat.le_trans h.size k.size, fun i hi ho => (k.block i (Nat.lt_of_lt_of_le hi h.size) ho).trans (h.block i hi ho)⟩
theorem Out.mono {lo hi lo' hi' : Nat} {a b : World} (h : Out lo hi a b) (h1 : lo' ≤ lo) (h2 : hi ≤ hi') : Out lo' hi' a b :=
  ⟨h.os, h.tape, h.output, h.size, fun i hi ho => h.block i hi (by omega)⟩
theorem Out.of {lo hi : Nat} {a b : World} (h : Below a.heap.size a b) : Out lo hi a b := ⟨h.os, h.tape, h.output, h.size, fun k hk _ => h.block k hk⟩
theorem Out.below {lo hi : Nat} {a b : World} (h : Out lo hi a b) (hs : lo ≤ a.heap.size) : Below lo a b := ⟨h.os, h.tape, h.output, h.size, fun k hk => h.block k (by omega) (.inl hk)⟩
theorem Out.belowB {lo hi B : Nat} {a b : World} (h : Out lo hi a b) (hs : B ≤ a.heap.size) (hB : B ≤ lo) : Below B a b := ⟨h.os, h.tape, h.output, h.size, fun k hk => h.block k (by omega) (.inl (by omega))⟩
theorem Out.drew {lo hi : Nat} {a b : World} (h : Out lo hi a b) : Out lo hi a b.drew := ⟨h.os, h.tape, h.output, h.size, h.block⟩
theorem Out.setRow {lo hi : Nat} {a w : World} (h : Out lo hi a w) {g : Nat} (h1 : lo ≤ g) (h2 : g < hi) (cs : Array Value) : Out lo hi a (w.setRow g cs) :=
  h.trans ⟨rfl, rfl, rfl, by simp [World.setRow], fun k _ ho => setRow_other w g k cs (by omega)⟩
theorem Out.setCell {lo hi : Nat} {a w : World} (h : Out lo hi a w) {g i : Nat} (h1 : lo ≤ g) (h2 : g < hi) (v : Value) : Out lo hi a (w.setCell ⟨g, i, none⟩ v) :=
  h.trans ⟨rfl, rfl, rfl, by simp [World.setCell], fun k _ ho => Below.heap_setCell _ _ _ _ (by show k ≠ g; omega)⟩
theorem Out.row {lo hi : Nat} {w w' : World} {g t : Nat} {l : List Value} (h : Out lo hi w w') (r : Row w g t l) (ho : g < lo ∨ hi ≤ g) : Row w' g t l := by
  unfold Row; rw [h.block g r.lt ho]; exact r
theorem Out.setSize {w : World} {g : Nat} {cs : Array Value} : (w.setRow g cs).heap.size = w.heap.size := by simp [World.setRow]

/-- clear(s): as many noughts. -/
theorem clear_run {P : Program} (w : World) (t e ty : TypeId) (z : Value) (ht : P.underlying t = some (.slice e)) (hv : ∀ w, (zeroValue e).run P w = .ok z w) (hz : z.cells = #[z]) (h1 : z.oneCell' = true) (g n c : Nat) (cur : List Value) (tt : TypeId)
    (hg : Row w g tt cur) (hn : 0 < n) (hfit : n ≤ cur.length) :
    (Builtin.clear_ #[t] ty #[.slice (some ⟨g, 0, none⟩) n c]).run P w = .ok (.tuple #[]) (w.setRow g (splice cur 0 (List.replicate n z)).toArray) := by
  have hzc : (Builtin.zeroCells z.cells n).toList = List.replicate n z := by
    rw [hz]
    simp [Builtin.zeroCells]
    apply List.ext_getElem
    · simp
    · intro i h1 h2
      simp [Nat.mod_one]
  have hst := run_storeCells_at P g 0 tt (List.replicate n z) 0 cur.toArray w hg (by simpa using hfit) (by intro v hv'; rw [List.eq_of_mem_replicate hv']; exact h1)
  simp only [Nat.add_zero] at hst
  obtain ⟨m, rfl⟩ : ∃ m, n = m + 1 := ⟨n - 1, by omega⟩
  simp [Builtin.clear_, run_underlying ht, hv, hzc, hst, splice]

theorem wpList_clear {P : Program} {ops : Array Oper} {rest : List Oper} {o : Oper} {a : Act} {w : World} {Q : Exit → Act → World → Prop} (hgd : o.guard = none) (d : Operand) (dT : TypeId)
    (ho : o.op = .call { callee := .builtin .clear, args := #[d], argTypes := #[dT] }) (e : TypeId) (z : Value) (ht : P.underlying dT = some (.slice e)) (hv : ∀ w, (zeroValue e).run P w = .ok z w) (hz : z.cells = #[z]) (h1 : z.oneCell' = true)
    (g n c : Nat) (hd : a.eval d = .slice (some ⟨g, 0, none⟩) n c) (cur : List Value) (tt : TypeId) (hg : Row w g tt cur) (hn : 0 < n) (hfit : n ≤ cur.length)
    (h : wpList P ops Q rest (a.put o.dst (.tuple #[])) (w.setRow g (splice cur 0 (List.replicate n z)).toArray)) : wpList P ops Q (o :: rest) a w := by
  refine wpList_plain hgd fun K hK => ?_
  have hrun := clear_run (P := P) w dT e o.type z ht hv hz h1 g n c cur tt hg hn hfit
  unfold Oper.wp
  simp [execOp, ho, resolve, invoke, builtin, hd, hrun, Result.andThen]
  exact hK _ _ h

namespace P8
/-- A buffer's cells. -/
def bufC (x : List UInt8) (n : Nat) (h : Bool) : List Value := W.cellsOf x ++ [.int .i64 (n : Int), .bool h]
/-- A text, and noughts behind it. -/
def pad (s : List UInt8) : List UInt8 := s ++ List.replicate (512 - s.length) 0
theorem pad_length {s : List UInt8} (h : s.length ≤ 512) : (pad s).length = 512 := by simp [pad]; omega
theorem bufC_length {x : List UInt8} (hx : x.length = 512) (n : Nat) (h : Bool) : (bufC x n h).length = 514 := by simp [bufC, c8_len, hx]
theorem zeros_cells (n : Nat) : List.replicate n (Value.int .u8 0) = W.cellsOf (List.replicate n 0) := by simp [W.cellsOf]
theorem bufC_clear {x : List UInt8} (hx : x.length = 512) (n : Nat) (h : Bool) : splice (bufC x n h) 0 (List.replicate 512 (.int .u8 0)) = bufC (List.replicate 512 0) n h := by
  rw [zeros_cells]
  unfold splice bufC
  rw [List.take_zero, List.nil_append, c8_len, List.length_replicate, Nat.zero_add, List.drop_append, List.drop_of_length_le (by rw [c8_len, hx]; exact Nat.le_refl _), c8_len, hx]
  rfl
theorem bufC_copy {s : List UInt8} (hs : s.length ≤ 512) (n : Nat) (h : Bool) : splice (bufC (List.replicate 512 0) n h) 0 (W.cellsOf s) = bufC (pad s) n h := by
  have hd : (W.cellsOf (List.replicate 512 0)).drop s.length = W.cellsOf (List.replicate (512 - s.length) 0) := by
    unfold W.cellsOf
    rw [← List.map_drop, List.drop_replicate]
  have hz : s.length - (W.cellsOf (List.replicate 512 (0 : UInt8))).length = 0 := by
    rw [c8_len, List.length_replicate]; omega
  unfold splice bufC
  rw [List.take_zero, List.nil_append, c8_len, Nat.zero_add, List.drop_append, hd, hz, List.drop_zero, ← List.append_assoc, ← c8_append]
  rfl
theorem bufC_size {x : List UInt8} (hx : x.length = 512) (n m : Nat) (h : Bool) : (bufC x n h).set 512 (.int .i64 (m : Int)) = bufC x m h := by
  unfold bufC
  rw [List.set_append_right _ _ (by rw [c8_len, hx]; exact Nat.le_refl _), c8_len, hx]
  rfl
theorem bufC_held {x : List UInt8} (hx : x.length = 512) (n : Nat) (h h' : Bool) : (bufC x n h).set 513 (.bool h') = bufC x n h' := by
  unfold bufC
  rw [List.set_append_right _ _ (by rw [c8_len, hx]; omega), c8_len, hx]
  rfl
theorem bufC_at512 {x : List UInt8} (hx : x.length = 512) (n : Nat) (h : Bool) : (bufC x n h)[512]? = some (.int .i64 (n : Int)) := by
  unfold bufC
  rw [List.getElem?_append_right (by rw [c8_len, hx]; exact Nat.le_refl _), c8_len, hx]
  rfl
theorem bufC_at513 {x : List UInt8} (hx : x.length = 512) (n : Nat) (h : Bool) : (bufC x n h)[513]? = some (.bool h) := by
  unfold bufC
  rw [List.getElem?_append_right (by rw [c8_len, hx]; omega), c8_len, hx]
  rfl
end P8

theorem infoU8size : (Try.prog.info? 5).map (·.size) = some 1 := by kernel_rfl
theorem zeroU8 : ∀ w, (zeroValue 5).run Try.prog w = .ok (.int .u8 0) w := by
  intro w
  have h : (Try.prog.info? 5).map (fun i => i.zero) = some (some (.int .u8 0)) := by kernel_rfl
  cases hq : Try.prog.info? 5 with
  | none => simp [hq] at h
  | some i =>
    simp [hq] at h
    simp [zeroValue, typeInfo, hq, h]

set_option maxHeartbeats 1000000 in
theorem fill_any (q : Nat) (x : List UInt8) (n : Nat) (h : Bool) (s : ByteArray) (w : World) (hx : x.length = 512) (hs : s.size ≤ 512) (r : Row w q 62 (P8.bufC x n h)) :
    Calls Try.prog 22 #[.pointer (some ⟨q, 0, none⟩), .string s] w fun e w' => e = .returned (.tuple #[]) ∧ Row w' q 62 (P8.bufC (P8.pad s.data.toList) s.size h) ∧ Out q (q + 1) w w' ∧ w'.heap.size = w.heap.size := by
  have h1 := clear_run (P := Try.prog) w 53 5 0 (.int .u8 0) Try.underlying53 zeroU8 rfl rfl q 512 512 _ _ r (by decide) (by rw [P8.bufC_length hx]; decide)
  rw [P8.bufC_clear hx] at h1
  have r1 : Row (w.setRow q (P8.bufC (List.replicate 512 0) n h).toArray) q 62 (P8.bufC (List.replicate 512 0) n h) := r.setRow _
  have o1 : Out q (q + 1) w (w.setRow q (P8.bufC (List.replicate 512 0) n h).toArray) := (Out.refl _ _ _).setRow (Nat.le_refl _) (by omega) _
  have z1 : (w.setRow q (P8.bufC (List.replicate 512 0) n h).toArray).heap.size = w.heap.size := Out.setSize
  generalize w.setRow q (P8.bufC (List.replicate 512 0) n h).toArray = w1 at *
  have hsl : s.data.toList.length = s.size := by simp
  have hpl := P8.pad_length (s := s.data.toList) (by rw [hsl]; exact hs)
  have h2 := copyS_run (P := Try.prog) w1 53 9 3 5 q 0 512 512 s.size s _ _ Try.underlying53 infoU8size r1 (Nat.min_eq_left hs) (by rw [P8.bufC_length List.length_replicate]; omega)
  rw [List.take_of_length_le (by rw [hsl]; exact Nat.le_refl _), P8.bufC_copy (by rw [hsl]; exact hs)] at h2
  have r2 : Row (w1.setRow q (P8.bufC (P8.pad s.data.toList) n h).toArray) q 62 (P8.bufC (P8.pad s.data.toList) n h) := r1.setRow _
  have o2 : Out q (q + 1) w (w1.setRow q (P8.bufC (P8.pad s.data.toList) n h).toArray) := o1.setRow (Nat.le_refl _) (by omega) _
  have z2 : (w1.setRow q (P8.bufC (P8.pad s.data.toList) n h).toArray).heap.size = w.heap.size := Out.setSize.trans z1
  generalize w1.setRow q (P8.bufC (P8.pad s.data.toList) n h).toArray = w2 at *
  generalize P8.pad s.data.toList = F at *
  have r3 := r2.set 512 (.int .i64 (s.size : Int))
  rw [P8.bufC_size hpl] at r3
  have c3 := (r2.cell 512).trans (P8.bufC_at512 hpl n h)
  have f3 := r2.frozen 512
  have Z2 := Lib.hid z2
  clear r r1 o1 z1 z2 hsl
  go_enter Try.func22, Try.ntmps22
  go_wp2
  refine bodyPost_end (results_none rfl _ _ _) rfl ?_
  exact ⟨rfl, r3, o2.setCell (Nat.le_refl _) (by omega) _, by simpa [World.setCell] using Z2.out⟩

end Go.Proofs.Ytealpdofcgbnlaa
