/-
  Layer 11: bytes in a block of whatever mark; laws of no program.
-/
import Derived.Test.YtekpbfbipkjibaaARows
import Derived.Laws.IdiomCopy
import Derived.Laws.CopyRow
import Derived.Laws.IdiomStrings
import Derived.Deep.MidRow
namespace Go.Proofs.Ytekpbfbipkjibaa
open Go.RowKit
set_option linter.unusedVariables false

/-- These bytes lie in a block from its head on, and may be written. -/
structure Bs (w : World) (g : Nat) (l : List UInt8) : Prop where
  lt : g < w.heap.size
  cell : ∀ j, j < l.length → w.cell? ⟨g, j, none⟩ = some (.int .u8 ((l.getD j 0).toNat : Int))
  free : ∀ j, j < l.length → w.frozen? ⟨g, j, none⟩ = false
theorem Bs.heap {w w' : World} {g : Nat} {l : List UInt8} (h : Bs w g l) (hh : w'.heap[g]? = w.heap[g]?) (hs : g < w'.heap.size) : Bs w' g l := by
  refine ⟨hs, fun j hj => ?_, fun j hj => ?_⟩
  · have := h.cell j hj; unfold World.cell? at this ⊢; simp only [hh]; exact this
  · have := h.free j hj; unfold World.frozen? at this ⊢; simp only [hh]; exact this
theorem Bs.below {w w' : World} {B g : Nat} {l : List UInt8} (h : Bs w g l) (hb : Below B w w') (hg : g < B) : Bs w' g l := h.heap (hb.block g hg) (Nat.lt_of_lt_of_le h.lt hb.size)
theorem Bs.drew {w : World} {g : Nat} {l : List UInt8} (h : Bs w g l) : Bs w.drew g l := h.heap rfl h.lt
theorem Bs.alloc {w : World} {g : Nat} {l : List UInt8} (h : Bs w g l) (o : Obj) : Bs (w.alloc o) g l :=
  h.heap (by show (w.heap.push o)[g]? = _; rw [Array.getElem?_push, if_neg (Nat.ne_of_lt h.lt)]) (by have := h.lt; simp; omega)
theorem Bs.other {w : World} {g k i : Nat} {l : List UInt8} (h : Bs w g l) (hk : g ≠ k) (v : Value) : Bs (w.setCell ⟨k, i, none⟩ v) g l :=
  h.heap (heap_setCell_other _ _ _ _ hk) (by simpa [World.setCell] using h.lt)
theorem Bs.set {w : World} {g i : Nat} {l : List UInt8} (h : Bs w g l) (hi : i < l.length) (b : UInt8) : Bs (w.setCell ⟨g, i, none⟩ (.int .u8 (b.toNat : Int))) g (l.set i b) := by
  refine ⟨by simpa [World.setCell] using h.lt, fun j hj => ?_, fun j hj => ?_⟩
  · rw [List.length_set] at hj
    by_cases e : i = j
    · subst e
      rw [World.cell?_setCell_same _ _ _ (h.cell i hi)]
      simp [List.getD_eq_getElem?_getD, hi]
    · rw [World.cell?_setCell_other _ _ _ _ (fun k => by cases k; exact e rfl), h.cell j hj]
      simp [List.getD_eq_getElem?_getD, List.getElem?_set_ne e]
  · rw [List.length_set] at hj
    rw [World.frozen?_setCell]; exact h.free j hj
theorem Bs.src {w : World} {g o : Nat} {l : List UInt8} (h : Bs w g l) : ∀ (j : Nat) v, (W.cellsOf (l.drop o))[j]? = some v → w.cell? ((⟨g, o, none⟩ : Addr).add j) = some v := by
  intro j v hv
  have hj : o + j < l.length := by
    have := (List.getElem?_eq_some_iff.1 hv).1
    rw [c8_len, List.length_drop] at this; omega
  rw [Addr.add_mid, h.cell _ hj, ← hv, c8_at (by rw [List.length_drop]; omega)]
  simp [List.getD_eq_getElem?_getD]
theorem Bs.conv {P : Program} {w : World} {g cap : Nat} {l : List UInt8} {src dst e : TypeId} (h : Bs w g l) (hs : P.underlying src = some (.slice e)) (he : P.underlying e = some (.int .u8)) (hd : P.underlying dst = some .string) :
    (convert src dst (.slice (some ⟨g, 0, none⟩) l.length cap)).run P w = .ok (.string ⟨l.toArray⟩) w :=
  run_convert_bytes_back w src dst e _ cap l hs he hd (fun j hj => by rw [Addr.add_mid, Nat.zero_add, h.cell j hj]; simp [List.getD_eq_getElem?_getD, hj])
/-- A text, converted. -/
theorem Bs.made {P : Program} (w : World) (src dst e : TypeId) (s : ByteArray) (hs : P.underlying src = some .string) (hd : P.underlying dst = some (.slice e)) (he : P.underlying e = some (.int .u8)) :
    ∃ cap wc, (convert src dst (.string s)).run P w = .ok (.slice (some ⟨w.heap.size, 0, none⟩) s.size cap) wc ∧ s.size ≤ cap ∧ Bs wc w.heap.size s.data.toList ∧ Below w.heap.size w wc := by
  refine ⟨_, _, run_bytes_of_string w src dst e s hs hd he, grownCap_ge w s.size 0 e, ⟨by simp, fun j hj => ?_, fun j hj => ?_⟩, ((Below.refl _ _).drew).alloc (Nat.le_refl _) _⟩
  · rw [show w.heap.size = w.drew.heap.size from rfl, World.cell?_alloc_mark]
    have hj' : j < s.data.size := by simpa using hj
    have hj2 : j < s.size := hj'
    simp [bytesRow, Array.getElem?_append, hj2]
  · have hj' : j < s.data.size := by simpa using hj
    have hj2 : j < s.size := hj'
    rw [show w.heap.size = w.drew.heap.size from rfl]
    have hsz : ∀ n, (bytesRow s n).size = s.size + (n - s.size) := fun n => by unfold bytesRow; simp
    unfold World.frozen? World.alloc
    simp only [Array.getElem?_push_size, hsz]
    simp
    intro hle
    omega
theorem setCells_below {B g : Nat} {a : World} : ∀ (cs : List Value) (o : Nat) (w : World), Below B a w → B ≤ g → Below B a (w.setCells g o cs)
  | [], _, _, h, _ => h
  | v :: r, o, w, h, hg => setCells_below r (o + 1) _ (h.setCell (p := ⟨g, o, none⟩) hg v) hg
/-- All blocks that were there stay as they were, but g. -/
structure But (g : Nat) (w w' : World) : Prop where
  os : w'.os = w.os
  tape : w'.tape = w.tape
  output : w'.output = w.output
  size : w.heap.size ≤ w'.heap.size
  block : ∀ k, k < w.heap.size → k ≠ g → w'.heap[k]? = w.heap[k]?
theorem But.refl (g : Nat) (w : World) : But g w w := ⟨rfl, rfl, rfl, Nat.le_refl _, fun _ _ _ => rfl⟩
theorem But.trans {g : Nat} {a b c : World} (h : But g a b) (k : But g b c) : But g a c :=
  ⟨k.os.trans h.os, k.tape.trans h.tape, k.output.trans h.output, Nat.le_trans h.size k.size, fun i hi hg => (k.block i (Nat.lt_of_lt_of_le hi h.size) hg).trans (h.block i hi hg)⟩
theorem But.of {g : Nat} {a b : World} (h : Below a.heap.size a b) : But g a b := ⟨h.os, h.tape, h.output, h.size, fun k hk _ => h.block k hk⟩
theorem But.then {g : Nat} {a b c : World} (h : But g a b) (k : Below b.heap.size b c) : But g a c := h.trans (But.of k)
theorem But.drew {g : Nat} {a b : World} (h : But g a b) : But g a b.drew := ⟨h.os, h.tape, h.output, h.size, h.block⟩
theorem But.setCell {g : Nat} {a w : World} (h : But g a w) (i : Nat) (v : Value) : But g a (w.setCell ⟨g, i, none⟩ v) :=
  h.trans ⟨rfl, rfl, rfl, by simp [World.setCell], fun k hk hg => heap_setCell_other _ _ _ _ hg⟩
theorem But.setCells {g : Nat} {a : World} : ∀ (cs : List Value) (o : Nat) (w : World), But g a w → But g a (w.setCells g o cs)
  | [], _, _, h => h
  | v :: r, o, w, h => But.setCells r (o + 1) _ (h.setCell o v)
theorem But.below {g B : Nat} {a b : World} (h : But g a b) (hB : B ≤ g) (hs : B ≤ a.heap.size) : Below B a b := ⟨h.os, h.tape, h.output, h.size, fun k hk => h.block k (by omega) (by omega)⟩
theorem But.row {g k t : Nat} {a b : World} {l : List Value} (h : But g a b) (r : Row a k t l) (hk : k ≠ g) : Row b k t l := by
  unfold Row; rw [h.block k r.lt hk]; exact r

theorem But.alloc {g : Nat} {a b : World} (h : But g a b) (o : Obj) : But g a (b.alloc o) := h.trans (But.of ((Below.refl _ _).alloc (Nat.le_refl _) _))
/-- copy(cells, cells[k:]), in one block. -/
theorem Bs.moved {P : Program} {w : World} {g : Nat} {l : List UInt8} (h : Bs w g l) (dT sT ty elem : TypeId) (hu : P.underlying dT = some (.slice elem)) (hs : (P.info? elem).map (·.size) = some 1) (k k' dCap sCap : Nat) (hk : k ≤ l.length) (hk' : k < l.length → k' = k) :
    ∃ w', (Builtin.copy_ #[dT, sT] ty #[.slice (some ⟨g, 0, none⟩) l.length dCap, .slice (some ⟨g, k', none⟩) (l.length - k) sCap]).run P w = .ok (goInt ((l.length - k : Nat) : Int)) w' ∧
      Bs w' g (l.drop k ++ l.drop (l.length - k)) ∧ (∀ i, i < w.heap.size → i ≠ g → w'.heap[i]? = w.heap[i]?) ∧ w'.heap.size = w.heap.size ∧ ∀ B, B ≤ g → Below B w w' := by
  have hlen : (W.cellsOf (l.drop k)).length = l.length - k := by rw [c8_len, List.length_drop]
  have hsrc : ∀ (j : Nat) v, (W.cellsOf (l.drop k))[j]? = some v → w.cell? ((⟨g, k', none⟩ : Addr).add j) = some v := by
    intro j v hv
    have hj : j < l.length - k := by
      have := (List.getElem?_eq_some_iff.1 hv).1
      rwa [hlen] at this
    rw [hk' (by omega)]
    exact h.src j v hv
  have hl := run_loadCells_list (P := P) w ⟨g, k', none⟩ (W.cellsOf (l.drop k)) hsrc
  have hst := run_storeCells_cells (P := P) g 0 (W.cellsOf (l.drop k)) 0 w (fun j hj => by rw [hlen] at hj; simp only [Nat.zero_add]; rw [h.cell j (by omega)]; rfl) (fun j hj => by rw [hlen] at hj; simp only [Nat.zero_add]; exact h.free j (by omega)) (c8_one _)
  simp only [Nat.add_zero] at hst
  have hsz : ∀ (cs : List Value) (o : Nat) (w : World), (w.setCells g o cs).heap.size = w.heap.size := by
    intro cs
    induction cs with
    | nil => intro o w; rfl
    | cons v r ih => intro o w; show (World.setCells (w.setCell ⟨g, o, none⟩ v) g (o + 1) r).heap.size = _; rw [ih]; simp [World.setCell]
  have hoth : ∀ (cs : List Value) (o : Nat) (w : World) i, i ≠ g → (w.setCells g o cs).heap[i]? = w.heap[i]? := by
    intro cs
    induction cs with
    | nil => intro o w i _; rfl
    | cons v r ih => intro o w i hi; show (World.setCells (w.setCell ⟨g, o, none⟩ v) g (o + 1) r).heap[i]? = _; rw [ih _ _ _ hi]; exact heap_setCell_other _ _ _ _ hi
  refine ⟨w.setCells g 0 (W.cellsOf (l.drop k)), ?_, ⟨by rw [hsz]; exact h.lt, fun j hj => ?_, fun j hj => ?_⟩, fun i _ hi => hoth _ _ _ i hi, hsz _ _ _, fun B hB => setCells_below _ _ _ (Below.refl _ _) hB⟩
  · cases hq : P.info? elem with
    | none => simp [hq] at hs
    | some i =>
      have hi : i.size = 1 := by simpa [hq] using hs
      have hmin : Nat.min (l.length - k) l.length = l.length - k := Nat.min_eq_left (by omega)
      rw [hlen] at hl
      simp [Builtin.copy_, run_underlying hu, Builtin.lenOf, Builtin.firstCells, sizeOf, typeInfo, hq, hi, hmin, hl, hst]
  · rw [List.length_append, List.length_drop, List.length_drop] at hj
    by_cases a : j < l.length - k
    · have := World.cell?_setCells_in g (W.cellsOf (l.drop k)) 0 w (fun j hj => by rw [hlen] at hj; simp only [Nat.zero_add]; rw [h.cell j (by omega)]; rfl) j (by rw [hlen]; exact a)
      rw [Nat.zero_add] at this
      rw [this]
      simp [W.cellsOf, List.getD_eq_getElem?_getD, List.getElem?_append, a]
    · rw [World.cell?_setCells_out g _ 0 w _ (fun _ _ => .inr (by rw [hlen]; simp; omega)), h.cell j (by omega)]
      simp [List.getD_eq_getElem?_getD, List.getElem?_append, a]
      congr 2
      rw [show l.length - k + (j - (l.length - k)) = j by omega]
  · rw [List.length_append, List.length_drop, List.length_drop] at hj
    rw [World.frozen?_setCells]; exact h.free j (by omega)

theorem scr_cells {w : World} {g t : Nat} {a b c d e : Value} (r : Row w g t [a, b, c, d, e]) : w.cell? ⟨g, 0, none⟩ = some a ∧ w.cell? ⟨g, 1, none⟩ = some b ∧ w.cell? ⟨g, 2, none⟩ = some c ∧ w.cell? ⟨g, 3, none⟩ = some d ∧ w.cell? ⟨g, 4, none⟩ = some e ∧
    w.frozen? ⟨g, 2, none⟩ = false ∧ w.frozen? ⟨g, 3, none⟩ = false ∧ w.frozen? ⟨g, 4, none⟩ = false :=
  ⟨r.cell 0, r.cell 1, r.cell 2, r.cell 3, r.cell 4, r.frozen 2, r.frozen 3, r.frozen 4⟩

end Go.Proofs.Ytekpbfbipkjibaa
