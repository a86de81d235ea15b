/-
  Plain mathematics for layer 11: what stands on a screen, byte by byte. No condition.
-/
import Derived.WalkKit
namespace Go.Proofs.Ytekpbfbipkjibaa.N11

/-- The cursor's column and row, and all places. -/
structure St where
  x : Nat
  y : Nat
  c : List UInt8

def shown (b : UInt8) : Bool := decide (32 ≤ b.toNat) && decide (b.toNat ≤ 126)
def down (w h : Nat) (s : St) : St := if s.y + 1 < h then ⟨0, s.y + 1, s.c⟩ else ⟨0, s.y, s.c.drop w ++ List.replicate w 32⟩
def step (w h : Nat) (s : St) (b : UInt8) : St :=
  if shown b = true then (if s.x + 1 = w then down w h ⟨s.x + 1, s.y, s.c.set (s.y * w + s.x) b⟩ else ⟨s.x + 1, s.y, s.c.set (s.y * w + s.x) b⟩)
  else if b.toNat = 10 then down w h s
  else if b.toNat = 8 then ⟨s.x - 1, s.y, s.c⟩
  else if b.toNat = 13 then ⟨0, s.y, s.c⟩
  else if b.toNat = 12 then ⟨0, 0, List.replicate (w * h) 32⟩
  else s
def put (w h : Nat) (s : St) (l : List UInt8) : St := l.foldl (step w h) s
def new (w h : Nat) : St := ⟨0, 0, List.replicate (w * h) 32⟩

structure Ok (w h : Nat) (s : St) : Prop where
  x : s.x < w
  y : s.y < h
  c : s.c.length = w * h
  s : ∀ b ∈ s.c, shown b = true

theorem idx_lt {w h x y : Nat} (hx : x < w) (hy : y < h) : y * w + x < w * h := by
  have := Nat.mul_le_mul_right w (show y + 1 ≤ h from hy)
  rw [Nat.add_mul, Nat.one_mul, Nat.mul_comm h w] at this
  omega
theorem row_le {w h y : Nat} (hy : y < h) : y * w + w ≤ w * h := by
  have := Nat.mul_le_mul_right w (show y + 1 ≤ h from hy)
  rw [Nat.add_mul, Nat.one_mul, Nat.mul_comm h w] at this
  exact this
theorem next_lt {w h y : Nat} (hw : 1 ≤ w) : ((y + 1) * w < w * h) ↔ y + 1 < h := by
  rw [Nat.mul_comm w h]
  exact ⟨fun k => Nat.lt_of_mul_lt_mul_right k, fun k => Nat.mul_lt_mul_of_pos_right k hw⟩

theorem new_ok {w h : Nat} (hw : 1 ≤ w) (hh : 1 ≤ h) : Ok w h (new w h) :=
  ⟨hw, hh, by simp [new], fun b hb => by rw [List.eq_of_mem_replicate hb]; decide⟩
theorem down_ok {w h : Nat} {s : St} (hw : 1 ≤ w) (hy : s.y < h) (hc : s.c.length = w * h) (hs : ∀ b ∈ s.c, shown b = true) : Ok w h (down w h s) := by
  unfold down
  by_cases a : s.y + 1 < h
  · rw [if_pos a]; exact ⟨hw, a, hc, hs⟩
  · rw [if_neg a]
    have := row_le (w := w) hy
    refine ⟨hw, hy, ?_, fun b hb => ?_⟩
    · simp [hc]; omega
    · rcases List.mem_append.1 hb with k | k
      · exact hs b (List.mem_of_mem_drop k)
      · rw [List.eq_of_mem_replicate k]; decide
theorem set_shown {c : List UInt8} {i : Nat} {b : UInt8} (hs : ∀ b ∈ c, shown b = true) (hb : shown b = true) : ∀ d ∈ c.set i b, shown d = true := by
  intro d hd
  rcases List.mem_or_eq_of_mem_set hd with k | k
  · exact hs d k
  · rw [k]; exact hb
theorem step_ok {w h : Nat} {s : St} (o : Ok w h s) (b : UInt8) : Ok w h (step w h s b) := by
  have hw : 1 ≤ w := by have := o.x; omega
  have hh : 1 ≤ h := by have := o.y; omega
  unfold step
  split
  · rename_i hb
    split
    · exact down_ok hw o.y (by simpa using o.c) (set_shown o.s hb)
    · exact ⟨by have := o.x; show s.x + 1 < w; omega, o.y, by simpa using o.c, set_shown o.s hb⟩
  · split
    · exact down_ok hw o.y o.c o.s
    · split
      · exact ⟨by have := o.x; show s.x - 1 < w; omega, o.y, o.c, o.s⟩
      · split
        · exact ⟨hw, o.y, o.c, o.s⟩
        · split
          · exact new_ok hw hh
          · exact o
theorem put_ok {w h : Nat} : ∀ (l : List UInt8) {s : St}, Ok w h s → Ok w h (put w h s l)
  | [], _, o => o
  | b :: l, _, o => put_ok l (step_ok o b)
theorem put_append (w h : Nat) (s : St) (a b : List UInt8) : put w h s (a ++ b) = put w h (put w h s a) b := by simp [put]
theorem put_snoc (w h : Nat) (s : St) (a : List UInt8) (b : UInt8) : put w h s (a ++ [b]) = step w h (put w h s a) b := by simp [put]
theorem put_nil (w h : Nat) (s : St) : put w h s [] = s := rfl

/-- A screen's row by its number. -/
def row (w : Nat) (c : List UInt8) (y : Nat) : List UInt8 := (c.drop (y * w)).take w
/-- All its rows. -/
def rows (w h : Nat) (c : List UInt8) : List (List UInt8) := (List.range h).map (row w c)
theorem rows_length (w h : Nat) (c : List UInt8) : (rows w h c).length = h := by simp [rows]
theorem row_length {w h y : Nat} {c : List UInt8} (hc : c.length = w * h) (hy : y < h) : (row w c y).length = w := by
  have := row_le (w := w) hy
  simp [row]; omega
theorem row_at {w : Nat} {c : List UInt8} {x y : Nat} (hx : x < w) : (row w c y)[x]? = c[y * w + x]? := by
  unfold row
  rw [List.getElem?_take, if_pos hx, List.getElem?_drop]
theorem rows_at {w h : Nat} {c : List UInt8} {y : Nat} (hy : y < h) : (rows w h c)[y]? = some (row w c y) := by
  simp [rows, hy]
theorem flat_rows (w : Nat) (c : List UInt8) : ∀ h, (rows w h c).flatten = c.take (h * w)
  | 0 => by simp [rows]
  | h + 1 => by
    have e : rows w (h + 1) c = rows w h c ++ [row w c h] := by simp [rows, List.range_succ]
    rw [e, List.flatten_append, flat_rows w c h, Nat.add_mul, Nat.one_mul, List.take_add]
    simp [row]
theorem flat_all {w h : Nat} {c : List UInt8} (hc : c.length = w * h) : (rows w h c).flatten = c := by
  rw [flat_rows, Nat.mul_comm, ← hc, List.take_length]
theorem row_set_same {w x y : Nat} {c : List UInt8} {b : UInt8} : row w (c.set (y * w + x) b) y = (row w c y).set x b := by
  unfold row
  rw [List.drop_set, if_neg (by omega), List.take_set, show y * w + x - y * w = x by omega]
theorem row_set_other {w x y y' : Nat} {c : List UInt8} {b : UInt8} (hx : x < w) (hn : y' ≠ y) : row w (c.set (y * w + x) b) y' = row w c y' := by
  apply List.ext_getElem?
  intro k
  by_cases hk : k < w
  · rw [row_at hk, row_at hk, List.getElem?_set_ne]
    rcases Nat.lt_or_gt_of_ne hn with a | a
    · have := Nat.mul_le_mul_right w (show y' + 1 ≤ y from a)
      rw [Nat.add_mul] at this
      omega
    · have := Nat.mul_le_mul_right w (show y + 1 ≤ y' from a)
      rw [Nat.add_mul] at this
      omega
  · unfold row
    rw [List.getElem?_take, if_neg hk, List.getElem?_take, if_neg hk]
theorem rows_set {w h x y : Nat} {c : List UInt8} {b : UInt8} (hx : x < w) (hy : y < h) : rows w h (c.set (y * w + x) b) = (rows w h c).set y ((row w c y).set x b) := by
  apply List.ext_getElem?
  intro k
  by_cases hk : k < h
  · rw [rows_at hk]
    by_cases e : y = k
    · subst e
      rw [List.getElem?_set_self (by rw [rows_length]; exact hy), row_set_same]
    · rw [List.getElem?_set_ne e, rows_at hk, row_set_other hx (fun z => e z.symm)]
  · rw [List.getElem?_eq_none (by rw [rows_length]; omega), List.getElem?_eq_none (by simp [rows]; omega)]
theorem rows_new (w h : Nat) : rows w h (List.replicate (w * h) 32) = List.replicate h (List.replicate w 32) := by
  apply List.ext_getElem?
  intro k
  by_cases hk : k < h
  · rw [rows_at hk, List.getElem?_replicate, if_pos hk]
    have := row_le (w := w) hk
    simp [row, List.drop_replicate, List.take_replicate]; omega
  · rw [List.getElem?_eq_none (by rw [rows_length]; omega), List.getElem?_eq_none (by simp; omega)]
theorem rows_scroll {w h : Nat} {c : List UInt8} (hc : c.length = w * h) (hh : 1 ≤ h) : rows w h (c.drop w ++ List.replicate w 32) = (rows w h c).drop 1 ++ [List.replicate w 32] := by
  apply List.ext_getElem?
  intro k
  have hle := row_le (w := w) (h := h) (y := h - 1) (by omega)
  have hl : (c.drop w).length = (h - 1) * w := by
    rw [List.length_drop, hc, Nat.mul_comm w h, show h = h - 1 + 1 by omega, Nat.add_mul]; simp
  by_cases hk : k < h
  · rw [rows_at hk]
    by_cases a : k + 1 < h
    · rw [List.getElem?_append_left (by simp [rows]; omega), List.getElem?_drop, Nat.add_comm 1 k, rows_at a]
      congr 1
      have h3 := row_le (w := w) (h := h - 1) (y := k) (by omega)
      rw [Nat.mul_comm w (h - 1)] at h3
      unfold row
      rw [List.drop_append_of_le_length (by omega), List.take_append_of_le_length (by rw [List.length_drop]; omega), List.drop_drop, Nat.add_mul, Nat.one_mul, Nat.add_comm w]
    · have hk1 : k = h - 1 := by omega
      rw [List.getElem?_append_right (by simp [rows]; omega), List.length_drop, rows_length, hk1, Nat.sub_self]
      unfold row
      rw [← hl, List.drop_left]
      simp
  · rw [List.getElem?_eq_none (by rw [rows_length]; omega), List.getElem?_eq_none (by simp [rows]; omega)]
theorem set_as_cut {l : List UInt8} {x : Nat} {b : UInt8} (hx : x < l.length) : l.take x ++ [b] ++ l.drop (x + 1) = l.set x b := by
  rw [List.set_eq_take_append_cons_drop, if_pos hx]
  simp

end Go.Proofs.Ytekpbfbipkjibaa.N11
