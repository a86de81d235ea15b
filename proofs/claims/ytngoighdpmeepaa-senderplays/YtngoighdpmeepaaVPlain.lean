/-
  Plain mathematics for layer 15: states as cells; a sender as a list of states; what is due. No condition.
-/
import Derived.Test.YtngoighdpmeepaaAMem
import Derived.Test.YtngoighdpmeepaaAdd
namespace Go.Proofs.Ytngoighdpmeepaa
open Go.RowKit
set_option linter.unusedVariables false
namespace S15

/-- A state: its number, its tick, its text. -/
structure St where
  num : Nat
  tick : Nat
  tx : ByteArray
/-- Its cells. -/
def St.c (p : St) : List Value := [.int .u64 (p.num : Int), .int .u64 (p.tick : Int), .string p.tx]
theorem St.c_len (p : St) : p.c.length = 3 := rfl
theorem St.c_one (p : St) : ∀ u ∈ p.c, u.oneCell' = true := by intro u hu; simp [St.c] at hu; rcases hu with rfl | rfl | rfl <;> rfl
def cellsL : List St → List Value
  | [] => []
  | p :: l => p.c ++ cellsL l
theorem cellsL_len : ∀ l, (cellsL l).length = l.length * 3
  | [] => rfl
  | p :: l => by simp [cellsL, St.c_len, cellsL_len l]; omega
theorem cellsL_append : ∀ a b, cellsL (a ++ b) = cellsL a ++ cellsL b
  | [], b => rfl
  | p :: a, b => by simp [cellsL, cellsL_append a b]
theorem cellsL_drop : ∀ (l : List St) (i : Nat), (cellsL l).drop (i * 3) = cellsL (l.drop i)
  | l, 0 => by simp
  | [], i + 1 => by simp [cellsL]
  | p :: l, i + 1 => by
    rw [cellsL, List.drop_append, List.drop_of_length_le (by rw [St.c_len]; omega), St.c_len, show (i + 1) * 3 - 3 = i * 3 by omega, cellsL_drop l i]
    rfl
theorem cellsL_take : ∀ (l : List St) (i : Nat), (cellsL l).take (i * 3) = cellsL (l.take i)
  | l, 0 => by simp [cellsL]
  | [], i + 1 => by simp [cellsL]
  | p :: l, i + 1 => by
    rw [cellsL, List.take_append, List.take_of_length_le (by rw [St.c_len]; omega), St.c_len, show (i + 1) * 3 - 3 = i * 3 by omega, cellsL_take l i]
    rfl
theorem cellsL_one (l : List St) : ∀ u ∈ cellsL l, u.oneCell' = true := by
  induction l with
  | nil => intro u hu; simp [cellsL] at hu
  | cons p l ih => intro u hu; rw [cellsL, List.mem_append] at hu; rcases hu with h | h; exact p.c_one u h; exact ih u h

/-- The states of a slice: in the block g, from the cell off on. -/
def StAt (w : World) (g off : Nat) (L : List St) : Prop := ∃ (t : TypeId) (pre sp : List Value), pre.length = off ∧ Row w g t (pre ++ cellsL L ++ sp)
theorem StAt.lt {w : World} {g off : Nat} {L : List St} (h : StAt w g off L) : g < w.heap.size := by obtain ⟨t, pre, sp, _, r⟩ := h; exact r.lt
theorem StAt.below {w w' : World} {g off B : Nat} {L : List St} (h : StAt w g off L) (hb : Below B w w') (hg : g < B) : StAt w' g off L := by
  obtain ⟨t, pre, sp, h1, r⟩ := h; exact ⟨t, pre, sp, h1, r.below hb hg⟩
theorem StAt.keep {w w' : World} {g off : Nat} {L : List St} (h : StAt w g off L) (hb : Below w.heap.size w w') : StAt w' g off L := h.below hb h.lt
theorem StAt.drew {w : World} {g off : Nat} {L : List St} (h : StAt w g off L) : StAt w.drew g off L := h
theorem StAt.alloc {w : World} {g off : Nat} {L : List St} (h : StAt w g off L) (o : Obj) : StAt (w.alloc o) g off L := by
  obtain ⟨t, pre, sp, h1, r⟩ := h; exact ⟨t, pre, sp, h1, r.alloc o⟩
theorem StAt.setRow {w : World} {g off k : Nat} {L : List St} (h : StAt w g off L) (hk : g ≠ k) (c : Array Value) : StAt (w.setRow k c) g off L := by
  obtain ⟨t, pre, sp, h1, r⟩ := h; exact ⟨t, pre, sp, h1, r.setRow_other hk c⟩
theorem StAt.other {w : World} {g off k i : Nat} {L : List St} (h : StAt w g off L) (hk : g ≠ k) (v : Value) : StAt (w.setCell ⟨k, i, none⟩ v) g off L := by
  obtain ⟨t, pre, sp, h1, r⟩ := h; exact ⟨t, pre, sp, h1, r.other hk v⟩
theorem StAt.load {w : World} {g off : Nat} {L : List St} (h : StAt w g off L) {i : Nat} {p : St} (hp : L[i]? = some p) : w.rangeAt g (off + i * 3) p.c := by
  obtain ⟨t, pre, sp, h1, r⟩ := h
  have h2 := r.rangeOf (off + i * 3) 3
  obtain ⟨hi, rfl⟩ := List.getElem?_eq_some_iff.1 hp
  have hl := cellsL_len L
  have e : ((pre ++ cellsL L ++ sp).drop (off + i * 3)).take 3 = L[i].c := by
    rw [List.append_assoc, ← h1, List.drop_append, List.drop_of_length_le (by omega), List.nil_append, show pre.length + i * 3 - pre.length = i * 3 by omega, List.drop_append_of_le_length (by omega), cellsL_drop, List.drop_eq_getElem_cons hi, cellsL, List.append_assoc, List.take_append_of_le_length (by rw [St.c_len]; exact Nat.le_refl _), List.take_of_length_le (by rw [St.c_len]; exact Nat.le_refl _)]
  rwa [e] at h2
theorem StAt.cellAt {w : World} {g off : Nat} {L : List St} (h : StAt w g off L) {j : Nat} {v : Value} (hv : (cellsL L)[j]? = some v) : w.cell? ⟨g, off + j, none⟩ = some v := by
  obtain ⟨t, pre, sp, h1, r⟩ := h
  have h2 := r.cell (off + j)
  rw [h2]
  obtain ⟨hi, _⟩ := List.getElem?_eq_some_iff.1 hv
  rw [List.append_assoc, ← h1, List.getElem?_append_right (by omega), show pre.length + j - pre.length = j by omega, List.getElem?_append_left hi]
  exact hv
theorem cellsL_get {L : List St} {i k : Nat} {p : St} (hp : L[i]? = some p) (hk : k < 3) : (cellsL L)[i * 3 + k]? = p.c[k]? := by
  obtain ⟨hi, rfl⟩ := List.getElem?_eq_some_iff.1 hp
  have hl := cellsL_len L
  rw [← List.getElem?_drop, cellsL_drop, List.drop_eq_getElem_cons hi, cellsL, List.getElem?_append_left (by rw [St.c_len]; exact hk)]
theorem StAt.num {w : World} {g off : Nat} {L : List St} (h : StAt w g off L) {i : Nat} {p : St} (hp : L[i]? = some p) : w.cell? ⟨g, off + i * 3, none⟩ = some (.int .u64 (p.num : Int)) := by
  have := cellsL_get hp (show 0 < 3 by decide)
  exact h.cellAt this
theorem StAt.tick {w : World} {g off : Nat} {L : List St} (h : StAt w g off L) {i : Nat} {p : St} (hp : L[i]? = some p) : w.cell? ⟨g, off + i * 3 + 1, none⟩ = some (.int .u64 (p.tick : Int)) := by
  have := cellsL_get hp (show 1 < 3 by decide)
  exact h.cellAt this
theorem StAt.tx {w : World} {g off : Nat} {L : List St} (h : StAt w g off L) {i : Nat} {p : St} (hp : L[i]? = some p) : w.cell? ⟨g, off + i * 3 + 2, none⟩ = some (.string p.tx) := by
  have := cellsL_get hp (show 2 < 3 by decide)
  exact h.cellAt this
theorem StAt.from {w : World} {g off : Nat} {L : List St} (h : StAt w g off L) {i : Nat} (hi : i ≤ L.length) : StAt w g (off + i * 3) (L.drop i) := by
  obtain ⟨t, pre, sp, h1, r⟩ := h
  refine ⟨t, pre ++ cellsL (L.take i), sp, ?_, ?_⟩
  · rw [List.length_append, cellsL_len, List.length_take, h1, Nat.min_eq_left hi]
  · rw [List.append_assoc pre, ← cellsL_append, List.take_append_drop]; exact r
theorem StAt.of_owns {w : World} {B g n cap : Nat} {e : TypeId} {l : List St} (h : w.ownsRow B e 3 (.slice (some ⟨g, 0, none⟩) n cap) n (cellsL l)) : StAt w g 0 l := by
  obtain ⟨_, hv | ⟨g', cap', cur, hv, _, hg, _, _, _, ht⟩⟩ := h
  · exact absurd hv.1 (by simp)
  · have e1 : g = g' := by simpa using congrArg (fun v => match v with | Value.slice (some a) _ _ => a.block | _ => 0) hv
    subst e1
    refine ⟨e, [], cur.toList.drop (n * 3), rfl, ?_⟩
    unfold Row
    rw [List.nil_append, ← ht, List.take_append_drop]
    exact hg

/-- A sender: the current text, the states, Last. -/
structure Sn where
  now : ByteArray
  L : List St
  last : Nat
def zero : St := ⟨0, 0, ⟨#[]⟩⟩
/-- The newest state. -/
def Sn.top (s : Sn) : St := s.L.getLast?.getD zero
/-- The first state. -/
def Sn.base (s : Sn) : St := s.L.head?.getD zero
def new (t : ByteArray) : Sn := ⟨t, [⟨0, 0, t⟩], 0⟩
def Sn.set (s : Sn) (t : ByteArray) : Sn := { s with now := t }
def ackL (n : Nat) : List St → Option (List St)
  | [] => none
  | p :: r => if p.num = n then some (p :: r) else ackL n r
def Sn.acked (s : Sn) (n : Nat) : Sn := { s with L := (ackL n s.L).getD s.L }
def addS (a b : Nat) : Nat := if a + b ≤ 18446744073709551615 then a + b else 18446744073709551615
theorem addS_cast (a b : Nat) : satV (a : Int) (b : Int) = ((addS a b : Nat) : Int) := by
  unfold satV addS
  by_cases h : a + b ≤ 18446744073709551615
  · rw [if_pos h, if_pos (by omega)]; omega
  · rw [if_neg h, if_neg (by omega)]; rfl
theorem addS_le (a b : Nat) : addS a b ≤ 18446744073709551615 := by unfold addS; split <;> omega
/-- Is the current text another one than the newest state's? -/
def Sn.unsent (s : Sn) : Bool := decide (s.now ≠ s.top.tx)
def Sn.hasNew (s : Sn) : Bool := decide (s.L.length < 8) && s.unsent
def Sn.quiet (s : Sn) : Bool := decide (s.L.length = 1) && !s.unsent
def Sn.again (s : Sn) (wait beat : Nat) : Nat := if s.L.length = 1 then addS s.last beat else min (addS s.last beat) (addS s.top.tick wait)
def Sn.due (s : Sn) (wait beat : Nat) : Nat := if s.hasNew then 0 else s.again wait beat
/-- The states with one more. -/
def Sn.grown (s : Sn) (now : Nat) : Sn := ⟨s.now, s.L ++ [⟨s.top.num + 1, now, s.now⟩], now⟩
/-- The states, the newest one sent now. -/
def Sn.resent (s : Sn) (now : Nat) : Sn := ⟨s.now, s.L.set (s.L.length - 1) ⟨s.top.num, now, s.top.tx⟩, now⟩
def Sn.next (s : Sn) (now wait beat : Nat) : Sn := if s.hasNew then s.grown now else if s.again wait beat ≤ now then s.resent now else s
def Sn.goes (s : Sn) (now wait beat : Nat) : Bool := s.hasNew || decide (s.again wait beat ≤ now)
theorem goes_due (s : Sn) (now wait beat : Nat) : s.goes now wait beat = decide (s.due wait beat ≤ now) := by
  unfold Sn.goes Sn.due
  cases s.hasNew <;> simp

/-- What a sender always is, of texts of at most m bytes, numbers to N, ticks to T. -/
structure Ok (m N T : Nat) (s : Sn) : Prop where
  pos : 1 ≤ s.L.length
  few : s.L.length ≤ 8
  rise : ∀ i p, s.L[i]? = some p → p.num = s.base.num + i
  num : ∀ p ∈ s.L, p.num ≤ N
  tick : ∀ p ∈ s.L, p.tick ≤ T
  tx : ∀ p ∈ s.L, p.tx.size ≤ m
  now : s.now.size ≤ m
  last : s.last ≤ T
theorem top_get {s : Sn} (h : 1 ≤ s.L.length) : s.L[s.L.length - 1]? = some s.top := by
  unfold Sn.top
  rw [List.getLast?_eq_getElem?]
  cases hx : s.L[s.L.length - 1]? with
  | none => rw [List.getElem?_eq_none_iff] at hx; omega
  | some x => rfl
theorem base_get {s : Sn} (h : 1 ≤ s.L.length) : s.L[0]? = some s.base := by
  unfold Sn.base
  cases hx : s.L with
  | nil => rw [hx] at h; simp at h
  | cons x r => rfl
theorem top_of {s : Sn} {l : List St} {p : St} (h : s.L = l ++ [p]) : s.top = p := by unfold Sn.top; rw [h, List.getLast?_concat]; rfl
theorem base_of {s : Sn} {p : St} (h : s.L[0]? = some p) : s.base = p := by
  unfold Sn.base
  cases hx : s.L with
  | nil => rw [hx] at h; simp at h
  | cons x r => rw [hx] at h; simpa using h
theorem top_at {s : Sn} {n : Nat} {p : St} (h : s.L.length = n + 1) (hp : s.L[n]? = some p) : s.top = p := by
  have := top_get (s := s) (by omega)
  rw [h, Nat.add_sub_cancel, hp] at this
  exact (Option.some.inj this).symm
theorem Ok.mono {m N T m' N' T' : Nat} {s : Sn} (h : Ok m N T s) (h1 : m ≤ m') (h2 : N ≤ N') (h3 : T ≤ T') : Ok m' N' T' s :=
  ⟨h.pos, h.few, h.rise, fun p hp => Nat.le_trans (h.num p hp) h2, fun p hp => Nat.le_trans (h.tick p hp) h3, fun p hp => Nat.le_trans (h.tx p hp) h1, Nat.le_trans h.now h1, Nat.le_trans h.last h3⟩
theorem Ok.topMem {m N T : Nat} {s : Sn} (h : Ok m N T s) : s.top ∈ s.L := List.mem_of_getElem? (top_get h.pos)
theorem Ok.baseMem {m N T : Nat} {s : Sn} (h : Ok m N T s) : s.base ∈ s.L := List.mem_of_getElem? (base_get h.pos)
theorem Ok.new {m : Nat} {t : ByteArray} (h : t.size ≤ m) : Ok m 0 0 (new t) := by
  refine ⟨by simp [S15.new], by simp [S15.new], fun i p hp => ?_, fun p hp => ?_, fun p hp => ?_, fun p hp => ?_, h, Nat.le_refl _⟩
  · cases i with
    | zero => simp [S15.new] at hp; subst hp; rfl
    | succ i => simp [S15.new] at hp
  all_goals (simp [S15.new] at hp; subst hp; first | exact Nat.le_refl _ | exact h)
theorem Ok.set {m N T : Nat} {s : Sn} (h : Ok m N T s) {t : ByteArray} (ht : t.size ≤ m) : Ok m N T (s.set t) := ⟨h.pos, h.few, h.rise, h.num, h.tick, h.tx, ht, h.last⟩
theorem ackL_some {n : Nat} : ∀ {L : List St} {i : Nat} {p : St}, L[i]? = some p → p.num = n → (∀ (j : Nat) (q : St), j < i → L[j]? = some q → q.num ≠ n) → ackL n L = some (L.drop i)
  | [], i, p, hp, _, _ => by simp at hp
  | q :: r, 0, p, hp, hn, _ => by simp at hp; subst hp; simp [ackL, hn]
  | q :: r, i + 1, p, hp, hn, hb => by
    have h0 := hb 0 q (by omega) rfl
    rw [ackL, if_neg h0, ackL_some (i := i) (p := p) (by simpa using hp) hn (fun j q' hj hq => hb (j + 1) q' (by omega) (by simpa using hq))]
    rfl
theorem ackL_none {n : Nat} : ∀ {L : List St}, (∀ (j : Nat) (q : St), L[j]? = some q → q.num ≠ n) → ackL n L = none
  | [], _ => rfl
  | q :: r, hb => by
    rw [ackL, if_neg (hb 0 q rfl), ackL_none (fun j q' hq => hb (j + 1) q' (by simpa using hq))]
theorem ackL_cases (n : Nat) : ∀ L : List St, ackL n L = none ∨ ∃ i p, L[i]? = some p ∧ p.num = n ∧ ackL n L = some (L.drop i)
  | [] => .inl rfl
  | q :: r => by
    by_cases e : q.num = n
    · exact .inr ⟨0, q, rfl, e, by rw [ackL, if_pos e]; rfl⟩
    · rcases ackL_cases n r with h | ⟨i, p, h1, h2, h3⟩
      · exact .inl (by rw [ackL, if_neg e, h])
      · exact .inr ⟨i + 1, p, by simpa using h1, h2, by rw [ackL, if_neg e, h3]; rfl⟩
theorem Ok.drop {m N T : Nat} {s : Sn} (h : Ok m N T s) {i : Nat} (hi : i < s.L.length) : Ok m N T { s with L := s.L.drop i } := by
  have hb : ({ s with L := s.L.drop i } : Sn).base = s.L[i] := base_of (by simp [hi])
  refine ⟨by simp; omega, by simp; have := h.few; omega, fun j p hp => ?_, fun p hp => h.num p (List.mem_of_mem_drop hp), fun p hp => h.tick p (List.mem_of_mem_drop hp), fun p hp => h.tx p (List.mem_of_mem_drop hp), h.now, h.last⟩
  rw [hb, h.rise i s.L[i] (by simp [hi])]
  have := h.rise (i + j) p (by simpa using hp)
  omega
theorem Ok.acked {m N T : Nat} {s : Sn} (h : Ok m N T s) (n : Nat) : Ok m N T (s.acked n) := by
  unfold Sn.acked
  rcases ackL_cases n s.L with h1 | ⟨i, p, h1, _, h3⟩
  · rw [h1]; exact h
  · rw [h3]; exact h.drop (List.getElem?_eq_some_iff.1 h1).1
theorem Ok.grown {m N T : Nat} {s : Sn} (h : Ok m N T s) (hn : s.hasNew = true) {now : Nat} (hw : now ≤ T) : Ok m (N + 1) T (s.grown now) := by
  have hl : s.L.length < 8 := by unfold Sn.hasNew at hn; simp at hn; exact hn.1
  have hb : (s.grown now).base = s.base := base_of (by unfold Sn.grown; rw [List.getElem?_append_left (by have := h.pos; omega)]; exact base_get h.pos)
  have ht := h.rise _ _ (top_get h.pos)
  have hp := h.pos
  refine ⟨by simp [Sn.grown], by simp [Sn.grown]; omega, fun i p hi => ?_, fun p hm => ?_, fun p hm => ?_, fun p hm => ?_, h.now, hw⟩
  · rw [hb]
    unfold Sn.grown at hi
    by_cases c : i < s.L.length
    · exact h.rise i p (by rwa [List.getElem?_append_left c] at hi)
    · rw [List.getElem?_append_right (by omega)] at hi
      have c2 : i - s.L.length = 0 := by
        by_cases c2 : i - s.L.length = 0
        · exact c2
        · rw [show i - s.L.length = (i - s.L.length - 1) + 1 by omega] at hi; simp at hi
      rw [c2] at hi; simp at hi
      subst hi
      show s.top.num + 1 = _
      omega
  all_goals (simp only [Sn.grown, List.mem_append, List.mem_singleton] at hm; rcases hm with hm | rfl)
  · exact Nat.le_succ_of_le (h.num p hm)
  · exact Nat.succ_le_succ (h.num _ h.topMem)
  · exact h.tick p hm
  · exact hw
  · exact h.tx p hm
  · exact h.now
theorem Ok.resent {m N T : Nat} {s : Sn} (h : Ok m N T s) {now : Nat} (hw : now ≤ T) : Ok m N T (s.resent now) := by
  have hp := h.pos
  have each : ∀ (i : Nat) (p : St), (s.resent now).L[i]? = some p → ∃ q : St, s.L[i]? = some q ∧ p.num = q.num ∧ p.tx = q.tx ∧ (p.tick = q.tick ∨ p.tick = now) := by
    intro i p hi
    unfold Sn.resent at hi
    rw [List.getElem?_set] at hi
    by_cases c : s.L.length - 1 = i
    · rw [if_pos c, if_pos (by omega)] at hi
      cases hi
      exact ⟨s.top, by rw [← c]; exact top_get hp, rfl, rfl, .inr rfl⟩
    · rw [if_neg c] at hi
      exact ⟨p, hi, rfl, rfl, .inl rfl⟩
  have hl : (s.resent now).L.length = s.L.length := by simp [Sn.resent]
  have hb : (s.resent now).base.num = s.base.num := by
    obtain ⟨q, h1, h2, _⟩ := each 0 _ (base_get (s := s.resent now) (by omega))
    rw [base_get hp] at h1
    cases h1
    exact h2
  have mem : ∀ p ∈ (s.resent now).L, ∃ q ∈ s.L, p.num = q.num ∧ p.tx = q.tx ∧ (p.tick = q.tick ∨ p.tick = now) := by
    intro p hm
    obtain ⟨i, hi, rfl⟩ := List.mem_iff_getElem.1 hm
    obtain ⟨q, h1, h2⟩ := each i _ (List.getElem?_eq_getElem hi)
    exact ⟨q, List.mem_of_getElem? h1, h2⟩
  refine ⟨by omega, by have := h.few; omega, fun i p hi => ?_, fun p hm => ?_, fun p hm => ?_, fun p hm => ?_, h.now, hw⟩
  · obtain ⟨q, h1, h2, _⟩ := each i p hi
    rw [hb, h2]; exact h.rise i q h1
  · obtain ⟨q, h1, h2, _⟩ := mem p hm; rw [h2]; exact h.num q h1
  · obtain ⟨q, h1, _, _, h2 | h2⟩ := mem p hm
    · rw [h2]; exact h.tick q h1
    · rw [h2]; exact hw
  · obtain ⟨q, h1, _, h2, _⟩ := mem p hm; rw [h2]; exact h.tx q h1
theorem Ok.next {m N T : Nat} {s : Sn} (h : Ok m N T s) {now : Nat} (wait beat : Nat) (hw : now ≤ T) : Ok m (N + 1) T (s.next now wait beat) := by
  unfold Sn.next
  by_cases a : s.hasNew = true
  · rw [if_pos a]; exact h.grown a hw
  · rw [if_neg a]
    split
    · exact (h.resent hw).mono (Nat.le_refl _) (by omega) (Nat.le_refl _)
    · exact h.mono (Nat.le_refl _) (by omega) (Nat.le_refl _)
theorem cellsL_tick {L : List St} {i : Nat} {p : St} (hp : L[i]? = some p) (t : Nat) : (cellsL L).set (i * 3 + 1) (.int .u64 (t : Int)) = cellsL (L.set i ⟨p.num, t, p.tx⟩) := by
  induction L generalizing i with
  | nil => simp at hp
  | cons q r ih =>
    cases i with
    | zero => simp at hp; subst hp; rfl
    | succ i =>
      have e : (i + 1) * 3 + 1 = (i * 3 + 1) + 3 := by omega
      have := ih (i := i) (by simpa using hp)
      rw [cellsL, List.set_append_right _ _ (by rw [St.c_len]; omega), St.c_len, e, Nat.add_sub_cancel, this]
      rfl
end S15
end Go.Proofs.Ytngoighdpmeepaa
