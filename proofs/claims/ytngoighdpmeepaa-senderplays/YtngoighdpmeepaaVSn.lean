/-
  Layer 15: a sender as one value; each call told by it.
-/
import Derived.Test.YtngoighdpmeepaaVNext
import Derived.Test.YtngoighdpmeepaaVNext2
import Derived.Test.YtngoighdpmeepaaVNums
namespace Go.Proofs.Ytngoighdpmeepaa
open Go.RowKit
set_option linter.unusedVariables false
set_option linter.unusedSimpArgs false
set_option maxRecDepth 20000
namespace S15
/-- A sender's cells, its states in the block g. -/
def Sn.c (s : Sn) (g cap : Nat) : List Value := [.func (.func 34) #[] #[], .func (.func 35) #[] #[], .string s.now, .slice (some ⟨g, 0, none⟩) s.L.length cap, .int .u64 (s.last : Int)]
theorem Sn.c_all (s : Sn) (g cap : Nat) : (s.c g cap).toArray.all (·.oneCell') = true := by simp [Sn.c, Value.oneCell']
structure Held (w : World) (s : Sn) (g cap : Nat) : Prop where
  st : StAt w g 0 s.L
  le : s.L.length ≤ cap
  top : cap ≤ maxLen
theorem Held.lt {w : World} {s : Sn} {g cap : Nat} (h : Held w s g cap) : g < w.heap.size := h.st.lt
theorem Held.keep {w w' : World} {s : Sn} {g cap : Nat} (h : Held w s g cap) (hb : Below w.heap.size w w') : Held w' s g cap := ⟨h.st.keep hb, h.le, h.top⟩
theorem Held.drew {w : World} {s : Sn} {g cap : Nat} (h : Held w s g cap) : Held w.drew s g cap := ⟨h.st.drew, h.le, h.top⟩
theorem Held.alloc {w : World} {s : Sn} {g cap : Nat} (h : Held w s g cap) (o : Obj) : Held (w.alloc o) s g cap := ⟨h.st.alloc o, h.le, h.top⟩
theorem Held.setRow {w : World} {s : Sn} {g cap k : Nat} (h : Held w s g cap) (hk : g ≠ k) (c : Array Value) : Held (w.setRow k c) s g cap := ⟨h.st.setRow hk c, h.le, h.top⟩
theorem Held.other {w : World} {s : Sn} {g cap k i : Nat} (h : Held w s g cap) (hk : g ≠ k) (v : Value) : Held (w.setCell ⟨k, i, none⟩ v) s g cap := ⟨h.st.other hk v, h.le, h.top⟩
/-- What an instruction tells. -/
def Sn.io (s : Sn) (tk wait beat : Nat) : Nat := if s.goes tk wait beat then s.base.num else 0
def Sn.iN (s : Sn) (tk wait beat : Nat) : Nat := if s.goes tk wait beat then (s.next tk wait beat).top.num else 0
def Sn.ia (s : Sn) (tk wait beat ack : Nat) : Nat := if s.goes tk wait beat then ack else 0
def Sn.id (s : Sn) (tk wait beat : Nat) : ByteArray := if s.goes tk wait beat then s.base.tx ++ ⟨#[62]⟩ ++ (s.next tk wait beat).top.tx else ⟨#[]⟩
end S15

set_option maxHeartbeats 1000000 in
theorem new_sn (t : ByteArray) (w : World) :
    Calls Try.prog 13 #[.string t, .agg #[.func (.func 34) #[] #[], .func (.func 35) #[] #[]]] w fun e w' => ∃ g cap, e = .returned (.agg ((S15.new t).c g cap).toArray) ∧ S15.Held w' (S15.new t) g cap ∧ Below w.heap.size w w' := by
  refine (new_any15 t w).mono ?_
  rintro e w' ⟨g, rfl, hs, hb⟩
  exact ⟨g, 1, rfl, ⟨hs, Nat.le_refl _, by decide⟩, hb⟩
theorem set_sn (s : S15.Sn) (u : ByteArray) (g cap : Nat) (w : World) (hh : S15.Held w s g cap) (hp : 1 ≤ s.L.length) :
    Calls Try.prog 16 #[.agg (s.c g cap).toArray, .string u] w fun e w' => e = .returned (.agg ((s.set u).c g cap).toArray) ∧ S15.Held w' (s.set u) g cap ∧ Below w.heap.size w w' := by
  obtain ⟨now, L, last⟩ := s
  obtain ⟨n, hn⟩ : ∃ n, L.length = n + 1 := ⟨L.length - 1, by simp at hp; omega⟩
  unfold S15.Sn.c S15.Sn.set
  simp only [hn]
  refine (set_any15 now u g n cap last w).mono ?_
  rintro e w' ⟨rfl, hb⟩
  exact ⟨rfl, ⟨hh.st.keep hb, hh.le, hh.top⟩, hb⟩
theorem current_sn (s : S15.Sn) (g cap : Nat) (w : World) {m N T : Nat} (hO : S15.Ok m N T s) (hh : S15.Held w s g cap) :
    Calls Try.prog 24 #[.agg (s.c g cap).toArray] w fun e w' => e = .returned (.string s.now) ∧ Below w.heap.size w w' := by
  have hp := S15.top_get hO.pos
  have h8 := hO.few
  have h1 := hO.pos
  obtain ⟨p, hpp⟩ : ∃ p, p = s.top := ⟨_, rfl⟩
  rw [← hpp] at hp
  obtain ⟨now, L, last⟩ := s
  obtain ⟨n, hn⟩ : ∃ n, L.length = n + 1 := ⟨L.length - 1, by simp at h1; omega⟩
  unfold S15.Sn.c
  simp only [hn, Nat.add_sub_cancel] at hp ⊢
  exact current_any now g n cap last L p w hn (by simp only [hn] at h8; omega) hp hh.st
theorem first_sn (s : S15.Sn) (g cap : Nat) (w : World) {m N T : Nat} (hO : S15.Ok m N T s) (hh : S15.Held w s g cap) :
    Calls Try.prog 25 #[.agg (s.c g cap).toArray] w fun e w' => e = .returned (.string s.base.tx) ∧ Below w.heap.size w w' := by
  have hp := S15.top_get hO.pos
  have hq := S15.base_get hO.pos
  have h8 := hO.few
  have h1 := hO.pos
  obtain ⟨p, hpp⟩ : ∃ p, p = s.top := ⟨_, rfl⟩
  obtain ⟨q, hqq⟩ : ∃ q, q = s.base := ⟨_, rfl⟩
  rw [← hpp] at hp
  rw [← hqq] at hq ⊢
  obtain ⟨now, L, last⟩ := s
  obtain ⟨n, hn⟩ : ∃ n, L.length = n + 1 := ⟨L.length - 1, by simp at h1; omega⟩
  unfold S15.Sn.c
  simp only [hn, Nat.add_sub_cancel] at hp ⊢
  exact first_any now g n cap last L p w hn (by simp only [hn] at h8; omega) hp hh.st q hq
theorem quiet_sn (s : S15.Sn) (g cap : Nat) (w : World) {m N T : Nat} (hO : S15.Ok m N T s) (hh : S15.Held w s g cap) :
    Calls Try.prog 26 #[.agg (s.c g cap).toArray] w fun e w' => e = .returned (.bool s.quiet) ∧ Below w.heap.size w w' := by
  have hp := S15.top_get hO.pos
  have h8 := hO.few
  have h1 := hO.pos
  unfold S15.Sn.quiet S15.Sn.unsent
  obtain ⟨p, hpp⟩ : ∃ p, p = s.top := ⟨_, rfl⟩
  rw [← hpp] at hp ⊢
  obtain ⟨now, L, last⟩ := s
  obtain ⟨n, hn⟩ : ∃ n, L.length = n + 1 := ⟨L.length - 1, by simp at h1; omega⟩
  unfold S15.Sn.c
  simp only [hn, Nat.add_sub_cancel] at hp ⊢
  refine (quiet_any now g n cap last L p w hn (by simp only [hn] at h8; omega) hp hh.st).mono ?_
  rintro e w' ⟨rfl, hb⟩
  refine ⟨?_, hb⟩
  congr 2
  by_cases c : n = 0 <;> by_cases d : now = p.tx <;> simp [c, d]
theorem hasNew_eq {s : S15.Sn} {n : Nat} (hn : s.L.length = n + 1) : (decide (n < 7) && !decide (s.now = s.top.tx)) = s.hasNew := by
  unfold S15.Sn.hasNew S15.Sn.unsent
  rw [hn]
  by_cases c : n < 7 <;> by_cases d : s.now = s.top.tx <;> simp [c, d] <;> omega
theorem due_sn (s : S15.Sn) (g cap wait beat : Nat) (w : World) {m N T : Nat} (hO : S15.Ok m N T s) (hT : T ≤ 18446744073709551615) (hw : wait ≤ 18446744073709551615) (hb : beat ≤ 18446744073709551615) (hh : S15.Held w s g cap) :
    Calls Try.prog 20 #[.agg (s.c g cap).toArray, .int .u64 (wait : Int), .int .u64 (beat : Int)] w fun e w' => e = .returned (.int .u64 ((s.due wait beat : Nat) : Int)) ∧ Below w.heap.size w w' := by
  have hp := S15.top_get hO.pos
  have h8 := hO.few
  have h1 := hO.pos
  have hl := Nat.le_trans hO.last hT
  have ht := Nat.le_trans (hO.tick _ hO.topMem) hT
  obtain ⟨n, hn⟩ : ∃ n, s.L.length = n + 1 := ⟨s.L.length - 1, by omega⟩
  have hd := hasNew_eq hn
  have ha := S15.again_eq hn wait beat
  unfold S15.Sn.due
  rw [← hd, ha]
  obtain ⟨p, hpp⟩ : ∃ p, p = s.top := ⟨_, rfl⟩
  rw [← hpp] at hp ht ⊢
  clear hd ha hpp hO
  obtain ⟨now, L, last⟩ := s
  unfold S15.Sn.c
  simp only [hn, Nat.add_sub_cancel] at hp ⊢
  exact due_any now g n cap last L p w hn (by simp only [hn] at h8; omega) hp hh.st wait beat hw hb hl ht
theorem acked_sn (s : S15.Sn) (g cap k : Nat) (w : World) {m N T : Nat} (hO : S15.Ok m N T s) (hh : S15.Held w s g cap) :
    Calls Try.prog 17 #[.agg (s.c g cap).toArray, .int .u64 (k : Int)] w fun e w' => ∃ g' cap', e = .returned (.agg ((s.acked k).c g' cap').toArray) ∧ S15.Held w' (s.acked k) g' cap' ∧ Below w.heap.size w w' := by
  have h8 := hO.few
  have h1 := hO.pos
  have hr : ∀ (i j : Nat) (p q : S15.St), i < j → s.L[i]? = some p → s.L[j]? = some q → p.num < q.num := fun i j p q hij hp hq => by
    rw [hO.rise i p hp, hO.rise j q hq]; omega
  have hA := (hO.acked k).pos
  obtain ⟨n, hn⟩ : ∃ n, s.L.length = n + 1 := ⟨s.L.length - 1, by omega⟩
  obtain ⟨m', hm⟩ : ∃ m', (s.acked k).L.length = m' + 1 := ⟨(s.acked k).L.length - 1, by omega⟩
  clear hO
  obtain ⟨now, L, last⟩ := s
  unfold S15.Sn.acked at hm hA ⊢
  unfold S15.Sn.c
  have hle := hh.le
  simp only [hn] at h8 hle
  simp only [hn, hm]
  refine (acked_any now g n cap last k m' L _ w hn (by omega) hh.st rfl hm ⟨hle, hh.top⟩ hr).mono ?_
  rintro e w' ⟨g', cap', rfl, hs, ⟨h2, h3⟩, hb⟩
  exact ⟨g', cap', rfl, ⟨hs, by simp only [hm]; exact h2, h3⟩, hb⟩
theorem nums_sn (s : S15.Sn) (g cap : Nat) (w : World) {m N T : Nat} (hO : S15.Ok m N T s) (hh : S15.Held w s g cap) :
    Calls Try.prog 21 #[.agg (s.c g cap).toArray] w fun e w' => ∃ g', e = .returned (.slice (some ⟨g', 0, none⟩) s.L.length s.L.length) ∧ w'.ownsRow w.heap.size 22 1 (.slice (some ⟨g', 0, none⟩) s.L.length s.L.length) s.L.length (S15.nums s.L) ∧ Below w.heap.size w w' := by
  have h8 := hO.few
  have h1 := hO.pos
  obtain ⟨n, hn⟩ : ∃ n, s.L.length = n + 1 := ⟨s.L.length - 1, by omega⟩
  clear hO
  obtain ⟨now, L, last⟩ := s
  unfold S15.Sn.c
  simp only [hn] at h8 ⊢
  exact nums_any now g n cap last L w hn (by omega) hh.st
set_option maxHeartbeats 2000000 in
theorem next_sn (s : S15.Sn) (g cap tk wait beat ack : Nat) (w : World) {m N T : Nat} (hO : S15.Ok m N T s) (hm : m ≤ 1099511627776) (hN : N < 18446744073709551615) (hT : T ≤ 18446744073709551615) (hw : wait ≤ 18446744073709551615) (hbt : beat ≤ 18446744073709551615) (hh : S15.Held w s g cap) :
    Calls Try.prog 22 #[.agg (s.c g cap).toArray, .int .u64 (tk : Int), .int .u64 (wait : Int), .int .u64 (beat : Int), .int .u64 (ack : Int)] w fun e w' => ∃ g' cap', e = .returned (.tuple #[.agg ((s.next tk wait beat).c g' cap').toArray, .agg #[.int .u64 (s.io tk wait beat : Int), .int .u64 (s.iN tk wait beat : Int), .int .u64 (s.ia tk wait beat ack : Int), .int .u64 (s.io tk wait beat : Int), .string (s.id tk wait beat)], .bool (s.goes tk wait beat)]) ∧ S15.Held w' (s.next tk wait beat) g' cap' ∧ Below w.heap.size w w' := by
  have hp := S15.top_get hO.pos
  have hq := S15.base_get hO.pos
  have h8 := hO.few
  have h1 := hO.pos
  have hl := Nat.le_trans hO.last hT
  have ht := Nat.le_trans (hO.tick _ hO.topMem) hT
  have hpn := Nat.lt_of_le_of_lt (hO.num _ hO.topMem) hN
  have hbx := Nat.le_trans (hO.tx _ hO.baseMem) hm
  have hpx := Nat.le_trans (hO.tx _ hO.topMem) hm
  have hnx := Nat.le_trans hO.now hm
  obtain ⟨n, hn⟩ : ∃ n, s.L.length = n + 1 := ⟨s.L.length - 1, by omega⟩
  rw [hn, Nat.add_sub_cancel] at hp
  have hd := hasNew_eq hn
  have ha := S15.again_eq hn wait beat
  have hcap : n + 1 ≤ cap ∧ cap ≤ maxLen := ⟨by rw [← hn]; exact hh.le, hh.top⟩
  have hsc : S15.Sn.c s g cap = [.func (.func 34) #[] #[], .func (.func 35) #[] #[], .string s.now, .slice (some ⟨g, 0, none⟩) (n + 1) cap, .int .u64 (s.last : Int)] := by unfold S15.Sn.c; rw [hn]
  rw [hsc]
  unfold S15.Sn.io S15.Sn.iN S15.Sn.ia S15.Sn.id S15.Sn.goes S15.Sn.next
  rw [ha]
  cases hnew : s.hasNew with
  | true =>
    simp only [Bool.true_or, if_true]
    have htop : (s.grown tk).top = ⟨s.top.num + 1, tk, s.now⟩ := S15.top_of (l := s.L) rfl
    rw [htop]
    refine (next_new s.now g n cap s.last s.L s.top w hn (by omega) hp hh.st tk wait beat ack hw hbt hl ht hcap s.base hq hbx hnx hpn (s.top.num + 1) rfl (by rw [hd]; exact hnew)).mono ?_
    rintro e w' ⟨g', cap', rfl, hs, hc, hb⟩
    refine ⟨g', cap', ?_, ⟨hs, by simp [S15.Sn.grown, hn]; exact hc.1, hc.2⟩, hb⟩
    unfold S15.Sn.c S15.Sn.grown
    simp [hn]
  | false =>
    simp only [Bool.false_or]
    by_cases hle : S15.againN n s.last s.top.tick wait beat ≤ tk
    · simp only [decide_eq_true hle, if_true, if_pos hle, Bool.false_eq_true, if_false]
      have hlr : (s.resent tk).L.length = n + 1 := by simp [S15.Sn.resent, hn]
      have htop : (s.resent tk).top = ⟨s.top.num, tk, s.top.tx⟩ := S15.top_at hlr (by show (s.L.set (s.L.length - 1) _)[n]? = _; rw [hn, Nat.add_sub_cancel, List.getElem?_set]; simp [hn])
      have hL : (s.resent tk).L = s.L.set n ⟨s.top.num, tk, s.top.tx⟩ := by unfold S15.Sn.resent; rw [hn, Nat.add_sub_cancel]
      obtain ⟨b, hb1, hb2, hb3⟩ : ∃ b : S15.St, (s.L.set n ⟨s.top.num, tk, s.top.tx⟩)[0]? = some b ∧ b.num = s.base.num ∧ b.tx = s.base.tx := by
        by_cases c : n = 0
        · subst c
          have : s.top = s.base := by rw [hp] at hq; exact Option.some.inj hq
          exact ⟨⟨s.top.num, tk, s.top.tx⟩, by rw [List.getElem?_set]; simp [hn], by rw [this], by rw [this]⟩
        · exact ⟨s.base, by rw [List.getElem?_set, if_neg c]; exact hq, rfl, rfl⟩
      rw [htop]
      refine (next_again s.now g n cap s.last s.L s.top w hn (by omega) hp hh.st tk wait beat ack hw hbt hl ht hcap b hb1 (by rw [hb3]; exact hbx) hpx (by rw [hd]; exact hnew) hle).mono ?_
      rintro e w' ⟨g', cap', rfl, hs, hc, hb⟩
      refine ⟨g', cap', ?_, ⟨by rw [hL]; exact hs, by rw [hlr]; exact hc.1, hc.2⟩, hb⟩
      unfold S15.Sn.c
      rw [hlr, hb2, hb3]
      rfl
    · simp only [decide_eq_false hle, if_neg hle, Bool.false_eq_true, if_false]
      refine (next_none s.now g n cap s.last s.L s.top w hn (by omega) hp hh.st tk wait beat ack hw hbt hl ht hcap (by rw [hd]; exact hnew) (by omega)).mono ?_
      rintro e w' ⟨rfl, hb⟩
      refine ⟨g, cap, ?_, hh.keep hb, hb⟩
      rw [hsc]
      rfl
end Go.Proofs.Ytngoighdpmeepaa
