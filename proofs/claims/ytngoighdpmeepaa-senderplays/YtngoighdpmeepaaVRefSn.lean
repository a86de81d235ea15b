/-
  Layer 15: the document's calls told by the same one value as the code's.
-/
import Derived.Test.YtngoighdpmeepaaVRefN
namespace Go.Proofs.Ytngoighdpmeepaa
open Go.RowKit
set_option linter.unusedVariables false
set_option linter.unusedSimpArgs false
set_option maxRecDepth 20000
namespace S15
/-- The document's sender in memory: its states in the block g, from off on. -/
structure RHeld (w : World) (s : Sn) (g off cap : Nat) : Prop where
  st : StAt w g off s.L
  le : s.L.length ≤ cap
theorem RHeld.lt {w : World} {s : Sn} {g off cap : Nat} (h : RHeld w s g off cap) : g < w.heap.size := h.st.lt
theorem RHeld.keep {w w' : World} {s : Sn} {g off cap : Nat} (h : RHeld w s g off cap) (hb : Below w.heap.size w w') : RHeld w' s g off cap := ⟨h.st.keep hb, h.le⟩
theorem RHeld.drew {w : World} {s : Sn} {g off cap : Nat} (h : RHeld w s g off cap) : RHeld w.drew s g off cap := ⟨h.st.drew, h.le⟩
theorem RHeld.alloc {w : World} {s : Sn} {g off cap : Nat} (h : RHeld w s g off cap) (o : Obj) : RHeld (w.alloc o) s g off cap := ⟨h.st.alloc o, h.le⟩
theorem RHeld.setRow {w : World} {s : Sn} {g off cap k : Nat} (h : RHeld w s g off cap) (hk : g ≠ k) (c : Array Value) : RHeld (w.setRow k c) s g off cap := ⟨h.st.setRow hk c, h.le⟩
theorem RHeld.other {w : World} {s : Sn} {g off cap k i : Nat} (h : RHeld w s g off cap) (hk : g ≠ k) (v : Value) : RHeld (w.setCell ⟨k, i, none⟩ v) s g off cap := ⟨h.st.other hk v, h.le⟩
/-- What goes from, and to. -/
def Sn.fr (s : Sn) (tk wait beat : Nat) : St := if s.goes tk wait beat then (s.next tk wait beat).base else zero
def Sn.to (s : Sn) (tk wait beat : Nat) : St := if s.goes tk wait beat then (s.next tk wait beat).top else zero
theorem next_base {m N T : Nat} {s : Sn} (h : Ok m N T s) (tk wait beat : Nat) : (s.next tk wait beat).base.num = s.base.num ∧ (s.next tk wait beat).base.tx = s.base.tx := by
  have hp := h.pos
  unfold Sn.next
  split
  · have hb : (s.grown tk).base = s.base := base_of (by unfold Sn.grown; rw [List.getElem?_append_left (by omega)]; exact base_get hp)
    rw [hb]; exact ⟨rfl, rfl⟩
  · split
    · obtain ⟨n, hn⟩ : ∃ n, s.L.length = n + 1 := ⟨s.L.length - 1, by omega⟩
      have hq := base_get hp
      have ht := top_get hp
      by_cases c : n = 0
      · subst c
        rw [hn] at ht
        have e : s.top = s.base := by rw [ht] at hq; exact Option.some.inj hq
        have : (s.resent tk).base = ⟨s.top.num, tk, s.top.tx⟩ := base_of (by unfold Sn.resent; rw [hn]; simp [hn])
        rw [this, e]; exact ⟨rfl, rfl⟩
      · have : (s.resent tk).base = s.base := base_of (by unfold Sn.resent; rw [hn, Nat.add_sub_cancel, List.getElem?_set, if_neg c]; exact hq)
        rw [this]; exact ⟨rfl, rfl⟩
    · exact ⟨rfl, rfl⟩
end S15

theorem rnew_sn (t : ByteArray) (w : World) :
    Calls Try.prog 15 #[.string t] w fun e w' => ∃ g, e = .returned (.agg #[.slice (some ⟨g, 0, none⟩) 1 1, .string t, .int .u64 0]) ∧ S15.RHeld w' (S15.new t) g 0 1 ∧ Below w.heap.size w w' := by
  refine (refNew15 t w).mono ?_
  rintro e w' ⟨g, rfl, hs, hb⟩
  exact ⟨g, rfl, ⟨hs, Nat.le_refl _⟩, hb⟩
theorem racked_sn (s : S15.Sn) (g off cap k : Nat) (w : World) {m N T : Nat} (hO : S15.Ok m N T s) (hh : S15.RHeld w s g off cap) :
    Calls Try.prog 18 #[.agg #[.slice (some ⟨g, off, none⟩) s.L.length cap, .string s.now, .int .u64 (s.last : Int)], .int .u64 (k : Int)] w fun e w' => ∃ off' cap', e = .returned (.agg #[.slice (some ⟨g, off', none⟩) (s.acked k).L.length cap', .string (s.acked k).now, .int .u64 ((s.acked k).last : Int)]) ∧ S15.RHeld w' (s.acked k) g off' cap' ∧ Below w.heap.size w w' := by
  have h8 := hO.few
  have h1 := hO.pos
  obtain ⟨n, hn⟩ : ∃ n, s.L.length = n + 1 := ⟨s.L.length - 1, by omega⟩
  have hle := hh.le
  rw [hn] at hle ⊢
  refine (refAcked15 s.now g off n cap s.last k s.L w hn (by omega) hle hh.st).mono ?_
  rintro e w' ⟨off', m', cap', rfl, hs, hm, hc, hb⟩
  have hL : (s.acked k).L.length = m' + 1 := hm
  refine ⟨off', cap', by rw [hL]; rfl, ⟨hs, by rw [hL]; exact hc⟩, hb⟩
theorem rdue_sn (s : S15.Sn) (g off cap wait beat : Nat) (w : World) {m N T : Nat} (hO : S15.Ok m N T s) (hT : T ≤ 18446744073709551615) (hw : wait ≤ 18446744073709551615) (hb : beat ≤ 18446744073709551615) (hh : S15.RHeld w s g off cap) :
    Calls Try.prog 19 #[.agg #[.slice (some ⟨g, off, none⟩) s.L.length cap, .string s.now, .int .u64 (s.last : Int)], .int .u64 (wait : Int), .int .u64 (beat : Int)] w fun e w' => e = .returned (.int .u64 ((s.due wait beat : Nat) : Int)) ∧ Below w.heap.size w w' := by
  have hp := S15.top_get hO.pos
  have h8 := hO.few
  have h1 := hO.pos
  have hl := Nat.le_trans hO.last hT
  have ht := Nat.le_trans (hO.tick _ hO.topMem) hT
  obtain ⟨n, hn⟩ : ∃ n, s.L.length = n + 1 := ⟨s.L.length - 1, by omega⟩
  have hd := hasNew_eq hn
  have ha := S15.again_eq hn wait beat
  unfold S15.Sn.due
  rw [← hd, ha, hn]
  rw [hn, Nat.add_sub_cancel] at hp
  exact refDue15 s.now g off n cap s.last s.L s.top w hn (by omega) hp hh.st wait beat hw hb hl ht
set_option maxHeartbeats 2000000 in
theorem rnext_sn (s : S15.Sn) (g off cap tk wait beat : Nat) (w : World) {m N T : Nat} (hO : S15.Ok m N T s) (hN : N < 18446744073709551615) (hT : T ≤ 18446744073709551615) (hw : wait ≤ 18446744073709551615) (hbt : beat ≤ 18446744073709551615) (hh : S15.RHeld w s g off cap) :
    Calls Try.prog 23 #[.agg #[.slice (some ⟨g, off, none⟩) s.L.length cap, .string s.now, .int .u64 (s.last : Int)], .int .u64 (tk : Int), .int .u64 (wait : Int), .int .u64 (beat : Int)] w fun e w' => ∃ g' off' cap', e = .returned (.tuple #[.agg #[.slice (some ⟨g', off', none⟩) (s.next tk wait beat).L.length cap', .string (s.next tk wait beat).now, .int .u64 ((s.next tk wait beat).last : Int)], .agg #[.int .u64 ((s.fr tk wait beat).num : Int), .int .u64 ((s.fr tk wait beat).tick : Int), .string (s.fr tk wait beat).tx], .agg #[.int .u64 ((s.to tk wait beat).num : Int), .int .u64 ((s.to tk wait beat).tick : Int), .string (s.to tk wait beat).tx], .bool (s.goes tk wait beat)]) ∧ S15.RHeld w' (s.next tk wait beat) g' off' cap' ∧ Below w.heap.size w w' := by
  have hp := S15.top_get hO.pos
  have hq := S15.base_get hO.pos
  have h8 := hO.few
  have h1 := hO.pos
  have hl := Nat.le_trans hO.last hT
  have ht := Nat.le_trans (hO.tick _ hO.topMem) hT
  have hpn := Nat.lt_of_le_of_lt (hO.num _ hO.topMem) hN
  obtain ⟨n, hn⟩ : ∃ n, s.L.length = n + 1 := ⟨s.L.length - 1, by omega⟩
  rw [hn, Nat.add_sub_cancel] at hp
  have hd := hasNew_eq hn
  have ha := S15.again_eq hn wait beat
  rw [hn]
  unfold S15.Sn.fr S15.Sn.to S15.Sn.goes S15.Sn.next
  rw [ha]
  cases hnew : s.hasNew with
  | true =>
    rw [hnew] at hd
    have hd2 : n < 7 ∧ ¬ s.now = s.top.tx := by simpa using hd
    simp only [Bool.true_or, if_true]
    have htop : (s.grown tk).top = ⟨s.top.num + 1, tk, s.now⟩ := S15.top_of (l := s.L) rfl
    have hbase : (s.grown tk).base = s.base := S15.base_of (by unfold S15.Sn.grown; rw [List.getElem?_append_left (by omega)]; exact hq)
    have hgl : (s.grown tk).L.length = n + 1 + 1 := by simp [S15.Sn.grown, hn]
    rw [htop, hbase, hgl]
    refine (refNext_new s.now g off n cap s.last s.L s.top w hn (by omega) hp hh.st tk wait beat hw hbt hl ht hd2.2 hd2.1 s.base hq hpn (s.top.num + 1) rfl).mono ?_
    rintro e w' ⟨g', cap', rfl, hs, hc, hb⟩
    exact ⟨g', 0, cap', rfl, ⟨hs, by rw [hgl]; exact hc⟩, hb⟩
  | false =>
    rw [hnew] at hd
    have hd2 : s.now = s.top.tx ∨ (¬ s.now = s.top.tx ∧ ¬ n < 7) := by
      by_cases c : s.now = s.top.tx
      · exact .inl c
      · refine .inr ⟨c, fun h7 => ?_⟩
        simp [c, h7] at hd
    simp only [Bool.false_or]
    by_cases hle : S15.againN n s.last s.top.tick wait beat ≤ tk
    · simp only [decide_eq_true hle, if_true, if_pos hle, Bool.false_eq_true, if_false]
      have hlr : (s.resent tk).L.length = n + 1 := by simp [S15.Sn.resent, hn]
      have htop : (s.resent tk).top = ⟨s.top.num, tk, s.top.tx⟩ := S15.top_at hlr (by show (s.L.set (s.L.length - 1) _)[n]? = _; rw [hn, Nat.add_sub_cancel, List.getElem?_set]; simp [hn])
      have hL : (s.resent tk).L = s.L.set n ⟨s.top.num, tk, s.top.tx⟩ := by unfold S15.Sn.resent; rw [hn, Nat.add_sub_cancel]
      have hbg := S15.base_get (s := s.resent tk) (by omega)
      rw [hL] at hbg
      rw [htop, hlr]
      refine (refNext_again s.now g off n cap s.last s.L s.top w hn (by omega) hp hh.st tk wait beat hw hbt hl ht hd2 hle _ hbg).mono ?_
      rintro e w' ⟨g', cap', rfl, hs, hc, hb⟩
      exact ⟨g', 0, cap', rfl, ⟨by rw [hL]; exact hs, by rw [hlr]; exact hc⟩, hb⟩
    · simp only [decide_eq_false hle, if_neg hle, Bool.false_eq_true, if_false]
      refine (refNext_none s.now g off n cap s.last s.L s.top w hn (by omega) hp hh.st tk wait beat hw hbt hl ht hd2 (by omega)).mono ?_
      rintro e w' ⟨rfl, hb⟩
      exact ⟨g, off, cap, by rw [hn]; rfl, hh.keep hb, hb⟩
end Go.Proofs.Ytngoighdpmeepaa
