/-
  Layer 1: the walk of WordParts: it answers true at every text and sizes.
-/
import Derived.Test.YtiocibllmaakkaaAwake
import Derived.Test.YtiocibllmaakkaaPartsLaws
import Derived.Test.YtiocibllmaakkaaConcatI
import Derived.Test.YtiocibllmaakkaaConcatS
import Derived.OpenShut
namespace Go.Proofs.Ytiocibllmaakkaa.WordPartsW
open Go.RowKit
set_option linter.unusedVariables false

def ints (zs : List Int) : List Value := zs.map (Value.int .i64)

theorem vals_of_ints {w : World} {B : Nat} {ao : Option Addr} {zs : List Int} (h : IsInts w B ao zs) : IsValsI w B ao (ints zs) := by
  refine ⟨fun hn => ?_, fun ad ha => ⟨fun hl => ?_, fun j u hj => ?_⟩, fun u hu => ?_⟩
  · cases zs with
    | nil => rfl
    | cons z zs => obtain ⟨b, off, h1, _⟩ := h (by simp); rw [hn] at h1; cases h1
  · obtain ⟨b, off, h1, h2, _⟩ := h (by simpa [ints] using hl)
    rw [ha] at h1; cases h1; exact h2
  · have hjl : j < zs.length := by have := (List.getElem?_eq_some_iff.1 hj).1; simpa [ints] using this
    obtain ⟨b, off, h1, h2, h3⟩ := h (by omega)
    rw [ha] at h1; cases h1
    have ea : (⟨b, off, none⟩ : Addr).add j = ⟨b, off + j, none⟩ := by unfold Addr.add; split <;> simp_all
    rw [ea, h3 j hjl]
    simp only [ints, List.getElem?_map, List.getElem?_eq_getElem hjl, Option.map_some] at hj
    rw [List.getD_eq_getElem?_getD, List.getElem?_eq_getElem hjl]
    exact hj
  · obtain ⟨z, _, rfl⟩ := List.mem_map.1 hu; rfl

theorem ints_of_own {w : World} {B e n : Nat} {v : Value} {zs : List Int} (h : w.ownsRow B e 1 v n (ints zs)) : ∃ ao cap, v = .slice ao zs.length cap ∧ IsInts w w.heap.size ao zs := by
  have hl : zs.length = n := by have := h.1; simpa [ints] using this
  subst hl
  rcases h.2 with ⟨rfl, h0⟩ | ⟨g, cap, cur, rfl, hg, hh, r⟩
  · exact ⟨none, 0, by rw [h0], fun hp => by omega⟩
  · refine ⟨_, cap, rfl, fun hp => ⟨g, 0, rfl, (h.lt _ rfl).2, fun i hi => ?_⟩⟩
    rw [Nat.zero_add, h.cellAt i (by omega)]
    simp [ints, List.getElem?_eq_getElem hi]

theorem isInts_below {w w' : World} {ao : Option Addr} {zs : List Int} (h : IsInts w w.heap.size ao zs) (hb : Below w.heap.size w w') : IsInts w' w'.heap.size ao zs := fun hp => by
  obtain ⟨b, off, h1, h2, h3⟩ := h hp
  exact ⟨b, off, h1, Nat.lt_of_lt_of_le h2 hb.size, fun i hi => (hb.cell (by exact h2)).trans (h3 i hi)⟩

theorem concat_ints (b : Nat) (a1 a2 : Option Addr) (c1 c2 : Nat) (za zb : List Int) (x : World) (hbw : b < x.heap.size) (ha : za.length ≤ 1000) (hb : zb.length ≤ 1000)
    (h1 : x.cell? ⟨b, 0, none⟩ = some (.slice a1 za.length c1)) (h2 : x.cell? ⟨b, 1, none⟩ = some (.slice a2 zb.length c2)) (hn1 : a1 = none → c1 = 0) (hn2 : a2 = none → c2 = 0) (i1 : IsInts x x.heap.size a1 za) (i2 : IsInts x x.heap.size a2 zb) :
    Calls Try.prog 21 #[.slice (some ⟨b, 0, none⟩) 2 2] x fun e w' => ∃ (zc : List Int) (ao : Option Addr) (cap : Nat), e = .returned (.slice ao zc.length cap) ∧ Hid (zc = za ++ zb) ∧ IsInts w' w'.heap.size ao zc ∧ Below x.heap.size x w' := by
  refine (concatI_any b a1 a2 c1 c2 (ints za) (ints zb) x hbw (by simpa [ints] using ha) (by simpa [ints] using hb) (by simpa [ints] using h1) (by simpa [ints] using h2) hn1 hn2 (vals_of_ints i1) (vals_of_ints i2)).mono ?_
  rintro e w' ⟨v, rfl, ho, hbl⟩
  have e1 : ints za ++ ints zb = ints (za ++ zb) := by simp [ints]
  rw [e1] at ho
  obtain ⟨ao, cap, rfl, hi⟩ := ints_of_own ho
  exact ⟨za ++ zb, ao, cap, rfl, rfl, hi, hbl⟩

theorem vals_of_strs {x : World} {B g n m cap : Nat} {P : List (List UInt8)} (ho : x.ownsRow B 9 1 (.slice (some ⟨g, 0, none⟩) n cap) n (W.strs P)) : IsValsS x x.heap.size (some ⟨g, 0, none⟩) (W.strs (P.take m)) := by
  refine ⟨fun h => (by cases h), fun ad ha => ?_, fun u hu => ?_⟩
  · cases ha
    refine ⟨fun _ => (ho.lt _ rfl).2, fun j u hj => ?_⟩
    have hlen : P.length = n := by have := ho.1; simpa [W.strs] using this
    have hj' : j < P.length := by have := (List.getElem?_eq_some_iff.1 hj).1; simp [W.strs] at this; omega
    have ea : (⟨g, 0, none⟩ : Addr).add j = ⟨g, j, none⟩ := by unfold Addr.add; split <;> simp_all
    rw [ea, ho.cellAt j (by omega)]
    simp only [W.strs, List.getElem?_map] at hj ⊢
    rw [← hj, List.getElem?_take]
    split
    · rfl
    · next h =>
      rw [List.getElem?_take, if_neg h] at hj
      cases hj
  · obtain ⟨y, _, rfl⟩ := List.mem_map.1 hu; rfl

/-- The first n parts of one list, and all of another. -/
theorem concat_strs (b g1 g2 n m B1 B2 c1 : Nat) (P Q : List (List UInt8)) (x : World) (hbw : b < x.heap.size) (hn : n + 1 ≤ 1000) (hm : m ≤ 1000)
    (h1 : x.cell? ⟨b, 0, none⟩ = some (.slice (some ⟨g1, 0, none⟩) n c1)) (h2 : x.cell? ⟨b, 1, none⟩ = some (.slice (some ⟨g2, 0, none⟩) m m))
    (o1 : x.ownsRow B1 9 1 (.slice (some ⟨g1, 0, none⟩) (n + 1) (n + 1)) (n + 1) (W.strs P)) (o2 : x.ownsRow B2 9 1 (.slice (some ⟨g2, 0, none⟩) m m) m (W.strs Q)) :
    Calls Try.prog 23 #[.slice (some ⟨b, 0, none⟩) 2 2] x fun e w' => ∃ v, e = .returned v ∧ w'.ownsRow x.heap.size 9 1 v (n + m) (W.strs (P.take n ++ Q)) ∧ Below x.heap.size x w' := by
  have lP : P.length = n + 1 := by have := o1.1; simpa [W.strs] using this
  have lQ : Q.length = m := by have := o2.1; simpa [W.strs] using this
  have l1 : (W.strs (P.take n)).length = n := by simp [W.strs]; omega
  have l2 : (W.strs Q).length = m := by simp [W.strs, lQ]
  have vQ : IsValsS x x.heap.size (some ⟨g2, 0, none⟩) (W.strs Q) := by
    have := vals_of_strs (m := Q.length) o2
    rwa [List.take_length] at this
  refine (concatS_any b (some ⟨g1, 0, none⟩) (some ⟨g2, 0, none⟩) c1 m (W.strs (P.take n)) (W.strs Q) x hbw (by omega) (by omega) (by rw [l1]; exact h1) (by rw [l2]; exact h2) (fun h => (by cases h)) (fun h => (by cases h)) (vals_of_strs o1) vQ).mono ?_
  rintro e w' ⟨v, rfl, ho, hbl⟩
  rw [l1, l2] at ho
  exact ⟨v, rfl, by simpa [W.strs] using ho, hbl⟩

theorem own_mono {x y : World} {B e n : Nat} {v : Value} {xs : List Value} (h : x.ownsRow B e 1 v n xs) (hb : Below x.heap.size x y) : y.ownsRow B e 1 v n xs := own_below h hb

/-- slices.Equal of two lists of texts that lie in rows of their own. -/
theorem equal_strs (g n B1 B2 k : Nat) (v : Value) (P : List (List UInt8)) (x : World) (hk : 0 < k) (hn : n = k) (hkl : k ≤ 1000)
    (o1 : x.ownsRow B1 9 1 (.slice (some ⟨g, 0, none⟩) n n) n (W.strs P)) (o2 : x.ownsRow B2 9 1 v k (W.strs P)) :
    Calls Try.prog 22 #[.slice (some ⟨g, 0, none⟩) n n, v] x fun e w' => e = .returned (.bool true) ∧ Below x.heap.size x w' := by
  subst hn
  rcases o2.2 with ⟨_, h0⟩ | ⟨g2, cap, cur, rfl, _, _, _⟩
  · omega
  · have lP : P.length = n := by have := o1.1; simpa [W.strs] using this
    refine (Try.slices_Equal_string g 0 n n g2 0 n cap (P.map arr) (P.map arr) x (by simp; omega) (by simp; omega) (by omega) (by omega) (own_strs o1) (own_strs o2)).mono ?_
    rintro e w' ⟨rfl, q, rfl⟩
    exact ⟨by rw [decide_eq_true rfl], below_drewN (Below.refl _ _) q⟩

set_option maxHeartbeats 4000000 in
theorem core (s : List UInt8) (a1 a2 : Option Addr) (c1 c2 : Nat) (za zb : List Int) (w : World) (hs : s.length ≤ 300) (ha : za.length ≤ 20) (hb : zb.length ≤ 20) (h1 : IsInts w w.heap.size a1 za) (h2 : IsInts w w.heap.size a2 zb) (hn1 : a1 = none → c1 = 0) (hn2 : a2 = none → c2 = 0) :
    Calls Try.prog 7 #[.string ⟨s.toArray⟩, .slice a1 za.length c1, .slice a2 zb.length c2] w fun e w' => e = .returned (.bool true) ∧ Below w.heap.size w w' := by
  go_enter Try.func7, Try.ntmps7
  go_wp2_with fail
  refine (awake_any _).mono ?_
  rintro e w1 ⟨rfl, hb1⟩
  have g1 := isInts_below h1 hb1
  have g2 := isInts_below h2 hb1
  clear h1 h2
  go_wp2_with fail
  refine (cut_any s a1 c1 za w1 (by omega) (by omega) g1).mono ?_
  rintro e w2 ⟨v, rfl, hv, hb2⟩
  have k1 := isInts_below g1 hb2
  have k2 := isInts_below g2 hb2
  have hbw : Below w.heap.size w w2 := hb1.trans (hb2.mono hb1.size)
  clear g1 g2
  have hw2 := hbw.size
  go_wp2_with fail
  refine (concat_ints _ a1 a2 c1 c2 za zb _ ?q0 (by omega) (by omega) ?q1 ?q2 hn1 hn2 ?q3 ?q4).mono ?_
  case q0 => simp
  case q1 => simp
  case q2 => simp
  case q3 => exact isInts_below k1 ((Below.refl _ _).alloc (Nat.le_refl _) _)
  case q4 => exact isInts_below k2 ((Below.refl _ _).alloc (Nat.le_refl _) _)
  rintro e w3 ⟨zc, ao, cap, rfl, HC, hi3, hb3⟩
  have hb3' : Below w2.heap.size w2 w3 := ((Below.refl _ _).alloc (Nat.le_refl _) _).trans (hb3.mono (by simp))
  have hlc : zc.length = za.length + zb.length := by rw [HC.out]; simp
  have HLC := Lib.hid hlc
  have hlc' : zc.length ≤ 40 := by omega
  clear hb3 hlc
  go_wp2_with fail
  refine (cut_any s ao cap zc w3 (by omega) (by omega) hi3).mono ?_
  rintro e w4 ⟨v4, rfl, hv4, hb4⟩
  have hbx : Below w2.heap.size w2 w4 := hb3'.trans (hb4.mono hb3'.size)
  have hby : Below w.heap.size w w4 := hbw.trans (hbx.mono hw2)
  clear hi3
  rcases hv with ⟨he, rfl, hpl, ho⟩ | ⟨hne, rfl⟩
  · have HA : Hid (W.cutE s zc = _) := (congrArg (W.cutE s) HC.out).trans (W.cut_app za zb s he)
    have hle := W.cut_part_le za s za.length
    have ho4 := own_mono ho hbx
    have hlt4 := (ho4.lt _ rfl).2
    have hat : w4.cell? ⟨w1.heap.size, za.length, none⟩ = some (.string ⟨((W.cutE s za).1.getD za.length []).toArray⟩) := by
      rw [ho4.cellAt za.length (by omega), W.strs_at _ _ (by omega)]
    generalize hP : (W.cutE s za).1 = P at *
    have k4 := isInts_below k2 hbx
    rw [he]
    clear he hP k1 k2 ho hbx
    generalize P.getD za.length [] = t at *
    go_wp2_with fail
    refine (cut_any t a2 c2 zb w4 (by omega) (by omega) k4).mono ?_
    rintro e w5 ⟨v5, rfl, hv5, hb5⟩
    have hb6 := hby.trans (hb5.mono hby.size)
    clear k4 hat
    rcases hv5 with ⟨he5, rfl, hpl5, ho5⟩ | ⟨hne5, rfl⟩
    · rw [if_pos he5] at HA
      have hE : (W.cutE s zc).2 = 0 := by rw [HA.out]
      rcases hv4 with ⟨_, rfl, hpl4, ho4c⟩ | ⟨hne4, _⟩
      · have hP4 : (W.cutE s zc).1 = P.take za.length ++ (W.cutE t zb).1 := by rw [HA.out]
        rw [hE, he5]
        clear hE he5
        have q1 := own_mono ho4 hb5
        have q4 := own_mono ho4c hb5
        rw [hP4] at q4
        clear ho4 ho4c hP4 HA
        generalize (W.cutE t zb).1 = Q at *
        go_wp2_with fail
        refine (concat_strs _ w1.heap.size w4.heap.size za.length (zb.length + 1) w1.heap.size w4.heap.size (za.length + 1) P Q _ ?r0 (by omega) (by omega) ?r1 ?r2 ?r3 ?r4).mono ?_
        case r0 => simp
        case r1 => simp
        case r2 => simp
        case r3 => exact q1.alloc _
        case r4 => exact ho5.alloc _
        rintro e w6 ⟨v6, rfl, ho6, hb7⟩
        have hb8 : Below w5.heap.size w5 w6 := ((Below.refl _ _).alloc (Nat.le_refl _) _).trans (hb7.mono (by simp))
        have q6 := own_mono q4 hb8
        have hb9 := hb6.trans (hb8.mono hb6.size)
        clear q4 q1 ho5 hb7 hb8 hb6 hby
        go_wp2_with fail
        refine (equal_strs _ _ _ _ _ v6 _ _ ?s0 ?s1 ?s2 q6 ho6).mono ?_
        case s0 => omega
        case s1 => have := HLC.out; omega
        case s2 => omega
        rintro e w7 ⟨rfl, hb10⟩
        have hb11 := hb9.trans (hb10.mono hb9.size)
        clear hb9 hb10 q6 ho6
        go_wp2
        go_ret
        exact ⟨rfl, hb11⟩
      · exact absurd hE hne4
    · rw [if_neg hne5] at HA
      have hE : (W.cutE s zc).2 = (W.cutE t zb).2 := by rw [HA.out]
      rcases hv4 with ⟨h0, _⟩ | ⟨_, rfl⟩
      · exact absurd (hE.symm.trans h0) hne5
      · rw [hE]
        clear hE HA
        have t1 : ((W.cutE t zb).2 != 0) = true := by rw [bne_iff_ne]; exact hne5
        go_wp2
        go_ret
        exact ⟨rfl, hb6⟩
  · have HA : Hid (W.cutE s zc = ([], (W.cutE s za).2)) := (congrArg (W.cutE s) HC.out).trans (W.cut_app_err za zb s hne)
    have t1 : ((W.cutE s za).2 != 0) = true := by rw [bne_iff_ne]; exact hne
    rcases hv4 with ⟨h0, _⟩ | ⟨_, rfl⟩
    · exact absurd (by rw [HA.out] at h0; exact h0) hne
    · rw [HA.out]
      clear HA
      go_wp2
      go_ret
      exact ⟨rfl, hby⟩

theorem row_nil {w : World} {a : Option Addr} {len cap : Nat} {zs : List Int} (h : IsRow .i64 w a len cap zs) : (a = none → cap = 0) ∧ len ≤ 9223372036854775807 := by
  rcases h with ⟨rfl, rfl, rfl, rfl⟩ | ⟨x, rfl, hl, hm, hz, hcell, hwz⟩
  · exact ⟨fun _ => rfl, by omega⟩
  · exact ⟨fun h => (by cases h), by unfold maxLen at hm; omega⟩

theorem walk (a0 : ByteArray) (a1 : Option Addr) (len1 cap1 : Nat) (z1 : List Int) (a2 : Option Addr) (len2 cap2 : Nat) (z2 : List Int) (w : World) (w0 : a0.size ≤ maxLen) (w1 : IsRow .i64 w a1 len1 cap1 z1) (w2 : IsRow .i64 w a2 len2 cap2 z2) :
    Calls Try.prog 7 #[.string a0, .slice a1 len1 cap1, .slice a2 len2 cap2] w fun e w' => e = .returned (.bool true) ∧ Below w.heap.size w w' := by
  obtain ⟨n1, m1⟩ := row_nil w1
  obtain ⟨n2, m2⟩ := row_nil w2
  by_cases hL : a0.size ≤ 300 ∧ len1 ≤ 20 ∧ len2 ≤ 20
  · obtain ⟨h1, l1⟩ := w1.ints
    obtain ⟨h2, l2⟩ := w2.ints
    have := core a0.data.toList a1 a2 cap1 cap2 (z1.take len1) (z2.take len2) w (by simpa using hL.1) (by omega) (by omega) h1 h2 n1 n2
    rw [l1, l2] at this
    exact this
  · unfold maxLen at w0
    clear w1 w2 n1 n2
    go_enter Try.func7, Try.ntmps7
    go_wp2_with fail
    refine (awake_any _).mono ?_
    rintro e w1 ⟨rfl, hb1⟩
    by_cases c : 300 < a0.size
    · go_wp2
      go_ret
      exact ⟨rfl, hb1⟩
    · by_cases c2 : 20 < len1
      · go_wp2
        go_ret
        exact ⟨rfl, hb1⟩
      · have c3 : 20 < len2 := by omega
        go_wp2
        go_ret
        exact ⟨rfl, hb1⟩

end Go.Proofs.Ytiocibllmaakkaa.WordPartsW
