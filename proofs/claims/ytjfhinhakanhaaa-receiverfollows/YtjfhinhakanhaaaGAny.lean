/-
  Layer 16: Take told by one relation.
-/
import Derived.Test.YtjfhinhakanhaaaGErr
import Derived.Test.YtjfhinhakanhaaaGLaw
namespace Go.Proofs.Ytjfhinhakanhaaa
open Go.RowKit
set_option linter.unusedVariables false
set_option linter.unusedSimpArgs false
set_option maxRecDepth 20000

namespace R16
theorem Pl.ex_from {L : List Cm} (hu : Up L) (n : Nat) : ∀ (m k : Nat), L.length - k ≤ m → k ≤ L.length → (∀ (j : Nat) (p : Cm), j < k → L[j]? = some p → p.num < n) → ∃ i, Pl L n i := by
  intro m
  induction m with
  | zero =>
    intro k h1 h2 h3
    exact ⟨k, h2, h3, fun j p hj hp => by have := (List.getElem?_eq_some_iff.1 hp).1; omega⟩
  | succ m ih =>
    intro k h1 h2 h3
    by_cases hk : k < L.length
    · by_cases hc : (L[k]'hk).num < n
      · refine ih (k + 1) (by omega) (by omega) (fun j p hj hp => ?_)
        rcases Nat.lt_or_ge j k with c | c
        · exact h3 j p c hp
        · obtain rfl : j = k := by omega
          rw [List.getElem?_eq_getElem hk] at hp
          obtain rfl := Option.some.inj hp
          exact hc
      · refine ⟨k, h2, h3, fun j p hj hp => ?_⟩
        rcases Nat.lt_or_ge k j with c | c
        · have := hu k j _ p c (List.getElem?_eq_getElem hk) hp
          omega
        · obtain rfl : j = k := by omega
          rw [List.getElem?_eq_getElem hk] at hp
          obtain rfl := Option.some.inj hp
          omega
    · exact ⟨k, h2, h3, fun j p hj hp => by have := (List.getElem?_eq_some_iff.1 hp).1; omega⟩
theorem Pl.ex {L : List Cm} (hu : Up L) (n : Nat) : ∃ i, Pl L n i := Pl.ex_from hu n L.length 0 (by omega) (by omega) (fun j p hj _ => by omega)
theorem at_some {L : List Cm} {n i : Nat} (h : at? L n i = true) : ∃ p, L[i]? = some p ∧ p.num = n := by
  unfold at? at h
  cases hp : L[i]? with
  | none => rw [hp] at h; cases h
  | some p => rw [hp] at h; exact ⟨p, rfl, of_decide_eq_true h⟩
theorem ins_lt {L : List Cm} {i j : Nat} {p q : Cm} (hi : i ≤ L.length) (hj : j < i) (h : (ins L i p)[j]? = some q) : L[j]? = some q := by
  unfold ins at h
  rw [List.getElem?_append_left (by rw [List.length_take]; omega), List.getElem?_take, if_pos hj] at h
  exact h
theorem ins_eq {L : List Cm} {i : Nat} {p : Cm} (hi : i ≤ L.length) : (ins L i p)[i]? = some p := by
  unfold ins
  rw [List.getElem?_append_right (by rw [List.length_take]; omega), List.length_take, Nat.min_eq_left hi, Nat.sub_self]; rfl
theorem ins_gt {L : List Cm} {i j : Nat} {p q : Cm} (hi : i ≤ L.length) (hj : i < j) (h : (ins L i p)[j]? = some q) : L[j - 1]? = some q := by
  unfold ins at h
  rw [List.getElem?_append_right (by rw [List.length_take]; omega), List.length_take, Nat.min_eq_left hi, show j - i = (j - i - 1) + 1 by omega, List.getElem?_cons_succ, List.getElem?_drop, show i + (j - i - 1) = j - 1 by omega] at h
  exact h
theorem Up.ins {L : List Cm} (hu : Up L) {n i : Nat} {p : Cm} (hP : Pl L n i) (hno : at? L n i = false) (hp : p.num = n) : Up (ins L i p) := by
  have hle := hP.le
  have hne : ∀ (j : Nat) (q : Cm), i ≤ j → L[j]? = some q → n < q.num := fun j q hj hq => by
    have h1 := hP.hi j q hj hq
    rcases Nat.lt_or_ge n q.num with c | c
    · exact c
    · have he : q.num = n := by omega
      rcases Nat.lt_or_ge i j with c2 | c2
      · have hil : i < L.length := by have := (List.getElem?_eq_some_iff.1 hq).1; omega
        have h2 := hP.hi i (L[i]'hil) (Nat.le_refl _) (List.getElem?_eq_getElem hil)
        have h3 := hu i j _ q c2 (List.getElem?_eq_getElem hil) hq
        omega
      · obtain rfl : j = i := by omega
        unfold at? at hno
        rw [hq] at hno
        exact absurd he (of_decide_eq_false hno)
  intro a b x y hab hx hy
  rcases Nat.lt_trichotomy a i with ha | ha | ha
  · have hx' := ins_lt hle ha hx
    rcases Nat.lt_trichotomy b i with hb | hb | hb
    · exact hu a b x y hab hx' (ins_lt hle hb hy)
    · subst hb
      rw [ins_eq hle] at hy
      obtain rfl := Option.some.inj hy
      rw [hp]; exact hP.lo a x ha hx'
    · have := ins_gt hle hb hy
      exact hu a (b - 1) x y (by omega) hx' this
  · subst ha
    rw [ins_eq hle] at hx
    obtain rfl := Option.some.inj hx
    rw [hp]
    exact hne (b - 1) y (by omega) (ins_gt hle hab hy)
  · exact hu (a - 1) (b - 1) x y (by omega) (ins_gt hle ha hx) (ins_gt hle (by omega) hy)
theorem Up.drop {L : List Cm} (hu : Up L) (a : Nat) : Up (L.drop a) := fun i j p q hij hp hq => by
  rw [List.getElem?_drop] at hp hq
  exact hu (a + i) (a + j) p q (by omega) hp hq
theorem ins_mem {L : List Cm} {i j : Nat} {p q : Cm} (hi : i ≤ L.length) (h : (ins L i p)[j]? = some q) : q = p ∨ ∃ k : Nat, L[k]? = some q := by
  rcases Nat.lt_trichotomy j i with c | c | c
  · exact .inr ⟨j, ins_lt hi c h⟩
  · subst c; rw [ins_eq hi] at h; exact .inl (Option.some.inj h).symm
  · exact .inr ⟨j - 1, ins_gt hi c h⟩

/-- What Take makes of the states, whether as the last one, and its code. -/
def Tk (L : List Cm) (o nn tt : Nat) (d : ByteArray) (L' : List Cm) (last : Bool) (code : Nat) : Prop :=
  (L' = L ∧ last = false ∧ ((code = 11 ∧ ∃ i : Nat, Pl L nn i ∧ at? L nn i = true) ∨ (code = 9 ∧ Pl L nn 0 ∧ at? L nn 0 = false) ∨ (code = 19 ∧ (∃ i : Nat, Pl L nn i ∧ at? L nn i = false ∧ 0 < i) ∧ (nn ≤ o ∨ ∀ (j : Nat) (q : Cm), L[j]? = some q → q.num ≠ o)) ∨ (code = 4 ∧ (∃ i : Nat, Pl L nn i ∧ at? L nn i = false ∧ 0 < i) ∧ (∃ (j : Nat) (q : Cm), L[j]? = some q ∧ q.num = o) ∧ o < nn ∧ bang d = true))) ∨
  (code = 0 ∧ ∃ (i jo : Nat) (po : Cm) (a : Nat), Pl L nn i ∧ at? L nn i = false ∧ 0 < i ∧ L[jo]? = some po ∧ po.num = o ∧ o < nn ∧ bang d = false ∧ last = decide (i = L.length) ∧ Kp (ins L i (Cm.mk nn (po.tx ++ d))) tt a ∧ L' = (ins L i (Cm.mk nn (po.tx ++ d))).drop a)
theorem Tk.up {L L' : List Cm} {o nn tt code : Nat} {d : ByteArray} {last : Bool} (h : Tk L o nn tt d L' last code) (hu : Up L) : Up L' := by
  rcases h with ⟨rfl, _⟩ | ⟨_, i, jo, po, a, hP, hno, _, _, _, _, _, _, _, rfl⟩
  · exact hu
  · exact (hu.ins hP hno rfl).drop a
theorem Tk.len {L L' : List Cm} {o nn tt code : Nat} {d : ByteArray} {last : Bool} (h : Tk L o nn tt d L' last code) (h8 : L.length ≤ 8) : L'.length ≤ 8 := by
  rcases h with ⟨rfl, _⟩ | ⟨_, i, jo, po, a, hP, hno, _, _, _, _, _, _, hK, rfl⟩
  · exact h8
  · rw [List.length_drop]
    rcases hK.2.2 with c | c <;> omega
theorem Tk.size {L L' : List Cm} {o nn tt code S D : Nat} {d : ByteArray} {last : Bool} (h : Tk L o nn tt d L' last code) (hS : ∀ (j : Nat) (q : Cm), L[j]? = some q → q.tx.size ≤ S) (hd : d.size ≤ D) : ∀ (j : Nat) (q : Cm), L'[j]? = some q → q.tx.size ≤ S + D := by
  intro j q hq
  rcases h with ⟨rfl, _⟩ | ⟨_, i, jo, po, a, hP, hno, _, hpo, _, _, _, _, hK, rfl⟩
  · have := hS j q hq; omega
  · rw [List.getElem?_drop] at hq
    rcases ins_mem hP.le hq with rfl | ⟨k, hk⟩
    · show (po.tx ++ d).size ≤ _
      rw [ByteArray.size_append]
      have := hS jo po hpo; omega
    · have := hS k q hk; omega
theorem Tk.last {L L' : List Cm} {o nn tt code m : Nat} {d : ByteArray} (h : Tk L o nn tt d L' true code) (hm : L'.length = m + 1) : ∃ q, L'[m]? = some q ∧ q.num = nn := by
  rcases h with ⟨_, h2, _⟩ | ⟨_, i, jo, po, a, hP, hno, _, hpo, _, _, _, hl, hK, rfl⟩
  · cases h2
  · have hi : i = L.length := of_decide_eq_true hl.symm
    have h1 := ins_len L i (Cm.mk nn (po.tx ++ d)) hP.le
    rw [List.length_drop] at hm
    refine ⟨Cm.mk nn (po.tx ++ d), ?_, rfl⟩
    rw [List.getElem?_drop, show a + m = i by omega]
    exact ins_eq hP.le
theorem Kp.uniq {L : List Cm} {t a b : Nat} (h : Kp L t a) (k : Kp L t b) : a = b := by
  have h1 := h.1; have k1 := k.1
  rcases Nat.lt_trichotomy a b with c | c | c
  · have := k.2.1 a (L[a]'(by omega)) c (List.getElem?_eq_getElem (by omega))
    rcases h.2.2 with d | ⟨d, e⟩
    · omega
    · have := d _ (List.getElem?_eq_getElem (by omega : a < L.length)); omega
  · exact c
  · have := h.2.1 b (L[b]'(by omega)) c (List.getElem?_eq_getElem (by omega))
    rcases k.2.2 with d | ⟨d, e⟩
    · omega
    · have := d _ (List.getElem?_eq_getElem (by omega : b < L.length)); omega
theorem Up.uniq {L : List Cm} (hu : Up L) {i j : Nat} {p q : Cm} (hp : L[i]? = some p) (hq : L[j]? = some q) (h : p.num = q.num) : i = j := by
  rcases Nat.lt_trichotomy i j with c | c | c
  · have := hu i j p q c hp hq; omega
  · exact c
  · have := hu j i q p c hq hp; omega
/-- Its answer is one. -/
theorem Tk.fn {L L1 L2 : List Cm} {o nn tt c1 c2 : Nat} {d : ByteArray} {l1 l2 : Bool} (hu : Up L) (h : Tk L o nn tt d L1 l1 c1) (k : Tk L o nn tt d L2 l2 c2) : L1 = L2 ∧ l1 = l2 ∧ c1 = c2 := by
  have cl : ∀ {i j : Nat} {x y : Bool}, Pl L nn i → at? L nn i = x → Pl L nn j → at? L nn j = y → i = j ∧ x = y := fun a b c d => by
    have := a.uniq c; subst this; exact ⟨rfl, b.symm.trans d⟩
  rcases h with ⟨rfl, rfl, ⟨rfl, i, hP, ha⟩ | ⟨rfl, hP, ha⟩ | ⟨rfl, ⟨i, hP, ha, hi⟩, ho⟩ | ⟨rfl, ⟨i, hP, ha, hi⟩, ⟨jo, po, hpo, hpn⟩, hlt, hb⟩⟩ | ⟨rfl, i, jo, po, a, hP, ha, hi, hpo, hpn, hlt, hb, rfl, hK, rfl⟩ <;>
  rcases k with ⟨rfl, rfl, ⟨rfl, i', hP', ha'⟩ | ⟨rfl, hP', ha'⟩ | ⟨rfl, ⟨i', hP', ha', hi'⟩, ho'⟩ | ⟨rfl, ⟨i', hP', ha', hi'⟩, ⟨jo', po', hpo', hpn'⟩, hlt', hb'⟩⟩ | ⟨rfl, i', jo', po', a', hP', ha', hi', hpo', hpn', hlt', hb', rfl, hK', rfl⟩ <;>
  (obtain ⟨e1, e2⟩ := cl hP ha hP' ha') <;>
  first
    | exact ⟨rfl, rfl, rfl⟩
    | (exact absurd e2 (by decide))
    | (exfalso; omega)
    | (exfalso; rcases ho with z | z; omega; exact z _ _ hpo' hpn')
    | (exfalso; rcases ho' with z | z; omega; exact z _ _ hpo hpn)
    | (exact absurd (hb.symm.trans hb') (by decide))
    | (subst e1
       have e3 := hu.uniq hpo hpo' (hpn.trans hpn'.symm)
       subst e3
       rw [hpo] at hpo'
       cases hpo'
       have e4 := hK.uniq hK'
       subst e4
       exact ⟨rfl, rfl, rfl⟩)
end R16

set_option maxHeartbeats 1000000 in
/-- Take, of whatever receiver and instruction. -/
theorem take_any16 (g n cap o nn aa tt : Nat) (d : ByteArray) (L : List R16.Cm) (w : World) (hn : L.length = n + 1) (h8 : n < 800) (hu : R16.Up L) (hc : n + 1 ≤ cap) (ha : R16.CmAt w g 0 L) (hs : ∀ (j : Nat) (q : R16.Cm), L[j]? = some q → q.tx.size + d.size ≤ 1099511627776) :
    Calls Try.prog 11 #[.agg #[.func (.func 18) #[] #[], .slice (some ⟨g, 0, none⟩) (n + 1) cap], .agg #[.int .u64 (o : Int), .int .u64 (nn : Int), .int .u64 (aa : Int), .int .u64 (tt : Int), .string d]] w fun e w' => ∃ L' last code m g' cap', e = .returned (.tuple #[.agg #[.func (.func 18) #[] #[], .slice (some ⟨g', 0, none⟩) (m + 1) cap'], .bool last, .int .i64 ((code : Nat) : Int)]) ∧ R16.Tk L o nn tt d L' last code ∧ R16.CmAt w' g' 0 L' ∧ L'.length = m + 1 ∧ m + 1 ≤ cap' ∧ Below w.heap.size w w' := by
  have hc0 := hc
  obtain ⟨i, hPi⟩ := R16.Pl.ex hu nn
  have same : ∀ code : Nat, ((code = 11 ∧ ∃ i : Nat, R16.Pl L nn i ∧ R16.at? L nn i = true) ∨ (code = 9 ∧ R16.Pl L nn 0 ∧ R16.at? L nn 0 = false) ∨ (code = 19 ∧ (∃ i : Nat, R16.Pl L nn i ∧ R16.at? L nn i = false ∧ 0 < i) ∧ (nn ≤ o ∨ ∀ (j : Nat) (q : R16.Cm), L[j]? = some q → q.num ≠ o)) ∨ (code = 4 ∧ (∃ i : Nat, R16.Pl L nn i ∧ R16.at? L nn i = false ∧ 0 < i) ∧ (∃ (j : Nat) (q : R16.Cm), L[j]? = some q ∧ q.num = o) ∧ o < nn ∧ bang d = true)) → Calls Try.prog 11 #[.agg #[.func (.func 18) #[] #[], .slice (some ⟨g, 0, none⟩) (n + 1) cap], .agg #[.int .u64 (o : Int), .int .u64 (nn : Int), .int .u64 (aa : Int), .int .u64 (tt : Int), .string d]] w (fun e w' => e = .returned (.tuple #[.agg #[.func (.func 18) #[] #[], .slice (some ⟨g, 0, none⟩) (n + 1) cap], .bool false, .int .i64 ((code : Nat) : Int)]) ∧ Below w.heap.size w w') → Calls Try.prog 11 #[.agg #[.func (.func 18) #[] #[], .slice (some ⟨g, 0, none⟩) (n + 1) cap], .agg #[.int .u64 (o : Int), .int .u64 (nn : Int), .int .u64 (aa : Int), .int .u64 (tt : Int), .string d]] w fun e w' => ∃ L' last code m g' cap', e = .returned (.tuple #[.agg #[.func (.func 18) #[] #[], .slice (some ⟨g', 0, none⟩) (m + 1) cap'], .bool last, .int .i64 ((code : Nat) : Int)]) ∧ R16.Tk L o nn tt d L' last code ∧ R16.CmAt w' g' 0 L' ∧ L'.length = m + 1 ∧ m + 1 ≤ cap' ∧ Below w.heap.size w w' := fun code hc h => by
    refine h.mono ?_
    rintro e w' ⟨rfl, hbb⟩
    exact ⟨L, false, code, n, g, cap, rfl, Or.inl ⟨rfl, rfl, hc⟩, ha.keep hbb, hn, hc0, hbb⟩
  cases hat : R16.at? L nn i with
  | true => exact same 11 (.inl ⟨rfl, i, hPi, hat⟩) (take_11 g n cap o nn aa tt d L w hn h8 hu hc ha i hPi hat)
  | false =>
    by_cases hi0 : i = 0
    · subst hi0
      exact same 9 (.inr (.inl ⟨rfl, hPi, hat⟩)) (take_9 g n cap o nn aa tt d L w hn h8 hu hc ha hPi hat)
    · obtain ⟨jo, hPo⟩ := R16.Pl.ex hu o
      cases hao : R16.at? L o jo with
      | false =>
        refine same 19 (.inr (.inr (.inl ⟨rfl, ⟨i, hPi, hat, by omega⟩, .inr ?_⟩))) (take_19 g n cap o nn aa tt d L w hn h8 hu hc ha (fun j hP => by rw [hP.uniq hPi]; exact ⟨hat, by omega⟩) (fun j hP => by rw [hP.uniq hPo]; exact hao))
        intro j q hq hqo
        have := hPo.at hu hq hqo
        rw [this.2.1] at hao
        cases hao
      | true =>
        obtain ⟨po, hpo, hon⟩ := R16.at_some hao
        rcases Nat.lt_or_ge o nn with hlt | hge
        · cases hb : bang d with
          | true => exact same 4 (.inr (.inr (.inr ⟨rfl, ⟨i, hPi, hat, by omega⟩, ⟨jo, po, hpo, hon⟩, hlt, hb⟩))) (take_4 g n cap o nn aa tt d L w hn h8 hu hc ha i jo po hPi hat (by omega) hpo hon hlt hb (hs jo po hpo))
          | false =>
            refine (take_ok g n cap o nn aa tt d L w hn h8 hu hc ha i jo po hPi hat (by omega) hpo hon hlt hb (hs jo po hpo)).mono ?_
            rintro e w' ⟨a, m, g', cap', rfl, hK, hC, hm, hcp, hbb⟩
            exact ⟨_, _, 0, m, g', cap', rfl, Or.inr ⟨rfl, i, jo, po, a, hPi, hat, by omega, hpo, hon, hlt, hb, by rw [hn], hK, rfl⟩, hC, hm, hcp, hbb⟩
        · exact same 19 (.inr (.inr (.inl ⟨rfl, ⟨i, hPi, hat, by omega⟩, .inl hge⟩))) (take_19b g n cap o nn aa tt d L w hn h8 hu hc ha i hPi hat (by omega) (fun j hP => by rw [hP.uniq hPo]; exact hao) hge)
end Go.Proofs.Ytjfhinhakanhaaa
