/-
  Plain mathematics for ReceiverFollows: states that grow, and what a receiver has of them. No condition.
-/
import Derived.Test.YtjfhinhakanhaaaGWalk
namespace Go.Proofs.Ytjfhinhakanhaaa
open Go.RowKit
set_option linter.unusedVariables false
set_option linter.unusedSimpArgs false
namespace R16
/-- The texts: each has a part more. -/
def txT (S : Nat → ByteArray) : Nat → ByteArray
  | 0 => ⟨#[97]⟩
  | j + 1 => txT S j ++ S j
def rest (S : Nat → ByteArray) (b : Nat) : Nat → ByteArray
  | 0 => ⟨#[]⟩
  | k + 1 => rest S b k ++ S (b + k)
theorem txT_rest (S : Nat → ByteArray) (b : Nat) : ∀ k, txT S (b + k) = txT S b ++ rest S b k
  | 0 => by show txT S b = txT S b ++ ⟨#[]⟩; rw [ByteArray.ext_iff]; simp
  | k + 1 => by
    show txT S (b + k) ++ S (b + k) = txT S b ++ (rest S b k ++ S (b + k))
    rw [txT_rest S b k, ByteArray.append_assoc]
theorem extract_behind (a c : ByteArray) : (a ++ c).extract a.size (a ++ c).size = c := by
  rw [ByteArray.ext_iff, ByteArray.data_extract, ByteArray.data_append]
  have h1 : a.size = a.data.size := rfl
  have h2 : (a ++ c).size = a.data.size + c.data.size := by rw [ByteArray.size_append]; rfl
  rw [h1, h2]
  apply Array.ext'
  rw [Array.toList_extract]
  simp [Array.toList_append]
  exact List.take_of_length_le (by rw [Array.length_toList]; exact Nat.le_refl _)
theorem bang_append {a b : ByteArray} (ha : bang a = false) (hb : bang b = false) : bang (a ++ b) = false := by
  unfold bang at *
  rw [ByteArray.data_append, Array.toList_append]
  cases h : a.data.toList with
  | nil => rw [List.nil_append]; exact hb
  | cons x l => rw [h] at ha; exact ha
theorem bang_rest {S : Nat → ByteArray} {N b : Nat} (h : ∀ j, j < N → bang (S j) = false) : ∀ k, b + k ≤ N → bang (rest S b k) = false
  | 0, _ => rfl
  | k + 1, hk => bang_append (bang_rest h k (by omega)) (h _ (by omega))
theorem txT_size {S : Nat → ByteArray} {N : Nat} (h : ∀ j, j < N → (S j).size ≤ 40) : ∀ j, j ≤ N → (txT S j).size ≤ 1 + 40 * j
  | 0, _ => Nat.le_refl _
  | j + 1, hj => by
    show (txT S j ++ S j).size ≤ _
    rw [ByteArray.size_append]
    have := txT_size h j (by omega)
    have := h j (by omega)
    omega
/-- What stands behind one of them in a later one. -/
theorem txT_cut (S : Nat → ByteArray) {N b to : Nat} (hN : ∀ j, j < N → bang (S j) = false) (hb : b ≤ to) (hto : to ≤ N) : ∃ d, (txT S to).extract (txT S b).size (txT S to).size = d ∧ txT S b ++ d = txT S to ∧ (txT S b).size ≤ (txT S to).size ∧ d.size ≤ (txT S to).size ∧ bang d = false := by
  obtain ⟨k, rfl⟩ : ∃ k, to = b + k := ⟨to - b, by omega⟩
  refine ⟨rest S b k, ?_, (txT_rest S b k).symm, ?_, ?_, bang_rest hN k hto⟩
  · rw [txT_rest S b k]; exact extract_behind _ _
  · rw [txT_rest S b k, ByteArray.size_append]; omega
  · rw [txT_rest S b k, ByteArray.size_append]; omega

/-- What a receiver has: states that were sent, none more than seven behind the one that is known, and that one. -/
structure Fw (T : Nat → ByteArray) (N b : Nat) (L : List Cm) : Prop where
  up : Up L
  own : ∀ (j : Nat) (q : Cm), L[j]? = some q → q.num ≤ N ∧ q.num ≤ b + 7 ∧ q.tx = T q.num
  has : ∃ (j : Nat) (q : Cm), L[j]? = some q ∧ q.num = b
theorem Up.far {L : List Cm} (hu : Up L) {i : Nat} {p : Cm} (hp : L[i]? = some p) : ∀ (k : Nat) (q : Cm), L[i + k]? = some q → p.num + k ≤ q.num
  | 0, q, hq => by rw [Nat.add_zero, hp] at hq; obtain rfl := Option.some.inj hq; omega
  | k + 1, q, hq => by
    have hl := (List.getElem?_eq_some_iff.1 hq).1
    have h1 := Up.far hu hp k (L[i + k]'(by omega)) (List.getElem?_eq_getElem (by omega))
    have h2 := hu (i + k) (i + (k + 1)) _ q (by omega) (List.getElem?_eq_getElem (by omega)) hq
    omega
theorem ins_at_lt {L : List Cm} {i j : Nat} {p q : Cm} (hi : i ≤ L.length) (hj : j < i) (h : L[j]? = some q) : (ins L i p)[j]? = some q := by
  unfold ins
  rw [List.getElem?_append_left (by rw [List.length_take]; omega), List.getElem?_take, if_pos hj]
  exact h
theorem Fw.take {T : Nat → ByteArray} {N b to code : Nat} {d : ByteArray} {last : Bool} {L L' : List Cm} (hF : Fw T N b L) (hT : Tk L b to b d L' last code) (hbt : b < to) (h7 : to ≤ b + 7) (hN : to ≤ N) (hd : T b ++ d = T to) : Fw T N b L' := by
  rcases hT with ⟨rfl, _⟩ | ⟨_, i, jo, po, a, hP, hno, hi, hpo, hpn, hlt, _, _, hK, rfl⟩
  · exact hF
  · have hup := hF.up.ins hP hno (p := Cm.mk to (po.tx ++ d)) rfl
    have hown : ∀ (j : Nat) (q : Cm), (ins L i (Cm.mk to (po.tx ++ d)))[j]? = some q → q.num ≤ N ∧ q.num ≤ b + 7 ∧ q.tx = T q.num := fun j q hq => by
      rcases ins_mem hP.le hq with rfl | ⟨k, hk⟩
      · refine ⟨hN, h7, ?_⟩
        show po.tx ++ d = T to
        rw [(hF.own jo po hpo).2.2, hpn]; exact hd
      · exact hF.own k q hk
    refine ⟨hup.drop a, fun j q hq => by rw [List.getElem?_drop] at hq; exact hown _ q hq, ?_⟩
    have hji : jo < i := by
      rcases Nat.lt_or_ge jo i with c | c
      · exact c
      · have := hP.hi jo po c hpo; omega
    have hq := ins_at_lt (p := Cm.mk to (po.tx ++ d)) hP.le hji hpo
    have haj : a ≤ jo := by
      rcases Nat.lt_or_ge jo a with c | c
      · exfalso
        have hlen := hK.1
        rcases hK.2.1 jo po c hq with h | h
        · omega
        · obtain ⟨q8, hq8⟩ : ∃ q8, (ins L i (Cm.mk to (po.tx ++ d)))[jo + 8]? = some q8 := ⟨_, List.getElem?_eq_getElem (by omega)⟩
          have h1 := hup.far hq 8 q8 hq8
          have h2 := (hown _ q8 hq8).2.1
          omega
      · exact c
    exact ⟨jo - a, po, by rw [List.getElem?_drop, show a + (jo - a) = jo by omega]; exact hq, hpn⟩
/-- The last one never falls. -/
theorem Tk.rise {L L' : List Cm} {o nn tt code n m : Nat} {d : ByteArray} {last : Bool} {p q : Cm} (hT : Tk L o nn tt d L' last code) (hu : Up L) (hn : L.length = n + 1) (hm : L'.length = m + 1) (hp : L[n]? = some p) (hq : L'[m]? = some q) : p.num ≤ q.num := by
  rcases hT with ⟨rfl, _⟩ | ⟨_, i, jo, po, a, hP, hno, hi, hpo, hpn, hlt, _, _, hK, rfl⟩
  · obtain rfl : n = m := by omega
    rw [hp] at hq
    obtain rfl := Option.some.inj hq
    exact Nat.le_refl _
  · have h1 := ins_len L i (Cm.mk nn (po.tx ++ d)) hP.le
    rw [List.length_drop] at hm
    rw [List.getElem?_drop, show a + m = n + 1 by have := hK.1; omega] at hq
    rcases Nat.lt_or_ge n i with c | c
    · have hil := hP.le
      obtain rfl : i = n + 1 := by omega
      rw [ins_eq hP.le] at hq
      obtain rfl := Option.some.inj hq
      exact Nat.le_of_lt (hP.lo n p (by omega) hp)
    · have := ins_gt hP.le (by omega) hq
      rw [Nat.add_sub_cancel, hp] at this
      obtain rfl := Option.some.inj this
      exact Nat.le_refl _
theorem Fw.base {T : Nat → ByteArray} {N b n : Nat} {L : List Cm} {q : Cm} (hF : Fw T N b L) (hn : L.length = n + 1) (hq : L[n]? = some q) : Fw T N q.num L ∧ b ≤ q.num ∧ q.num ≤ N := by
  have hle : ∀ (j : Nat) (p : Cm), L[j]? = some p → p.num ≤ q.num := fun j p hp => by
    have hl := (List.getElem?_eq_some_iff.1 hp).1
    rcases Nat.lt_or_ge j n with c | c
    · exact Nat.le_of_lt (hF.up j n p q c hp hq)
    · obtain rfl : j = n := by omega
      rw [hp] at hq
      obtain rfl := Option.some.inj hq
      exact Nat.le_refl _
  refine ⟨⟨hF.up, fun j p hp => ⟨(hF.own j p hp).1, by have := hle j p hp; omega, (hF.own j p hp).2.2⟩, n, q, hq, rfl⟩, ?_, (hF.own n q hq).1⟩
  obtain ⟨j, p, hp, hpb⟩ := hF.has
  have := hle j p hp
  omega
/-- Sent again it comes up. -/
theorem Fw.final {T : Nat → ByteArray} {N b code m : Nat} {d : ByteArray} {last : Bool} {L L' : List Cm} {q : Cm} (hF : Fw T N b L) (hT : Tk L b N b d L' last code) (hbN : b ≤ N) (hd : T b ++ d = T N) (hb : bang d = false) (hm : L'.length = m + 1) (hq : L'[m]? = some q) : q.num = N ∧ q.tx = T N := by
  obtain ⟨jb, pb, hpb, hpn⟩ := hF.has
  have top : ∀ (j : Nat) (p : Cm), L[j]? = some p → p.num = N → ∀ (k : Nat) (x : Cm), L.length = k + 1 → L[k]? = some x → x.num = N ∧ x.tx = T N := fun j p hp hpN k x hk hx => by
    have h1 := (hF.own k x hx)
    have hl := (List.getElem?_eq_some_iff.1 hp).1
    have h2 : N ≤ x.num := by
      rcases Nat.lt_or_ge j k with c | c
      · have := hF.up j k p x c hp hx; omega
      · obtain rfl : j = k := by omega
        rw [hp] at hx
        obtain rfl := Option.some.inj hx
        omega
    have h3 : x.num = N := by omega
    exact ⟨h3, by rw [← h3]; exact h1.2.2⟩
  rcases hT with ⟨rfl, _, ⟨_, i, hP, hat⟩ | ⟨_, hP, hat⟩ | ⟨_, ⟨i, hP, hat, hi⟩, ho⟩ | ⟨_, _, _, _, hbb⟩⟩ | ⟨_, i, jo, po, a, hP, hno, hi, hpo, hpo2, hlt, _, _, hK, rfl⟩
  · obtain ⟨p, hp, hpN⟩ := at_some hat
    exact top i p hp hpN m q hm hq
  · exfalso
    have hl := (List.getElem?_eq_some_iff.1 hpb).1
    have h0 := hP.hi jb pb (Nat.zero_le _) hpb
    have h1 := (hF.own jb pb hpb).1
    have := (hP.at hF.up hpb (by omega)).2.1
    rw [hat] at this; cases this
  · exfalso
    rcases ho with h | h
    · have := (hP.at hF.up hpb (by omega)).2.1
      rw [hat] at this; cases this
    · exact h jb pb hpb hpn
  · rw [hb] at hbb; cases hbb
  · have hil : i = L.length := by
      have hle := hP.le
      rcases Nat.lt_or_ge i L.length with c | c
      · exfalso
        obtain ⟨x, hx⟩ : ∃ x, L[i]? = some x := ⟨_, List.getElem?_eq_getElem c⟩
        have h1 := hP.hi i x (Nat.le_refl _) hx
        have h2 := (hF.own i x hx).1
        have := (hP.at hF.up hx (by omega)).2.1
        rw [hno] at this; cases this
      · omega
    have h1 := ins_len L i (Cm.mk N (po.tx ++ d)) hP.le
    rw [List.length_drop] at hm
    rw [List.getElem?_drop, show a + m = i by have := hK.1; omega, ins_eq hP.le] at hq
    obtain rfl := Option.some.inj hq
    refine ⟨rfl, ?_⟩
    show po.tx ++ d = T N
    rw [(hF.own jo po hpo).2.2, hpo2]; exact hd
/-- The row of the texts. -/
def txL (S : Nat → ByteArray) (k : Nat) : List Value := (List.range k).map (fun j => .string (txT S j))
theorem txL_succ (S : Nat → ByteArray) (k : Nat) : txL S k ++ [.string (txT S k)] = txL S (k + 1) := by
  unfold txL; rw [List.range_succ, List.map_append]; rfl
theorem txL_at (S : Nat → ByteArray) {k j : Nat} (h : j < k) : (txL S k)[j]? = some (.string (txT S j)) := by
  unfold txL; rw [List.getElem?_map, List.getElem?_range h]; rfl
theorem txL_len (S : Nat → ByteArray) (k : Nat) : (txL S k).length = k := by unfold txL; simp
/-- The texts in memory: in the block g. -/
def TxAt (w : World) (g n : Nat) (S : Nat → ByteArray) : Prop := ∃ (t : TypeId) (sp : List Value), Row w g t (txL S n ++ sp)
theorem TxAt.lt {w : World} {g n : Nat} {S : Nat → ByteArray} (h : TxAt w g n S) : g < w.heap.size := by obtain ⟨t, sp, r⟩ := h; exact r.lt
theorem TxAt.keep {w w' : World} {g n : Nat} {S : Nat → ByteArray} (h : TxAt w g n S) (hb : Below w.heap.size w w') : TxAt w' g n S := by obtain ⟨t, sp, r⟩ := h; exact ⟨t, sp, r.below hb r.lt⟩
theorem TxAt.alloc {w : World} {g n : Nat} {S : Nat → ByteArray} (h : TxAt w g n S) (o : Obj) : TxAt (w.alloc o) g n S := by obtain ⟨t, sp, r⟩ := h; exact ⟨t, sp, r.alloc o⟩
theorem TxAt.drew {w : World} {g n : Nat} {S : Nat → ByteArray} (h : TxAt w g n S) : TxAt w.drew g n S := h
theorem TxAt.setRow {w : World} {g n k : Nat} {S : Nat → ByteArray} (h : TxAt w g n S) (hk : g ≠ k) (c : Array Value) : TxAt (w.setRow k c) g n S := by obtain ⟨t, sp, r⟩ := h; exact ⟨t, sp, r.setRow_other hk c⟩
theorem TxAt.cell {w : World} {g n j : Nat} {S : Nat → ByteArray} (h : TxAt w g n S) (hj : j < n) : w.cell? ⟨g, j, none⟩ = some (.string (txT S j)) := by
  obtain ⟨t, sp, r⟩ := h
  rw [r.cell j, List.getElem?_append_left (by rw [txL_len]; exact hj)]
  exact txL_at S hj
theorem TxAt.of_owns {w : World} {B e g n cap : Nat} {S : Nat → ByteArray} (h : w.ownsRow B e 1 (.slice (some ⟨g, 0, none⟩) n cap) n (txL S n)) : TxAt w g n S := by
  obtain ⟨_, hv | ⟨g', cap', cur, hv, _, hg, _, _, _, ht⟩⟩ := h
  · exact absurd hv.1 (by simp)
  · have e1 : g = g' := by simpa using congrArg (fun v => match v with | Value.slice (some a) _ _ => a.block | _ => 0) hv
    subst e1
    refine ⟨e, cur.toList.drop (n * 1), ?_⟩
    unfold Row
    rw [← ht, List.take_append_drop]
    exact hg
end R16
theorem own_sl {w : World} {B e size n : Nat} {v : Value} {xs : List Value} (h : w.ownsRow B e size v (n + 1) xs) : ∃ g cap, v = .slice (some ⟨g, 0, none⟩) (n + 1) cap ∧ B ≤ g ∧ g < w.heap.size ∧ n + 1 ≤ cap ∧ cap ≤ maxLen := by
  obtain ⟨_, hv | ⟨g', cap', cur, hv, h1, hg, h2, h3, _, ht⟩⟩ := h
  · exact absurd hv.2 (by omega)
  · exact ⟨g', cap', hv, h1, (Array.getElem?_eq_some_iff.1 hg).1, h2, h3⟩
/-- Whole numbers of 16 bits that came in. -/
theorem IsRow.halfs {w : World} {a : Option Addr} {len cap : Nat} {zs : List Int} (h : IsRow .u16 w a len cap zs) (hl : 0 < len) :
    ∃ b off, a = some ⟨b, off, none⟩ ∧ b < w.heap.size ∧ ∀ i, i < len → ∃ k : Nat, k < 65536 ∧ w.cell? ⟨b, off + i, none⟩ = some (.int .u16 (k : Int)) := by
  rcases h with ⟨rfl, rfl, rfl, rfl⟩ | ⟨x, rfl, hle, hm, hz, hcell, hwz⟩
  · omega
  · obtain ⟨b, off, spot⟩ := x
    have hc := hcell 0 (by omega)
    have hspot : spot = none := by simpa [Addr.add] using World.cell?_spot hc
    subst hspot
    refine ⟨b, off, rfl, by simpa [Addr.add] using block_lt hc, fun i hi => ?_⟩
    have h1 := hcell i (by omega)
    have ea : (⟨b, off, none⟩ : Addr).add i = ⟨b, off + i, none⟩ := by unfold Addr.add; split <;> simp_all
    rw [ea] at h1
    have h2 := hwz (zs.getD i 0) (by rw [List.getD_eq_getElem?_getD, List.getElem?_eq_getElem (by omega), Option.getD_some]; exact List.getElem_mem _)
    have h3 := Go.bounds_u16 h2
    refine ⟨(zs.getD i 0).toNat, by omega, ?_⟩
    rw [h1, Int.toNat_of_nonneg h3.1]
theorem bang_yes {p : ByteArray} (hb : bang p = true) : ∃ h : 0 < p.size, ((p[0].toNat : Int) == 33) = true := by
  have hlt : 0 < p.size := by
    rcases Nat.eq_zero_or_pos p.size with h | h
    · unfold bang at hb
      have : p.data.toList = [] := by
        have h2 : p.data.size = 0 := h
        exact List.eq_nil_of_length_eq_zero (by rw [Array.length_toList]; exact h2)
      rw [this] at hb
      cases hb
    · exact h
  refine ⟨hlt, ?_⟩
  rw [beq_iff_eq]
  unfold bang at hb
  have hd : p.data.toList = p[0] :: p.data.toList.drop 1 := by
    have : p.data.toList[0]? = some p[0] := by simp [ByteArray.getElem_eq_getElem_data]
    cases hl : p.data.toList with
    | nil => rw [hl] at this; simp at this
    | cons x r => rw [hl] at this; simp at this; rw [this]; rfl
  rw [hd] at hb
  simp at hb
  rw [hb]; rfl
theorem bang_no {p : ByteArray} (hb : bang p = false) (h : 0 < p.size) : ((p[0].toNat : Int) == 33) = false := by
  rw [beq_eq_false_iff_ne]
  intro h33
  unfold bang at hb
  have hd : p.data.toList = p[0] :: p.data.toList.drop 1 := by
    have : p.data.toList[0]? = some p[0] := by simp [ByteArray.getElem_eq_getElem_data]
    cases hl : p.data.toList with
    | nil => rw [hl] at this; simp at this
    | cons x r => rw [hl] at this; simp at this; rw [this]; rfl
  rw [hd] at hb
  simp at hb
  apply hb
  have h34 : p[0].toNat = 33 := by omega
  exact UInt8.toNat_inj.1 (by rw [h34]; rfl)
end Go.Proofs.Ytjfhinhakanhaaa
