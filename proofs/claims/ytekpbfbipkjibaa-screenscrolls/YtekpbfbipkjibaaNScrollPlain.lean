/-
  Plain mathematics for layer 11: line ends leave nothing; a line that fits. No condition.
-/
import Derived.Test.YtekpbfbipkjibaaNPlain
namespace Go.Proofs.Ytekpbfbipkjibaa.N11

/-- From row K on all is blank. -/
def Bl (w h K : Nat) (c : List UInt8) : Prop := ∀ i, K * w ≤ i → i < w * h → c[i]? = some 32
theorem bl_new (w h K : Nat) : Bl w h K (List.replicate (w * h) 32) := fun i _ hi => by rw [List.getElem?_replicate, if_pos hi]
theorem bl_mono {w h K K' : Nat} {c : List UInt8} (hk : K ≤ K') (hb : Bl w h K c) : Bl w h K' c := fun i h1 h2 => hb i (Nat.le_trans (Nat.mul_le_mul_right w hk) h1) h2
theorem bl_set {w h K p : Nat} {c : List UInt8} {b : UInt8} (hp : p < K * w) (hb : Bl w h K c) : Bl w h K (c.set p b) := fun i h1 h2 => by
  rw [List.getElem?_set_ne (by omega)]; exact hb i h1 h2
theorem bl_scroll {w h K : Nat} {c : List UInt8} (hc : c.length = w * h) (hh : 1 ≤ h) (hb : Bl w h K c) : Bl w h (K - 1) (c.drop w ++ List.replicate w 32) := fun i h1 h2 => by
  have hle : w ≤ w * h := by have := Nat.mul_le_mul_left w hh; omega
  by_cases a : i < w * h - w
  · rw [List.getElem?_append_left (by rw [List.length_drop, hc]; exact a), List.getElem?_drop]
    refine hb _ ?_ (by omega)
    rcases Nat.eq_zero_or_pos K with k | k
    · subst k; simp
    · have : K * w = (K - 1) * w + w := by rw [← Nat.succ_mul, show (K - 1).succ = K by omega]
      omega
  · rw [List.getElem?_append_right (by rw [List.length_drop, hc]; omega), List.length_drop, hc, List.getElem?_replicate, if_pos (by omega)]
theorem bl_all {w h : Nat} {c : List UInt8} (hc : c.length = w * h) (hb : Bl w h 0 c) : c = List.replicate (w * h) 32 := by
  apply List.ext_getElem?
  intro i
  by_cases hi : i < w * h
  · rw [hb i (by omega) hi, List.getElem?_replicate, if_pos hi]
  · rw [List.getElem?_eq_none (by omega), List.getElem?_eq_none (by simp; omega)]
theorem bl_down {w h : Nat} {s : St} (hc : s.c.length = w * h) (hh : 1 ≤ h) (hb : Bl w h (s.y + 1) s.c) : Bl w h ((down w h s).y + 1) (down w h s).c := by
  unfold down
  split
  · exact bl_mono (by show s.y + 1 ≤ s.y + 1 + 1; omega) hb
  · exact bl_mono (by show s.y + 1 - 1 ≤ s.y + 1; omega) (bl_scroll hc hh hb)
theorem bl_step {w h : Nat} {s : St} (o : Ok w h s) (hb : Bl w h (s.y + 1) s.c) (b : UInt8) : Bl w h ((step w h s b).y + 1) (step w h s b).c := by
  have hh : 1 ≤ h := by have := o.y; omega
  have hp : s.y * w + s.x < (s.y + 1) * w := by rw [Nat.add_mul, Nat.one_mul]; have := o.x; omega
  unfold step
  split
  · split
    · exact bl_down (s := ⟨s.x + 1, s.y, s.c.set (s.y * w + s.x) b⟩) (by rw [List.length_set]; exact o.c) hh (bl_set hp hb)
    · exact bl_set hp hb
  · split
    · exact bl_down o.c hh hb
    · split
      · exact hb
      · split
        · exact hb
        · split
          · exact bl_new w h _
          · exact hb
theorem bl_put {w h : Nat} : ∀ (l : List UInt8) {s : St}, Ok w h s → Bl w h (s.y + 1) s.c → Bl w h ((put w h s l).y + 1) (put w h s l).c
  | [], _, _, hb => hb
  | b :: l, _, o, hb => bl_put l (step_ok o b) (bl_step o hb b)
/-- A line end more. -/
theorem lf_step {w h K t : Nat} {s : St} (o : Ok w h s) (hb : Bl w h K s.c) (hk : K + t = s.y + 1) (ht : t < h) :
    ∃ K', Bl w h K' (down w h s).c ∧ K' + (t + 1) = (down w h s).y + 1 := by
  have hh : 1 ≤ h := by omega
  have hy := o.y
  unfold down
  by_cases a : s.y + 1 < h
  · rw [if_pos a]; exact ⟨K, hb, by show K + (t + 1) = s.y + 1 + 1; omega⟩
  · rw [if_neg a]; exact ⟨K - 1, bl_scroll o.c hh hb, by show K - 1 + (t + 1) = s.y + 1; omega⟩
theorem step_lf {w h : Nat} (s : St) : step w h s 10 = down w h s := by
  unfold step
  rw [if_neg (by decide), if_pos (by decide)]

/-- A text laid over places from o on. -/
def over (c : List UInt8) (o : Nat) (l : List UInt8) : List UInt8 := c.take o ++ l ++ c.drop (o + l.length)
theorem over_nil (c : List UInt8) (o : Nat) : over c o [] = c := by simp [over]
theorem over_snoc {c : List UInt8} {o : Nat} {l : List UInt8} {b : UInt8} (h : o + l.length < c.length) : (over c o l).set (o + l.length) b = over c o (l ++ [b]) := by
  unfold over
  have e : (c.take o ++ l).length = o + l.length := by simp; omega
  rw [List.set_append_right _ _ (by omega), e, Nat.sub_self, List.drop_eq_getElem_cons h, List.set_cons_zero]
  simp [Nat.add_assoc]
theorem put_line {w h y : Nat} {c l : List UInt8} (hc : c.length = w * h) (hy : y < h) (hs : ∀ b ∈ l, shown b = true) (hl : l.length < w) : ∀ k, k ≤ l.length → put w h ⟨0, y, c⟩ (l.take k) = ⟨k, y, over c (y * w) (l.take k)⟩
  | 0, _ => by simp [put, over]
  | k + 1, hk => by
    have ih := put_line hc hy hs hl k (by omega)
    have hkl : k < l.length := by omega
    have hrow := row_le (w := w) hy
    have hlen : (l.take k).length = k := by rw [List.length_take]; omega
    rw [List.take_succ_eq_append_getElem hkl, put_snoc, ih]
    unfold step
    rw [if_pos (hs _ (List.getElem_mem hkl)), if_neg (by show ¬ k + 1 = w; omega)]
    show (⟨k + 1, y, (over c (y * w) (l.take k)).set (y * w + k) l[k]⟩ : St) = _
    have := over_snoc (c := c) (o := y * w) (l := l.take k) (b := l[k]) (by rw [hlen]; omega)
    rw [hlen] at this
    rw [this]
theorem put_fits {w h y : Nat} {c l : List UInt8} (hc : c.length = w * h) (hy : y < h) (hs : ∀ b ∈ l, shown b = true) (hl : l.length < w) : put w h ⟨0, y, c⟩ l = ⟨l.length, y, over c (y * w) l⟩ := by
  have := put_line hc hy hs hl l.length (Nat.le_refl _)
  rwa [List.take_length] at this
theorem row_over {w h y : Nat} {c l : List UInt8} (hc : c.length = w * h) (hy : y < h) (hl : l.length < w) : (row w (over c (y * w) l) y).take l.length = l := by
  have hrow := row_le (w := w) hy
  unfold row over
  rw [List.take_take, Nat.min_eq_left (by omega), List.append_assoc, List.drop_append_of_le_length (by rw [List.length_take]; omega), List.drop_take, Nat.sub_self, List.take_zero, List.nil_append, List.take_left]

end Go.Proofs.Ytekpbfbipkjibaa.N11
