/-
  Several texts in one module: RPad.
-/
import Derived.Test.YtjkaignfomlflaaGreatMod11
import Derived.Test.YtjkaignfomlflaaGreatMod7
import Derived.Test.YtjkaignfomlflaaGreatMod1
/-
  Layer 3: the document's own Pad.
-/
namespace Go.Proofs.YtjkaignfomlflaaGreat
open Go.RowKit
set_option linter.unusedVariables false
set_option maxRecDepth 20000

theorem bytesRow_size (s : ByteArray) (cap : Nat) (h : s.size ≤ cap) : (bytesRow s cap).size = cap := by simp [bytesRow]; omega

/-- A text's bytes, just converted. -/
theorem isBytes_conv (w : World) (s : ByteArray) (hs : s.size ≤ 1000000) :
    IsBytes (w.drew.alloc (.cells (bytesRow s (grownCap w s.size 0 5)) 5 ((bytesRow s (grownCap w s.size 0 5)).size, (bytesRow s (grownCap w s.size 0 5)).size + 1))) w.heap.size
      (.slice (some ⟨w.heap.size, 0, none⟩) s.size (grownCap w s.size 0 5)) s.data.toList := by
  have hge := grownCap_ge w s.size 0 5
  have hle := grownCap_le_maxLen w s.size 0 5 (by unfold maxLen; omega)
  generalize grownCap w s.size 0 5 = cap at *
  have hsz := bytesRow_size s cap hge
  have hlen : s.data.toList.length = s.size := by simp
  have hh : (w.drew.alloc (.cells (bytesRow s cap) 5 ((bytesRow s cap).size, (bytesRow s cap).size + 1))).heap[w.heap.size]? = some (.cells (bytesRow s cap) 5 ((bytesRow s cap).size, (bytesRow s cap).size + 1)) := by
    show (w.heap.push _)[w.heap.size]? = _; simp
  refine ⟨w.heap.size, cap, by rw [hlen], Nat.le_refl _, by show w.heap.size < (w.heap.push _).size; simp, by omega, hle, fun j u hj => ?_, fun j h1 h2 => ⟨?_, ?_⟩⟩
  · rw [cell_of_row _ _ j _ _ _ hh]
    have hjl : j < s.size := by
      by_cases h0 : j < s.size
      · exact h0
      · rw [List.getElem?_eq_none (by rw [cellsOf_len]; omega)] at hj; cases hj
    unfold bytesRow
    rw [Array.getElem?_append_left (by simp; exact hjl), Array.getElem?_map]
    simp only [W.cellsOf, List.getElem?_map, Array.getElem?_toList] at hj
    exact hj
  · rw [cell_of_row _ _ j _ _ _ hh, Array.getElem?_eq_getElem (by omega)]; rfl
  · simp only [World.frozen?, hh]
    simp
    omega

theorem noughts_not (L k : Nat) (h : k < S.noughts L) : (L + 1 + k) % 64 ≠ 56 := by unfold S.noughts at h; omega
theorem noughts_is (L : Nat) : (L + 1 + S.noughts L) % 64 = 56 := by unfold S.noughts; omega

theorem putL_snoc (n j : Nat) (h : j < 8) : (W.putL n 8).take (j + 1) = (W.putL n 8).take j ++ [UInt8.ofNat (n / 256 ^ (7 - j))] := by
  have hc : j = 0 ∨ j = 1 ∨ j = 2 ∨ j = 3 ∨ j = 4 ∨ j = 5 ∨ j = 6 ∨ j = 7 := by omega
  rcases hc with rfl | rfl | rfl | rfl | rfl | rfl | rfl | rfl <;> rfl

theorem IsBytes.back {w : World} {B : Nat} {v : Value} {l : List UInt8} (h : IsBytes w B v l) : (convert 49 9 v).run Tryz.prog w = .ok (.string ⟨l.toArray⟩) w := by
  obtain ⟨g, cap, rfl, _, _, _, _, hc, _⟩ := h
  exact run_convert_bytes_back (P := Tryz.prog) w 49 9 5 ⟨g, 0, none⟩ cap l Tryz.underlying49 Tryz.underlying5 Tryz.underlying9 (fun t ht => by
    have e : (⟨g, 0, none⟩ : Addr).add t = ⟨g, t, none⟩ := by unfold Addr.add; split <;> simp_all
    rw [e]
    exact hc t _ (by simp [W.cellsOf, ht]))

/-- A slice's length. -/
def lenOf : Value → Nat
  | .slice _ n _ => n
  | _ => 0

set_option maxHeartbeats 2000000 in
theorem refPad_any (s : ByteArray) (hs : s.size ≤ 1000000) (w : World) :
    Calls Tryz.prog 51 #[.string s] w fun e w' => e = .returned (.string ⟨(S.padL s.data.toList).toArray⟩) ∧ Below w.heap.size w w' := by
  obtain ⟨i0, hi, hz0, hz1, hz2⟩ := info_parts infoByte
  have hcv := run_bytes_of_string (P := Tryz.prog) w 9 49 5 s Tryz.underlying9 Tryz.underlying49 Tryz.underlying5
  have hI0 := isBytes_conv w s hs
  have hb0 : Below w.heap.size w (w.drew.alloc (.cells (bytesRow s (grownCap w s.size 0 5)) 5 ((bytesRow s (grownCap w s.size 0 5)).size, (bytesRow s (grownCap w s.size 0 5)).size + 1))) := ((Below.refl _ _).drew).alloc (Nat.le_refl _) _
  generalize (w.drew.alloc (.cells (bytesRow s (grownCap w s.size 0 5)) 5 ((bytesRow s (grownCap w s.size 0 5)).size, (bytesRow s (grownCap w s.size 0 5)).size + 1))) = wc at *
  generalize grownCap w s.size 0 5 = cap at *
  have hlen : s.data.toList.length = s.size := by simp
  have HLN := Lib.hid hlen
  have zc := hb0.size
  clear hlen
  go_enter Tryz.func51, Tryz.ntmps51
  go_wp2_with (at_builtin; refine wpList_push _ rfl _ _ 49 rfl 5 i0 Tryz.underlying49 hi hz0 hz1 hz2 w.heap.size _ s.data.toList rfl (hI0.alloc _) (by simp; omega) ⟨wc.heap.size, 0, none⟩ 128 rfl (by simp) (by rw [HLN.out]; omega) ?_)
  intro v1 w1 h1 b1
  have b1' : Below w.heap.size w w1 := (hb0.alloc zc _).trans b1
  have h1' : IsBytes w1 w.heap.size v1 (s.data.toList ++ 128 :: List.replicate 0 0) := h1
  clear h1 b1 hI0 hb0 hcv zc
  go_wp2
  go_loopw [4] (fun bv wr => ∃ k : Nat, k ≤ S.noughts s.size ∧ IsBytes wr w.heap.size bv (s.data.toList ++ 128 :: List.replicate k 0) ∧ Below w.heap.size w wr) (fun bv _ => 1000100 - lenOf bv)
  case atStart => exact ⟨0, Nat.zero_le _, h1', b1'⟩
  case round =>
    clear h1' b1'
    obtain ⟨k, hk, hI, hb⟩ := hrel
    have hll : (s.data.toList ++ 128 :: List.replicate k 0).length = s.size + 1 + k := by simp; omega
    have hk64 : k < 64 := Nat.lt_of_le_of_lt hk (S.noughts_le _)
    have hz := hb.size
    obtain ⟨v, hv⟩ : ∃ v, v = u4 := ⟨_, rfl⟩
    obtain ⟨g, cp, hg⟩ : ∃ g cp, u4 = .slice (some ⟨g, 0, none⟩) (s.size + 1 + k) cp := by
      obtain ⟨g, cp, h, _⟩ := hI; exact ⟨g, cp, by rw [h, hll]⟩
    subst hg
    clear hv
    have HLL := Lib.hid hll
    clear hll
    by_cases hlt : k < S.noughts s.size
    · have ht : ((((s.size : Int) + 1 + (k : Int)) % 64) != 56) = true := by rw [bne_iff_ne]; have := noughts_not s.size k hlt; omega
      go_wp2_with (at_builtin; refine wpList_push _ rfl _ _ 49 rfl 5 i0 Tryz.underlying49 hi hz0 hz1 hz2 w.heap.size _ _ rfl (hI.alloc _) (by simp; omega) ⟨wr.heap.size, 0, none⟩ 0 rfl (by simp) (by rw [HLL.out]; omega) ?_)
      intro v2 w2 h2 b2
      have b2' : Below w.heap.size w w2 := (hb.alloc hz _).trans b2
      have h2' : IsBytes w2 w.heap.size v2 (s.data.toList ++ 128 :: List.replicate (k + 1) 0) := by
        rw [List.replicate_succ']; exact h2
      have hl2 : lenOf v2 = s.size + 1 + (k + 1) := by
        obtain ⟨g2, cp2, h, _⟩ := h2'; rw [h]; simp [lenOf]; omega
      clear h2 b2 hI hb
      go_wp2
      go_roundw
      case rel => exact ⟨k + 1, by omega, h2', b2'⟩
      case measure => rw [hl2]; simp [lenOf]; omega
    · obtain rfl : k = S.noughts s.size := by omega
      have ht : ((((s.size : Int) + 1 + (S.noughts s.size : Int)) % 64) != 56) = false := by rw [bne_eq_false_iff_eq]; have := noughts_is s.size; omega
      have h0 : IsBytes wr w.heap.size (.slice (some ⟨g, 0, none⟩) (s.size + 1 + S.noughts s.size) cp) ((s.data.toList ++ 128 :: List.replicate (S.noughts s.size) 0) ++ (W.putL (8 * s.size) 8).take 0) := by
        rw [List.take_zero, List.append_nil]; exact hI
      generalize hf : (s.data.toList ++ 128 :: List.replicate (S.noughts s.size) 0) = f at *
      generalize hN : S.noughts s.size = N at *
      have HF := Lib.hid hf
      have HNN := Lib.hid hN
      clear hI hf hN
      go_wp2
      go_loopw [4, 5] (fun bv iv wx => ∃ j : Nat, j ≤ 8 ∧ iv = .int .i64 (7 - (j : Int)) ∧ IsBytes wx w.heap.size bv (f ++ (W.putL (8 * s.size) 8).take j) ∧ Below w.heap.size w wx) (fun _ iv _ => (intOf iv + 1).toNat)
      case atStart => exact ⟨0, Nat.zero_le _, rfl, h0, hb⟩
      case round =>
        clear h0 hb
        obtain ⟨j, hj, rfl, hI, hb⟩ := hrel
        have hz := hb.size
        have hfl : (f ++ (W.putL (8 * s.size) 8).take j).length = s.size + 1 + N + j := by rw [List.length_append, HLL.out, List.length_take, W.putL_length]; omega
        have HFL := Lib.hid hfl
        clear hfl
        by_cases hlt : j < 8
        · have hx : ((s.size : Int) * 8) / 2 ^ (8 * (7 - j)) % 256 = ((UInt8.ofNat (8 * s.size / 256 ^ (7 - j))).toNat : Int) := by
            rw [show (s.size : Int) * 8 = ((8 * s.size : Nat) : Int) from by omega, byte_at, UInt8.toNat_ofNat']
          have HX := Lib.hid hx
          obtain ⟨q, hq⟩ : ∃ q, q = 7 - j := ⟨_, rfl⟩
          have eq1 : (7 : Int) - (j : Int) = (q : Int) := by omega
          rw [← hq] at HX
          have hsn := putL_snoc (8 * s.size) j hlt
          rw [← hq] at hsn
          have HSN := Lib.hid hsn
          have hq8 : q ≤ 7 := by omega
          have HQ := Lib.hid hq
          clear hx hsn hq
          generalize UInt8.ofNat (8 * s.size / 256 ^ q) = y at *
          rw [eq1]
          clear eq1
          have hsh := HX.out
          go_wp2_with (at_builtin; refine wpList_push _ rfl _ _ 49 rfl 5 i0 Tryz.underlying49 hi hz0 hz1 hz2 w.heap.size _ _ rfl (hI.alloc _) (by simp; omega) ⟨wr.heap.size, 0, none⟩ y rfl (by simp) (by rw [HFL.out]; omega) ?_)
          intro v2 w2 h2 b2
          have b2' : Below w.heap.size w w2 := (hb.alloc hz _).trans b2
          have h2' : IsBytes w2 w.heap.size v2 (f ++ (W.putL (8 * s.size) 8).take (j + 1)) := by
            rw [HSN.out]; exact h2
          clear h2 b2 hI hb
          go_wp2
          go_roundw
          case rel => exact ⟨j + 1, by omega, by have := HQ.out; congr 1; omega, h2', b2'⟩
          case measure => simp [intOf]
        · obtain rfl : j = 8 := by omega
          have hback := hI.back
          have hfin : f ++ (W.putL (8 * s.size) 8).take 8 = S.padL s.data.toList := by
            rw [List.take_of_length_le (by rw [W.putL_length]; exact Nat.le_refl _), ← HF.out]
            unfold S.padL
            rw [HLN.out, HNN.out]
            simp
          rw [hfin] at hback
          have hlt7 : ¬ (0 : Int) ≤ 7 - ((8 : Nat) : Int) := by omega
          clear hfin
          go_wp2
          go_ret
          exact ⟨rfl, hb⟩

end Go.Proofs.YtjkaignfomlflaaGreat
