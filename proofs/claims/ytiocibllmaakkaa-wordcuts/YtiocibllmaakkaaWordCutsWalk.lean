/-
  Layer 1: the walk of WordCuts: it answers true at every text and sizes.
-/
import Derived.Test.YtiocibllmaakkaaAwake
import Derived.Test.YtiocibllmaakkaaCutLaws
import Derived.OpenShut
namespace Go.Proofs.Ytiocibllmaakkaa.WordCutsW
open Go.RowKit
set_option linter.unusedVariables false

/-- What the first loop knows behind k sizes: where it is, and the error that it wants. -/
def At (n : Nat) (zs : List Int) (k : Nat) (a want : Int) : Prop :=
  (want = 0 ∧ 0 ≤ a ∧ a ≤ n ∧ W.errL n zs = W.errL (n - a.toNat) (zs.drop k)) ∨ (want ≠ 0 ∧ 0 ≤ a ∧ a ≤ n ∧ W.errL n zs = want)

theorem At.start (n : Nat) (zs : List Int) : At n zs 0 0 0 := .inl ⟨rfl, by omega, by omega, by simp⟩
theorem At.bd {n : Nat} {zs : List Int} {k : Nat} {a want : Int} (h : At n zs k a want) : 0 ≤ a ∧ a ≤ n := by rcases h with ⟨_, h⟩ | ⟨_, h⟩ <;> exact ⟨h.1, h.2.1⟩
theorem At.stay {n : Nat} {zs : List Int} {k : Nat} {a want : Int} (h : At n zs k a want) (hw : want ≠ 0) : At n zs (k + 1) a want := by
  rcases h with ⟨h, _⟩ | h
  · exact absurd h hw
  · exact .inr h
theorem At.arg {n : Nat} {zs : List Int} {k : Nat} {a : Int} (h : At n zs k a 0) (hk : k < zs.length) (hz : zs.getD k 0 < 0) : At n zs (k + 1) a 2 := by
  rcases h with ⟨_, h1, h2, h3⟩ | h
  · refine .inr ⟨by decide, h1, h2, ?_⟩
    rw [h3, W.drop_get hk, W.errL, if_pos hz]
  · exact absurd rfl h.1
theorem At.short {n : Nat} {zs : List Int} {k : Nat} {a : Int} (h : At n zs k a 0) (hk : k < zs.length) (hz : ¬ zs.getD k 0 < 0) (hs : (n : Int) - a < zs.getD k 0) : At n zs (k + 1) a 3 := by
  rcases h with ⟨_, h1, h2, h3⟩ | h
  · refine .inr ⟨by decide, h1, h2, ?_⟩
    rw [h3, W.drop_get hk, W.errL, if_neg hz, if_pos (by omega)]
  · exact absurd rfl h.1
theorem At.on {n : Nat} {zs : List Int} {k : Nat} {a : Int} (h : At n zs k a 0) (hk : k < zs.length) (hz : ¬ zs.getD k 0 < 0) (hs : ¬ (n : Int) - a < zs.getD k 0) : At n zs (k + 1) (a + zs.getD k 0) 0 := by
  rcases h with ⟨_, h1, h2, h3⟩ | h
  · refine .inl ⟨rfl, by omega, by omega, ?_⟩
    rw [h3, W.drop_get hk, W.errL, if_neg hz, if_neg (by omega), show n - a.toNat - (zs.getD k 0).toNat = n - (a + zs.getD k 0).toNat from by omega]
  · exact absurd rfl h.1
theorem At.done {n : Nat} {zs : List Int} {a want : Int} (h : At n zs zs.length a want) : W.errL n zs = want := by
  rcases h with ⟨rfl, _, _, h⟩ | ⟨_, _, _, h⟩
  · rw [h, List.drop_length]; rfl
  · exact h

/-- strings.Join of parts that lie in a row of their own, with nothing between. -/
theorem join_parts (P : List (List UInt8)) (B g n : Nat) (x : World) (hn : P.length = n) (hl : n ≤ 1000000) (hf : P.flatten.length ≤ 1000000) (ho : x.ownsRow B 9 1 (.slice (some ⟨g, 0, none⟩) n n) n (W.strs P)) :
    Calls Try.prog 17 #[.slice (some ⟨g, 0, none⟩) n n, .string ⟨#[]⟩] x fun e w' => e = .returned (.string ⟨P.flatten.toArray⟩) ∧ Below x.heap.size x w' := by
  have e1 : (P.map arr).length = n := by simp [hn]
  have e2 : ((P.map arr).map (·.data.toList)) = P := by simp [arr, Function.comp_def]
  have e3 : Lib.join ((P.map arr).map (·.data.toList)) (⟨#[]⟩ : ByteArray).data.toList = P.flatten := by rw [e2]; exact W.join_flat P
  have := Try.strings_Join g 0 n (P.map arr) ⟨#[]⟩ x (fun j y hj => by
    obtain ⟨hlt, hy⟩ := List.getElem?_eq_some_iff.1 hj
    have := own_strs ho j hlt
    rw [this]
    simp [List.getElem?_eq_getElem hlt, hy]) (ho.lt _ rfl).2 (by omega) (by omega) (by rw [e3]; omega)
  rw [e3, e1] at this
  exact this

set_option maxHeartbeats 4000000 in
theorem core (s : List UInt8) (ao : Option Addr) (cap : Nat) (zs : List Int) (w : World) (hs : s.length ≤ 300) (hl : zs.length ≤ 20) (hz : IsInts w w.heap.size ao zs) (hwf : ∀ i, -9223372036854775808 ≤ zs.getD i 0 ∧ zs.getD i 0 ≤ 9223372036854775807) :
    Calls Try.prog 4 #[.string ⟨s.toArray⟩, .slice ao zs.length cap] w fun e w' => e = .returned (.bool true) ∧ Below w.heap.size w w' := by
  have hsz : (⟨s.toArray⟩ : ByteArray).size = s.length := by simp [ByteArray.size]
  have HSZ := Lib.hid hsz
  clear hsz
  go_enter Try.func4, Try.ntmps4
  go_wp2_with fail
  refine (awake_any _).mono ?_
  rintro e w1 ⟨rfl, hb1⟩
  have hz1 : IsInts w1 w1.heap.size ao zs := fun h => by
    obtain ⟨b, off, h1, h2, h3⟩ := hz h
    exact ⟨b, off, h1, Nat.lt_of_lt_of_le h2 hb1.size, fun i hi => (hb1.cell (by exact h2)).trans (h3 i hi)⟩
  clear hz
  go_wp2_with fail
  refine (cut_any s ao cap zs w1 (by omega) (by omega) hz1).mono ?_
  rintro e w2 ⟨v, rfl, hv, hb2⟩
  have hz2 : IsInts w2 w2.heap.size ao zs := fun h => by
    obtain ⟨b, off, h1, h2, h3⟩ := hz1 h
    exact ⟨b, off, h1, Nat.lt_of_lt_of_le h2 hb2.size, fun i hi => (hb2.cell (by exact h2)).trans (h3 i hi)⟩
  have hb3 : Below w.heap.size w w2 := hb1.trans (hb2.mono hb1.size)
  have HE := Lib.hid (W.cut_err zs s)
  clear hz1 hb1
  go_wp2
  go_loop [7, 8, 10, 31] (fun av wv _ iv => ∃ (k : Nat) (a want : Int), k ≤ zs.length ∧ av = .int .i64 a ∧ wv = .int .i64 want ∧ iv = .int .i64 k ∧ Hid (At s.length zs k a want)) (fun _ _ _ iv => zs.length - (intOf iv).toNat)
  case atStart => exact ⟨0, 0, 0, Nat.zero_le _, rfl, rfl, rfl, At.start _ _⟩
  case round =>
    obtain ⟨k, a, want, hk, rfl, rfl, rfl, HA⟩ := hrel
    obtain ⟨ha0, ha1⟩ := HA.out.bd
    by_cases hlt : k < zs.length
    · obtain ⟨b, off, rfl, hbB, hcell⟩ := hz2 (by omega)
      have hc := hcell k hlt
      obtain ⟨z0, z1⟩ := hwf k
      clear hcell
      by_cases hw : want = 0
      · subst hw
        have H1 : Hid (zs.getD k 0 < 0 → At s.length zs (k + 1) a 2) := fun h => HA.out.arg hlt h
        have H2 : Hid (¬ zs.getD k 0 < 0 → (s.length : Int) - a < zs.getD k 0 → At s.length zs (k + 1) a 3) := fun h h' => HA.out.short hlt h h'
        have H3 : Hid (¬ zs.getD k 0 < 0 → ¬ (s.length : Int) - a < zs.getD k 0 → At s.length zs (k + 1) (a + zs.getD k 0) 0) := fun h h' => HA.out.on hlt h h'
        generalize zs.getD k 0 = z at hc z0 z1 H1 H2 H3
        by_cases c1 : z < 0
        · go_wp2
          go_round
          case rel => exact ⟨k + 1, a, 2, by omega, rfl, rfl, by go_num, H1.out c1⟩
          case measure => simp [intOf]; omega
        · by_cases c2 : (s.length : Int) - a < z
          · go_wp2
            go_round
            case rel => exact ⟨k + 1, a, 3, by omega, rfl, rfl, by go_num, H2.out c1 c2⟩
            case measure => simp [intOf]; omega
          · go_wp2
            go_round
            case rel => exact ⟨k + 1, a + z, 0, by omega, rfl, rfl, by go_num, H3.out c1 c2⟩
            case measure => simp [intOf]; omega
      · have hw' : (want != 0) = true := by rw [bne_iff_ne]; exact hw
        have HB : Hid (At s.length zs (k + 1) a want) := HA.out.stay hw
        generalize zs.getD k 0 = z at hc z0 z1
        go_wp2
        go_round
        case rel => exact ⟨k + 1, a, want, by omega, rfl, rfl, by go_num, HB⟩
        case measure => simp [intOf]; omega
    · obtain rfl : k = zs.length := by omega
      have hd := HA.out.done
      rw [← HE.out] at hd
      rcases hv with ⟨he0, rfl, hpl, ho⟩ | ⟨hne, rfl⟩
      · obtain rfl : want = 0 := by rw [← hd, he0]
        have hj := W.cut_join zs s he0
        have hsz := W.cut_sizes zs s he0
        clear hd
        generalize (W.cutE s zs).1 = P at ho hpl hj hsz
        rw [he0]
        clear he0
        have HJ := Lib.hid hj
        have HS := Lib.hid hsz
        clear hj hsz hb2
        go_wp2
        go_loop [11, 12, 68] (fun _ _ iv => ∃ k : Nat, k ≤ zs.length ∧ iv = .int .i64 k) (fun _ _ iv => zs.length - (intOf iv).toNat)
        case atStart => exact ⟨0, Nat.zero_le _, rfl⟩
        case round =>
          obtain ⟨j, hj, rfl⟩ := hrel
          by_cases hlt : j < zs.length
          · obtain ⟨b, off, rfl, hbB, hcell⟩ := hz2 (by omega)
            have hc := hcell j hlt
            have hc2 : w2.cell? ⟨w1.heap.size, j, none⟩ = some (.string ⟨(P.getD j []).toArray⟩) := by
              rw [ho.cellAt j (by omega), W.strs_at P j (by omega)]
            have hq := HS.out j hlt
            have hl2 : (⟨(P.getD j []).toArray⟩ : ByteArray).size = (P.getD j []).length := by simp [ByteArray.size]
            have t2 : (((⟨(P.getD j []).toArray⟩ : ByteArray).size : Int) != zs.getD j 0) = false := by rw [hl2, hq]; simp
            clear hq hcell hl2
            generalize zs.getD j 0 = z at hc t2
            generalize (⟨(P.getD j []).toArray⟩ : ByteArray) = x at hc2 t2
            go_wp2
            go_round
            case rel => exact ⟨j + 1, by omega, by go_num⟩
            case measure => simp [intOf]; omega
          · obtain rfl : j = zs.length := by omega
            have hjl : P.flatten.length ≤ 300 := by rw [HJ.out]; exact hs
            go_wp2_with fail
            refine (join_parts P _ _ _ _ hpl (by omega) (by omega) ho).mono ?_
            rintro e w3 ⟨rfl, hb4⟩
            rw [HJ.out]
            have hb5 := hb3.trans (hb4.mono hb3.size)
            clear hb4 hb3 ho
            go_wp2
            go_ret
            exact ⟨rfl, hb5⟩
      · subst hd
        have t1 : ((W.cutE s zs).2 != 0) = true := by rw [bne_iff_ne]; exact hne
        go_wp2
        go_ret
        exact ⟨rfl, hb3⟩

theorem wf_bounds {zs : List Int} (h : ∀ n ∈ zs, (Lit.int .i64 n).wf = true) (i : Nat) : -9223372036854775808 ≤ zs.getD i 0 ∧ zs.getD i 0 ≤ 9223372036854775807 := by
  by_cases hi : i < zs.length
  · have := h (zs[i]) (List.getElem_mem hi)
    rw [List.getD_eq_getElem?_getD, List.getElem?_eq_getElem hi]
    exact bounds_i64 this
  · rw [List.getD_eq_getElem?_getD, List.getElem?_eq_none (by omega)]
    decide

theorem walk (a0 : ByteArray) (a1 : Option Addr) (len1 cap1 : Nat) (z1 : List Int) (w : World) (w0 : a0.size ≤ maxLen) (w1 : IsRow .i64 w a1 len1 cap1 z1) :
    Calls Try.prog 4 #[.string a0, .slice a1 len1 cap1] w fun e w' => e = .returned (.bool true) ∧ Below w.heap.size w w' := by
  by_cases hL : a0.size ≤ 300 ∧ len1 ≤ 20
  · obtain ⟨h1, h2⟩ := w1.ints
    have hwf : ∀ n ∈ z1, (Lit.int .i64 n).wf = true := by
      rcases w1 with ⟨_, _, _, rfl⟩ | ⟨_, _, _, _, _, _, h⟩
      · simp
      · exact h
    have := core a0.data.toList a1 cap1 (z1.take len1) w (by simpa using hL.1) (by omega) h1 (wf_bounds fun n hn => hwf n (List.mem_of_mem_take hn))
    rw [h2] at this
    exact this
  · unfold maxLen at w0
    have hl63 : len1 ≤ 9223372036854775807 := by
      rcases w1 with ⟨_, rfl, _, _⟩ | ⟨_, _, h, h', _⟩
      · omega
      · unfold maxLen at h'; omega
    clear w1
    go_enter Try.func4, Try.ntmps4
    go_wp2_with fail
    refine (awake_any _).mono ?_
    rintro e w1 ⟨rfl, hb1⟩
    by_cases c : 300 < a0.size
    · go_wp2
      go_ret
      exact ⟨rfl, hb1⟩
    · have c2 : 20 < len1 := by omega
      go_wp2
      go_ret
      exact ⟨rfl, hb1⟩

end Go.Proofs.Ytiocibllmaakkaa.WordCutsW
