/-
  Layer 4: the sum of parts by a key; the chapter's example.
-/
import Derived.Test.YtbkeodgiflfakaaHKey
namespace Go.Proofs.Ytbkeodgiflfakaa
open Go.RowKit
set_option linter.unusedVariables false
set_option maxRecDepth 20000

theorem infoStr : (Try.prog.info? 9).map (fun i => (i.zero, i.size, i.bytes)) = some (some (.string ⟨#[]⟩), 1, 16) := by kernel_rfl

theorem owns_one (w : World) (x : ByteArray) : (w.alloc (.cells #[.string x] 9 (0, 0))).ownsRow w.heap.size 9 1 (.slice (some ⟨w.heap.size, 0, none⟩) 1 1) 1 [.string x] :=
  ⟨rfl, .inr ⟨w.heap.size, 1, #[.string x], rfl, Nat.le_refl _, by show (w.heap.push _)[w.heap.size]? = _; simp, Nat.le_refl _, by unfold maxLen; omega, rfl, rfl⟩⟩

theorem strs_of_owns {w : World} {B n : Nat} {v : Value} {xs : List ByteArray} (h : w.ownsRow B 9 1 v n (xs.map Value.string)) (hn : xs.length = n) (h0 : 0 < n) : IsStrs w v xs := by
  subst hn
  rcases h.2 with ⟨_, h1⟩ | ⟨g, cap, cur, rfl, hb, hg, hc, hm, hs, ht⟩
  · omega
  · have hlt : g < w.heap.size := by
      by_cases hl : g < w.heap.size
      · exact hl
      · rw [Array.getElem?_eq_none (by omega)] at hg; cases hg
    refine .inr ⟨g, 0, cap, rfl, hc, hlt, fun j x hj => ?_⟩
    have := h.cells (g := g) rfl j (.string x) (by rw [List.getElem?_map, hj]; rfl)
    have e : (⟨g, 0, none⟩ : Addr).add j = ⟨g, 0 + j, none⟩ := by unfold Addr.add; split <;> simp_all
    rw [e] at this
    exact this

theorem add_at (bk o j : Nat) : (⟨bk, o, none⟩ : Addr).add j = ⟨bk, o + j, none⟩ := by unfold Addr.add; split <;> simp_all

theorem allOf_cons (x : ByteArray) (xs : List ByteArray) : allOf (x :: xs) = x.data.toList ++ allOf xs := by simp [allOf]

set_option maxHeartbeats 2000000 in
theorem hSum_any (key : ByteArray) (bk o c : Nat) (xs : List ByteArray) (w : World) (hk : key.size ≤ 1000000) (hc : xs.length ≤ c) (hb : bk < w.heap.size)
    (hcell : ∀ (j : Nat) x, xs[j]? = some x → w.cell? ⟨bk, o + j, none⟩ = some (.string x)) (h0 : 0 < xs.length) (hn : xs.length ≤ 100) (hl : (allOf xs).length ≤ 900000) :
    Calls Try.prog 57 #[.string key, .slice (some ⟨bk, o, none⟩) xs.length c] w fun e w' => e = .returned (.string ⟨(H.hmacL key.data.toList (allOf xs)).toArray⟩) ∧ Below w.heap.size w w' := by
  obtain ⟨i0, hi, hz0, hz1, hz2⟩ := info_parts infoStr
  obtain ⟨b, hbk⟩ : ∃ b, b = H.keyL key.data.toList := ⟨_, rfl⟩
  have hb64 : b.length = 64 := by rw [hbk]; exact H.keyL_length _
  have hi64 : (Try.prog.info? 110).map (·.size) = some (W.cellsOf b).toArray.size := by rw [List.size_toArray, cellsOf_len, hb64]; kernel_rfl
  have HH : Hid (H.hmacL key.data.toList (allOf xs) = S.sumL (H.over b 92 ++ S.sumL (H.over b 54 ++ allOf xs))) := by rw [hbk]; rfl
  have CK := keyBlock_any key hk w
  rw [← hbk] at CK
  have CK' : Hid (Calls Try.prog 66 #[.string key] w fun e w' => e = .returned (.agg (W.cellsOf b).toArray) ∧ Below w.heap.size w w') := CK
  have HB64 := Lib.hid hb64
  have HC : Hid (∀ (j : Nat) x, xs[j]? = some x → w.cell? ⟨bk, o + j, none⟩ = some (.string x)) := hcell
  clear CK hbk hb64 hcell
  go_enter Try.func57, Try.ntmps57
  go_wp2_with fail
  refine (Hid.out CK').mono ?_
  rintro e w1 ⟨rfl, b1⟩
  clear CK'
  have z1 := b1.size
  obtain ⟨g, hg⟩ : ∃ g, g = w1.heap.size := ⟨_, rfl⟩
  go_wp2_with (first | refine wpList_store_new rfl 110 (.tmp 5) (.tmp 8) rfl w1 _ _ _ _ rfl rfl rfl hi64 (by simp [cellsOf_len, HB64.out]) (cellsOf_all _) ?_ | refine wpList_load_row rfl 110 (.tmp 5) rfl w1.heap.size rfl _ _ _ _ (Row.new w1 _ _) Try.underlying110 rfl hi64 ?_)
  refine (laidOver_any b HB64.out 54 _).mono ?_
  rintro e w2 ⟨rfl, b2⟩
  have r2 : Row w2 g 110 (W.cellsOf b) := by rw [hg]; exact (Row.new w1 _ _).below b2 (by simp)
  have b2' : Below w.heap.size w w2 := (b1.alloc z1 _).trans (b2.mono (by simp; omega))
  have z2 := r2.lt
  have hwg : w.heap.size ≤ g := by rw [hg]; exact z1
  rw [← hg]
  obtain ⟨x, hx⟩ : ∃ x : ByteArray, x = ⟨(H.over b 54).toArray⟩ := ⟨_, rfl⟩
  have hxd : x.data.toList = H.over b 54 := by rw [hx]
  rw [← hx]
  have HXD := Lib.hid hxd
  clear b1 b2 hg hx hxd z1
  go_wp2_with (at_builtin; refine wpList_append_own _ rfl _ _ 69 rfl w2.heap.size 9 i0 (.string ⟨#[]⟩) 1 16 Try.underlying69 hi hz0 hz1 hz2 rfl (by decide) _ _ _ rfl (owns_one w2 x) ⟨bk, o, none⟩ xs.length c (xs.map Value.string) rfl (by simp) ?hn ?h1 (by unfold maxLen; omega) (by omega) (by simp) ?_)
  case hn =>
    intro j u hj
    rw [List.getElem?_map] at hj
    obtain ⟨y, hy, rfl⟩ := Option.map_eq_some_iff.1 hj
    rw [add_at]
    have e1 : (w2.alloc (.cells #[.string x] 9 (0, 0))).cell? ⟨bk, o + j, none⟩ = w.cell? ⟨bk, o + j, none⟩ := (b2'.alloc b2'.size _).cell (p := ⟨bk, o + j, none⟩) hb
    rw [e1]
    exact HC.out j y hy
  case h1 =>
    intro u hu
    obtain ⟨y, _, rfl⟩ := List.mem_map.1 hu
    rfl
  intro v3 w3 ho3 hgrow _
  have hS3 : IsStrs w3 v3 (x :: xs) := strs_of_owns (n := 1 + xs.length) ho3 (by simp; omega) (by omega)
  have b3' : Below w.heap.size w w3 := (b2'.alloc b2'.size _).grown hgrow (by have := b2'.size; simp; omega) (fun k hk => by simp [Value.ownBlock] at hk; have := b2'.size; omega)
  have r3 : Row w3 g 110 (W.cellsOf b) := by
    unfold Row
    rw [hgrow.block g (by simp; omega) (by simp [Value.ownBlock]; omega)]
    exact r2.alloc _
  have HS3 : Hid (IsStrs w3 v3 (x :: xs)) := hS3
  clear ho3 hgrow r2 b2' hS3
  go_wp2_with (refine wpList_load_row rfl 110 (.tmp 5) rfl g rfl _ _ _ _ r3 Try.underlying110 rfl hi64 ?_)
  refine (laidOver_any b HB64.out 92 _).mono ?_
  rintro e w4 ⟨rfl, b4⟩
  have HS4 : Hid (IsStrs w4 v3 (x :: xs)) := HS3.out.grown b4.size (fun k hk => b4.block k hk)
  have b4' : Below w.heap.size w w4 := b3'.trans (b4.mono b3'.size)
  clear b4 b3' r3 HS3
  go_wp2_with fail
  refine (text_any _ _ _ HS4.out (by simp; omega) (by rw [allOf_cons, HXD.out, List.length_append, H.over_length, HB64.out]; omega)).mono ?_
  rintro e w5 ⟨rfl, b5⟩
  have b5' : Below w.heap.size w w5 := b4'.trans (b5.mono b4'.size)
  rw [allOf_cons, HXD.out]
  clear b5 b4' HS4
  go_wp2_with fail
  refine (text_any _ [⟨(H.over b 92).toArray⟩, ⟨(S.sumL (H.over b 54 ++ allOf xs)).toArray⟩] _ (isStrs_new _ _ _ _ rfl 2 rfl) (by simp) ?hl).mono ?_
  case hl => simp [allOf, H.over_length, S.sumL_length, HB64.out]
  rintro e w6 ⟨rfl, b6⟩
  have b6' : Below w.heap.size w w6 := (b5'.alloc b5'.size _).trans (b6.mono (by have := b5'.size; simp; omega))
  have ha : allOf [⟨(H.over b 92).toArray⟩, ⟨(S.sumL (H.over b 54 ++ allOf xs)).toArray⟩] = H.over b 92 ++ S.sumL (H.over b 54 ++ allOf xs) := by simp [allOf]
  rw [ha, ← HH.out]
  clear b6 b5' ha
  go_wp2
  go_ret
  exact ⟨rfl, b6'⟩

end Go.Proofs.Ytbkeodgiflfakaa
