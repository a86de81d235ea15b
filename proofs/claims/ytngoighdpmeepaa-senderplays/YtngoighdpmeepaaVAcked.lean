/-
  Layer 15: Acked.
-/
import Derived.Test.YtngoighdpmeepaaVNew
namespace Go.Proofs.Ytngoighdpmeepaa
open Go.RowKit
set_option linter.unusedVariables false
set_option linter.unusedSimpArgs false
set_option maxRecDepth 20000

set_option maxHeartbeats 4000000 in
/-- Acked. -/
theorem acked_any (now : ByteArray) (g n cap last k m : Nat) (L L' : List S15.St) (w : World) (hn : L.length = n + 1) (h8 : n < 8) (ha : S15.StAt w g 0 L) (hL : L' = (S15.ackL k L).getD L) (hm : L'.length = m + 1) (hcap : n + 1 ≤ cap ∧ cap ≤ maxLen)
    (hrise : ∀ (i j : Nat) (p q : S15.St), i < j → L[i]? = some p → L[j]? = some q → p.num < q.num) :
    Calls Try.prog 17 #[.agg #[.func (.func 34) #[] #[], .func (.func 35) #[] #[], .string now, .slice (some ⟨g, 0, none⟩) (n + 1) cap, .int .u64 (last : Int)], .int .u64 (k : Int)] w fun e w' => ∃ g' cap', e = .returned (.agg #[.func (.func 34) #[] #[], .func (.func 35) #[] #[], .string now, .slice (some ⟨g', 0, none⟩) (m + 1) cap', .int .u64 (last : Int)]) ∧ S15.StAt w' g' 0 L' ∧ (m + 1 ≤ cap' ∧ cap' ≤ maxLen) ∧ Below w.heap.size w w' := by
  have la : g < w.heap.size := ha.lt
  have HR := Lib.hid hrise
  have HL := Lib.hid hL
  have r1 : Row ((w.alloc (.cells #[.func (.func 34) #[] #[], .func (.func 35) #[] #[], .string now, .slice (some ⟨g, 0, none⟩) (n + 1) cap, .int .u64 (last : Int)] 42 (0, 0))).alloc (.cells #[.nilFunc, .nilFunc, .string ⟨#[]⟩, .slice none 0 0, .int .u64 0] 42 (0, 0))) w.heap.size 42 [.func (.func 34) #[] #[], .func (.func 35) #[] #[], .string now, .slice (some ⟨g, 0, none⟩) (n + 1) cap, .int .u64 (last : Int)] := (Row.new' rfl rfl).alloc _
  have q1 : Row ((w.alloc (.cells #[.func (.func 34) #[] #[], .func (.func 35) #[] #[], .string now, .slice (some ⟨g, 0, none⟩) (n + 1) cap, .int .u64 (last : Int)] 42 (0, 0))).alloc (.cells #[.nilFunc, .nilFunc, .string ⟨#[]⟩, .slice none 0 0, .int .u64 0] 42 (0, 0))) (w.heap.size + 1) 42 [.nilFunc, .nilFunc, .string ⟨#[]⟩, .slice none 0 0, .int .u64 0] := Row.new' rfl (by simp)
  have ha1 := (ha.alloc (.cells #[.func (.func 34) #[] #[], .func (.func 35) #[] #[], .string now, .slice (some ⟨g, 0, none⟩) (n + 1) cap, .int .u64 (last : Int)] 42 (0, 0))).alloc (.cells #[.nilFunc, .nilFunc, .string ⟨#[]⟩, .slice none 0 0, .int .u64 0] 42 (0, 0))
  have bb : Below w.heap.size w ((w.alloc (.cells #[.func (.func 34) #[] #[], .func (.func 35) #[] #[], .string now, .slice (some ⟨g, 0, none⟩) (n + 1) cap, .int .u64 (last : Int)] 42 (0, 0))).alloc (.cells #[.nilFunc, .nilFunc, .string ⟨#[]⟩, .slice none 0 0, .int .u64 0] 42 (0, 0))) := ((Below.refl _ _).alloc (Nat.le_refl _) _).alloc (by simp) _
  clear ha hL hrise
  go_enter Try.func17, Try.ntmps17
  go_wp2
  go_step3
  go_wp2
  go_step3
  go_wp2
  generalize (w.alloc (.cells #[.func (.func 34) #[] #[], .func (.func 35) #[] #[], .string now, .slice (some ⟨g, 0, none⟩) (n + 1) cap, .int .u64 (last : Int)] 42 (0, 0))).alloc (.cells #[.nilFunc, .nilFunc, .string ⟨#[]⟩, .slice none 0 0, .int .u64 0] 42 (0, 0)) = w1 at *
  go_loopw [10] (fun iv wr => ∃ i : Nat, i ≤ n + 1 ∧ iv = .int .i64 (i : Int) ∧ Row wr w.heap.size 42 [.func (.func 34) #[] #[], .func (.func 35) #[] #[], .string now, .slice (some ⟨g, 0, none⟩) (n + 1) cap, .int .u64 (last : Int)] ∧ Row wr (w.heap.size + 1) 42 [.nilFunc, .nilFunc, .string ⟨#[]⟩, .slice none 0 0, .int .u64 0] ∧ S15.StAt wr g 0 L ∧ Hid (∀ (j : Nat) (q : S15.St), j < i → L[j]? = some q → q.num ≠ k) ∧ Below w.heap.size w wr) (fun iv _ => n + 1 - (intOf iv).toNat)
  case atStart => exact ⟨0, Nat.zero_le _, rfl, r1, q1, ha1, (fun j q hj => absurd hj (by omega)), bb⟩
  case round =>
    clear r1 q1 ha1 bb
    obtain ⟨i, hi, rfl, r1, q1, ha, hB, bb⟩ := hrel
    by_cases hlt : i < n + 1
    · have hs : (i : Int) < ((n + 1 : Nat) : Int) := by omega
      obtain ⟨p, hp⟩ : ∃ p, L[i]? = some p := ⟨L[i], List.getElem?_eq_getElem (by omega)⟩
      have hr : wr.rangeAt g (i * 3) [.int .u64 (p.num : Int), .int .u64 (p.tick : Int), .string p.tx] := by have := ha.load hp; rwa [Nat.zero_add] at this
      have lr := r1.lt
      have lq := q1.lt
      have ra := r1.alloc (.cells #[.int .u64 (p.num : Int), .int .u64 (p.tick : Int), .string p.tx] 75 (0, 0))
      have qa := q1.alloc (.cells #[.int .u64 (p.num : Int), .int .u64 (p.tick : Int), .string p.tx] 75 (0, 0))
      have haa := ha.alloc (.cells #[.int .u64 (p.num : Int), .int .u64 (p.tick : Int), .string p.tx] 75 (0, 0))
      have bba := bb.alloc bb.size (.cells #[.int .u64 (p.num : Int), .int .u64 (p.tick : Int), .string p.tx] 75 (0, 0))
      have c3 := ra.cell 3
      simp only [List.getElem?_cons_zero, List.getElem?_cons_succ] at c3
      by_cases he : p.num = k
      · have e1 : ((p.num : Int) == (k : Int)) = true := by rw [beq_iff_eq]; omega
        have hac := S15.ackL_some (n := k) hp he (fun j q hj hq => hB.out j q hj hq)
        clear r1 q1 ha bb hB he
        go_wp2_with (refine wpList_load_mid rfl 75 (.tmp 13) rfl g (i * 3) rfl _ _ hr Try.underlying75 rfl infoSt ?_)
        have hL' : L' = L.drop i := by have := HL.out; rw [hac] at this; exact this
        have hm2 : n + 1 - i = m + 1 := by rw [← hm, hL', List.length_drop, hn]
        have hfrom : S15.StAt (wr.alloc (.cells #[.int .u64 (p.num : Int), .int .u64 (p.tick : Int), .string p.tx] 75 (0, 0))) g (i * 3) L' := by rw [hL']; have := haa.from (i := i) (by omega); rwa [Nat.zero_add] at this
        rw [hm2]
        clear hac hL' haa
        generalize wr.alloc (.cells #[.int .u64 (p.num : Int), .int .u64 (p.tick : Int), .string p.tx] 75 (0, 0)) = wa at *
        refine (cloneSt_any g (i * 3) m (cap - i) L' _ hm (by omega) hfrom).mono ?_
        rintro e wb ⟨v, rfl, hov, bw⟩
        obtain ⟨g', cap', rfl, hg1, hg2, hg3, hg4⟩ := S15.own_slice hov
        have hst := S15.StAt.of_owns hov
        have rb := ra.below bw ra.lt
        have qb := qa.below bw qa.lt
        have b2 := bba.trans (bw.mono bba.size)
        have lw : wa.heap.size ≤ g' := hg1
        have lra := ra.lt
        have lqa := qa.lt
        clear ra qa bba bw hfrom c3 hov hr
        have c3 := rb.cell 3
        have f3 := rb.frozen 3
        simp only [List.getElem?_cons_zero, List.getElem?_cons_succ] at c3
        have rc := rb.set 3 (.slice (some ⟨g', 0, none⟩) (m + 1) cap')
        simp only [List.set_cons_succ, List.set_cons_zero] at rc
        have qc := qb.other (k := w.heap.size) (i := 3) (by omega) (.slice (some ⟨g', 0, none⟩) (m + 1) cap')
        have b3 := b2.setCell (p := ⟨w.heap.size, 3, none⟩) (Nat.le_refl _) (.slice (some ⟨g', 0, none⟩) (m + 1) cap')
        have hs3 := hst.other (k := w.heap.size) (i := 3) (by omega) (.slice (some ⟨g', 0, none⟩) (m + 1) cap')
        clear rb qb b2 hst
        go_wp2_with (first | refine wpList_load_row rfl 42 (.tmp 2) rfl w.heap.size rfl _ _ _ _ rc Try.underlying42 rfl infoSn ?_ | refine wpList_store_row rfl 42 (.tmp 4) (.tmp 32) rfl (w.heap.size + 1) _ rfl rfl _ _ qc infoSn rfl (by simp [Value.oneCell']) ?_)
        try rw [Exit.noGoto_ret]
        exact bodyPost_ret (results_cell_row rfl _ _ (w.heap.size + 1) _ _ _ _ rfl (qc.setRow [.func (.func 34) #[] #[], .func (.func 35) #[] #[], .string now, .slice (some ⟨g', 0, none⟩) (m + 1) cap', .int .u64 (last : Int)]) Try.underlying42 rfl infoSn) rfl ⟨g', cap', rfl, hs3.setRow (k := w.heap.size + 1) (by omega) _, ⟨hg3, hg4⟩, below_row b3 (show _ ≤ w.heap.size + 1 by omega) _⟩
      · have e1 : ((p.num : Int) == (k : Int)) = false := by rw [beq_eq_false_iff_ne]; omega
        by_cases hgt : k < p.num
        · have e2 : (k : Int) < (p.num : Int) := by omega
          have hL' : L' = L := by
            have := HL.out
            rw [S15.ackL_none (n := k) (fun j q hq => by
              rcases Nat.lt_trichotomy j i with h | h | h
              · exact hB.out j q h hq
              · subst h; rw [hp] at hq; cases hq; omega
              · have := HR.out i j p q h hp hq; omega)] at this
            exact this
          obtain rfl : m = n := by rw [hL', hn] at hm; omega
          subst hL'
          clear r1 q1 ha bb hB he hgt c3
          go_wp2_with (first | refine wpList_load_mid rfl 75 (.tmp 13) rfl g (i * 3) rfl _ _ hr Try.underlying75 rfl infoSt ?_ | refine wpList_load_row rfl 42 (.tmp 2) rfl w.heap.size rfl _ _ _ _ ra Try.underlying42 rfl infoSn ?_ | refine wpList_store_row rfl 42 (.tmp 4) (.tmp 32) rfl (w.heap.size + 1) _ rfl rfl _ _ qa infoSn rfl (by simp [Value.oneCell']) ?_)
          try rw [Exit.noGoto_ret]
          exact bodyPost_ret (results_cell_row rfl _ _ (w.heap.size + 1) _ _ _ _ rfl (qa.setRow [.func (.func 34) #[] #[], .func (.func 35) #[] #[], .string now, .slice (some ⟨g, 0, none⟩) (m + 1) cap, .int .u64 (last : Int)]) Try.underlying42 rfl infoSn) rfl ⟨g, cap, rfl, haa.setRow (k := w.heap.size + 1) (by omega) _, hcap, below_row bba (show _ ≤ w.heap.size + 1 by omega) _⟩
        · have e2 : ¬ (k : Int) < (p.num : Int) := by omega
          have hB2 : Hid (∀ (j : Nat) (q : S15.St), j < i + 1 → L[j]? = some q → q.num ≠ k) := fun j q hj hq => by
            by_cases h : j = i
            · subst h; rw [hp] at hq; cases hq; exact he
            · exact hB.out j q (by omega) hq
          clear r1 q1 ha bb hB he hgt c3
          go_wp2_with (refine wpList_load_mid rfl 75 (.tmp 13) rfl g (i * 3) rfl _ _ hr Try.underlying75 rfl infoSt ?_)
          go_roundw
          case rel => exact ⟨i + 1, by omega, by go_num, ra, qa, haa, hB2, bba⟩
          case measure => simp [intOf]; omega
    · obtain rfl : i = n + 1 := by omega
      have hL' : L' = L := by
        have := HL.out
        rw [S15.ackL_none (n := k) (fun j q hq => hB.out j q (by have := (List.getElem?_eq_some_iff.1 hq).1; omega) hq)] at this
        exact this
      obtain rfl : m = n := by rw [hL', hn] at hm; omega
      subst hL'
      have lr := r1.lt
      have lq := q1.lt
      go_wp2_with (first | refine wpList_load_row rfl 42 (.tmp 2) rfl w.heap.size rfl _ _ _ _ r1 Try.underlying42 rfl infoSn ?_ | refine wpList_store_row rfl 42 (.tmp 4) (.tmp 32) rfl (w.heap.size + 1) _ rfl rfl _ _ q1 infoSn rfl (by simp [Value.oneCell']) ?_)
      try rw [Exit.noGoto_ret]
      exact bodyPost_ret (results_cell_row rfl _ _ (w.heap.size + 1) _ _ _ _ rfl (q1.setRow [.func (.func 34) #[] #[], .func (.func 35) #[] #[], .string now, .slice (some ⟨g, 0, none⟩) (m + 1) cap, .int .u64 (last : Int)]) Try.underlying42 rfl infoSn) rfl ⟨g, cap, rfl, ha.setRow (k := w.heap.size + 1) (by omega) _, hcap, below_row bb (show _ ≤ w.heap.size + 1 by omega) _⟩

end Go.Proofs.Ytngoighdpmeepaa
