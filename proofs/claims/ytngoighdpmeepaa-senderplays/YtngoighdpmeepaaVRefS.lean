/-
  Layer 15: the document's New, Due, Acked.
-/
import Derived.Test.YtngoighdpmeepaaVLaw
import Derived.Test.YtngoighdpmeepaaLater
namespace Go.Proofs.Ytngoighdpmeepaa
open Go.RowKit
set_option linter.unusedVariables false
set_option linter.unusedSimpArgs false
set_option maxRecDepth 20000

theorem infoRSn : (Try.prog.info? 47).map (·.size) = some 3 := by kernel_rfl
theorem infoRSt : (Try.prog.info? 61).map (·.size) = some 3 := by kernel_rfl
theorem laterN_any (a b : Nat) (ha : a ≤ 18446744073709551615) (hb : b ≤ 18446744073709551615) (w : World) : Calls Try.prog 37 #[.int .u64 (a : Int), .int .u64 (b : Int)] w fun e w' => e = .returned (.int .u64 ((S15.addS a b : Nat) : Int)) ∧ w' = w := by
  have h := later_any (a : Int) (b : Int) (by omega) (by omega) (by omega) (by omega) w
  rw [S15.addS_cast] at h
  exact h
set_option maxHeartbeats 1000000 in
/-- The document's New. -/
theorem refNew15 (t : ByteArray) (w : World) :
    Calls Try.prog 15 #[.string t] w fun e w' => ∃ g, e = .returned (.agg #[.slice (some ⟨g, 0, none⟩) 1 1, .string t, .int .u64 0]) ∧ S15.StAt w' g 0 [⟨0, 0, t⟩] ∧ Below w.heap.size w w' := by
  have q1 : Row ((w.alloc (.cells #[.slice none 0 0, .string ⟨#[]⟩, .int .u64 0] 47 (0, 0))).alloc (.cells #[.int .u64 0, .int .u64 0, .string t] 61 (0, 0))) w.heap.size 47 [.slice none 0 0, .string ⟨#[]⟩, .int .u64 0] := (Row.new' rfl rfl).alloc _
  have s1 : Row ((w.alloc (.cells #[.slice none 0 0, .string ⟨#[]⟩, .int .u64 0] 47 (0, 0))).alloc (.cells #[.int .u64 0, .int .u64 0, .string t] 61 (0, 0))) (w.heap.size + 1) 61 [.int .u64 0, .int .u64 0, .string t] := Row.new' rfl (by simp)
  have bb : Below w.heap.size w ((w.alloc (.cells #[.slice none 0 0, .string ⟨#[]⟩, .int .u64 0] 47 (0, 0))).alloc (.cells #[.int .u64 0, .int .u64 0, .string t] 61 (0, 0))) := ((Below.refl _ _).alloc (Nat.le_refl _) _).alloc (by simp) _
  have hs : S15.StAt ((w.alloc (.cells #[.slice none 0 0, .string ⟨#[]⟩, .int .u64 0] 47 (0, 0))).alloc (.cells #[.int .u64 0, .int .u64 0, .string t] 61 (0, 0))) (w.heap.size + 1) 0 [⟨0, 0, t⟩] := ⟨_, [], [], rfl, s1⟩
  go_enter Try.func15, Try.ntmps15
  go_wp2_with (first | refine wpList_store_row rfl 47 (.tmp 2) (.tmp 7) rfl (w.heap.size) _ rfl rfl _ _ q1 infoRSn rfl (by simp [Value.oneCell']) ?_)
  exact bodyPost_ret (results_cell_row rfl _ _ (w.heap.size) _ _ _ _ rfl (q1.setRow [.slice (some ⟨w.heap.size + 1, 0, none⟩) 1 1, .string t, .int .u64 0]) Try.underlying47 rfl infoRSn) rfl ⟨w.heap.size + 1, rfl, hs.setRow (by omega) _, below_row bb (Nat.le_refl _) _⟩
set_option maxHeartbeats 4000000 in
/-- The document's Due. -/
theorem refDue15 (now : ByteArray) (g off n cap last : Nat) (L : List S15.St) (p : S15.St) (w : World) (hn : L.length = n + 1) (h8 : n < 8) (hp : L[n]? = some p) (ha : S15.StAt w g off L) (wait beat : Nat) (hw : wait ≤ 18446744073709551615) (hbt : beat ≤ 18446744073709551615) (hl : last ≤ 18446744073709551615) (ht : p.tick ≤ 18446744073709551615) :
    Calls Try.prog 19 #[.agg #[.slice (some ⟨g, off, none⟩) (n + 1) cap, .string now, .int .u64 (last : Int)], .int .u64 (wait : Int), .int .u64 (beat : Int)] w fun e w' => e = .returned (.int .u64 (((if (decide (n < 7) && !decide (now = p.tx)) = true then 0 else S15.againN n last p.tick wait beat : Nat)) : Int)) ∧ Below w.heap.size w w' := by
  have A1 := Lib.hid (laterN_any last beat hl hbt)
  have A2 := Lib.hid (laterN_any p.tick wait ht hw)
  have hr0 := ha.load hp
  have la : g < w.heap.size := ha.lt
  unfold S15.againN
  have b1 := S15.addS_le last beat
  have b2 := S15.addS_le p.tick wait
  generalize S15.addS last beat = X at *
  generalize S15.addS p.tick wait = Y at *
  have y1 : IntKind.i64.wrap (((n + 1 : Nat) : Int) - 1) = (n : Int) := by rw [IntKind.wrap_i64]; omega
  have y2 : (n : Int) < ((n + 1 : Nat) : Int) := by omega
  have r3 : Row (w.alloc (.cells #[.slice (some ⟨g, off, none⟩) (n + 1) cap, .string now, .int .u64 (last : Int)] 47 (0, 0))) w.heap.size 47 [.slice (some ⟨g, off, none⟩) (n + 1) cap, .string now, .int .u64 (last : Int)] := Row.new' rfl rfl
  have c10 := r3.cell 0
  simp only [List.getElem?_cons_zero] at c10
  have ha1 := ha.alloc (.cells #[.slice (some ⟨g, off, none⟩) (n + 1) cap, .string now, .int .u64 (last : Int)] 47 (0, 0))
  have hr := ha1.load hp
  have hr2 : (w.alloc (.cells #[.slice (some ⟨g, off, none⟩) (n + 1) cap, .string now, .int .u64 (last : Int)] 47 (0, 0))).rangeAt g (off + n * 3) [.int .u64 (p.num : Int), .int .u64 (p.tick : Int), .string p.tx] := hr
  have r3b := r3.alloc (.cells #[.int .u64 (p.num : Int), .int .u64 (p.tick : Int), .string p.tx] 61 (0, 0))
  have r7 : Row ((w.alloc (.cells #[.slice (some ⟨g, off, none⟩) (n + 1) cap, .string now, .int .u64 (last : Int)] 47 (0, 0))).alloc (.cells #[.int .u64 (p.num : Int), .int .u64 (p.tick : Int), .string p.tx] 61 (0, 0))) (w.heap.size + 1) 61 [.int .u64 (p.num : Int), .int .u64 (p.tick : Int), .string p.tx] := Row.new' rfl (by simp)
  have bb : Below w.heap.size w ((w.alloc (.cells #[.slice (some ⟨g, off, none⟩) (n + 1) cap, .string now, .int .u64 (last : Int)] 47 (0, 0))).alloc (.cells #[.int .u64 (p.num : Int), .int .u64 (p.tick : Int), .string p.tx] 61 (0, 0))) := ((Below.refl _ _).alloc (Nat.le_refl _) _).alloc (by simp) _
  have c18 : ((w.alloc (.cells #[.slice (some ⟨g, off, none⟩) (n + 1) cap, .string now, .int .u64 (last : Int)] 47 (0, 0))).alloc (.cells #[.int .u64 (p.num : Int), .int .u64 (p.tick : Int), .string p.tx] 61 (0, 0))).cell? ⟨w.heap.size, 1, none⟩ = some (.string now) := r3b.cell 1
  have c24 : ((w.alloc (.cells #[.slice (some ⟨g, off, none⟩) (n + 1) cap, .string now, .int .u64 (last : Int)] 47 (0, 0))).alloc (.cells #[.int .u64 (p.num : Int), .int .u64 (p.tick : Int), .string p.tx] 61 (0, 0))).cell? ⟨w.heap.size, 0, none⟩ = some (.slice (some ⟨g, off, none⟩) (n + 1) cap) := r3b.cell 0
  have c29 : ((w.alloc (.cells #[.slice (some ⟨g, off, none⟩) (n + 1) cap, .string now, .int .u64 (last : Int)] 47 (0, 0))).alloc (.cells #[.int .u64 (p.num : Int), .int .u64 (p.tick : Int), .string p.tx] 61 (0, 0))).cell? ⟨w.heap.size, 2, none⟩ = some (.int .u64 (last : Int)) := r3b.cell 2
  have c20 : ((w.alloc (.cells #[.slice (some ⟨g, off, none⟩) (n + 1) cap, .string now, .int .u64 (last : Int)] 47 (0, 0))).alloc (.cells #[.int .u64 (p.num : Int), .int .u64 (p.tick : Int), .string p.tx] 61 (0, 0))).cell? ⟨w.heap.size + 1, 2, none⟩ = some (.string p.tx) := r7.cell 2
  have c38 : ((w.alloc (.cells #[.slice (some ⟨g, off, none⟩) (n + 1) cap, .string now, .int .u64 (last : Int)] 47 (0, 0))).alloc (.cells #[.int .u64 (p.num : Int), .int .u64 (p.tick : Int), .string p.tx] 61 (0, 0))).cell? ⟨w.heap.size + 1, 1, none⟩ = some (.int .u64 (p.tick : Int)) := r7.cell 1
  clear hr ha1 r3 r3b r7 ha hr0 hp
  by_cases d : now = p.tx
  · subst d
    have hdd : (decide (n < 7) && !decide (p.tx = p.tx)) = false := by simp
    rw [hdd, if_neg (by decide)]
    clear hdd
    by_cases hc : n = 0
    · rw [if_pos hc]
      have e1 : ¬ (1 : Int) < ((n + 1 : Nat) : Int) := by omega
      clear hc
      go_enter Try.func19, Try.ntmps19
      have tk1 : True := True.intro
      go_wp2_with (first | (refine at_op (.load 61 (.tmp 15)) (by with_reducible rfl) ?_; clear tk1; go_loud (refine wpList_load_mid rfl 61 (.tmp 15) rfl g (off + n * 3) rfl _ _ hr2 Try.underlying61 rfl infoRSt ?_)))
      refine (A1.out _).mono ?_
      rintro e _ ⟨rfl, rfl⟩
      go_wp2
      go_ret
      exact ⟨rfl, bb⟩
    · rw [if_neg hc]
      have e1 : (1 : Int) < ((n + 1 : Nat) : Int) := by omega
      clear hc
      by_cases hXY : Y < X
      · have e5 : (Y : Int) < (X : Int) := by omega
        rw [show min X Y = Y by omega]
        go_enter Try.func19, Try.ntmps19
        have tk1 : True := True.intro
        go_wp2_with (first | (refine at_op (.load 61 (.tmp 15)) (by with_reducible rfl) ?_; clear tk1; go_loud (refine wpList_load_mid rfl 61 (.tmp 15) rfl g (off + n * 3) rfl _ _ hr2 Try.underlying61 rfl infoRSt ?_)))
        refine (A1.out _).mono ?_
        rintro e _ ⟨rfl, rfl⟩
        go_wp2_with fail
        refine (A2.out _).mono ?_
        rintro e _ ⟨rfl, rfl⟩
        go_wp2_with fail
        refine (A2.out _).mono ?_
        rintro e _ ⟨rfl, rfl⟩
        go_wp2
        go_ret
        exact ⟨rfl, bb⟩
      · have e5 : ¬ (Y : Int) < (X : Int) := by omega
        rw [show min X Y = X by omega]
        go_enter Try.func19, Try.ntmps19
        have tk1 : True := True.intro
        go_wp2_with (first | (refine at_op (.load 61 (.tmp 15)) (by with_reducible rfl) ?_; clear tk1; go_loud (refine wpList_load_mid rfl 61 (.tmp 15) rfl g (off + n * 3) rfl _ _ hr2 Try.underlying61 rfl infoRSt ?_)))
        refine (A1.out _).mono ?_
        rintro e _ ⟨rfl, rfl⟩
        go_wp2_with fail
        refine (A2.out _).mono ?_
        rintro e _ ⟨rfl, rfl⟩
        go_wp2
        go_ret
        exact ⟨rfl, bb⟩
  · have dl : ¬ now.toList = p.tx.toList := fun hh => d (ByteArray.ext (by simpa [ByteArray.toList_eq] using hh))
    have dl1 : (now.toList == p.tx.toList) = false := by rw [beq_eq_false_iff_ne]; exact dl
    have dl2 : (now == p.tx) = false := by rw [beq_toListBytes]; exact dl1
    by_cases h7 : n < 7
    · have hdd : (decide (n < 7) && !decide (now = p.tx)) = true := by simp [d, h7]
      rw [hdd, if_pos rfl]
      have e8 : ((n + 1 : Nat) : Int) < 8 := by omega
      clear hdd
      go_enter Try.func19, Try.ntmps19
      have tk1 : True := True.intro
      go_wp2_with (first | (refine at_op (.load 61 (.tmp 15)) (by with_reducible rfl) ?_; clear tk1; go_loud (refine wpList_load_mid rfl 61 (.tmp 15) rfl g (off + n * 3) rfl _ _ hr2 Try.underlying61 rfl infoRSt ?_)))
      go_ret
      exact ⟨rfl, bb⟩
    · have hdd : (decide (n < 7) && !decide (now = p.tx)) = false := by simp [h7]
      rw [hdd, if_neg (by decide)]
      have e8 : ¬ ((n + 1 : Nat) : Int) < 8 := by omega
      clear hdd
      have hc : ¬ n = 0 := by omega
      rw [if_neg hc]
      have e1 : (1 : Int) < ((n + 1 : Nat) : Int) := by omega
      clear hc
      by_cases hXY : Y < X
      · have e5 : (Y : Int) < (X : Int) := by omega
        rw [show min X Y = Y by omega]
        go_enter Try.func19, Try.ntmps19
        have tk1 : True := True.intro
        go_wp2_with (first | (refine at_op (.load 61 (.tmp 15)) (by with_reducible rfl) ?_; clear tk1; go_loud (refine wpList_load_mid rfl 61 (.tmp 15) rfl g (off + n * 3) rfl _ _ hr2 Try.underlying61 rfl infoRSt ?_)))
        refine (A1.out _).mono ?_
        rintro e _ ⟨rfl, rfl⟩
        go_wp2_with fail
        refine (A2.out _).mono ?_
        rintro e _ ⟨rfl, rfl⟩
        go_wp2_with fail
        refine (A2.out _).mono ?_
        rintro e _ ⟨rfl, rfl⟩
        go_wp2
        go_ret
        exact ⟨rfl, bb⟩
      · have e5 : ¬ (Y : Int) < (X : Int) := by omega
        rw [show min X Y = X by omega]
        go_enter Try.func19, Try.ntmps19
        have tk1 : True := True.intro
        go_wp2_with (first | (refine at_op (.load 61 (.tmp 15)) (by with_reducible rfl) ?_; clear tk1; go_loud (refine wpList_load_mid rfl 61 (.tmp 15) rfl g (off + n * 3) rfl _ _ hr2 Try.underlying61 rfl infoRSt ?_)))
        refine (A1.out _).mono ?_
        rintro e _ ⟨rfl, rfl⟩
        go_wp2_with fail
        refine (A2.out _).mono ?_
        rintro e _ ⟨rfl, rfl⟩
        go_wp2
        go_ret
        exact ⟨rfl, bb⟩
set_option maxHeartbeats 4000000 in
/-- The document's Acked. -/
theorem refAcked15 (now : ByteArray) (g off n cap last k : Nat) (L : List S15.St) (w : World) (hn : L.length = n + 1) (h8 : n < 8) (hcap : n + 1 ≤ cap) (ha : S15.StAt w g off L) :
    Calls Try.prog 18 #[.agg #[.slice (some ⟨g, off, none⟩) (n + 1) cap, .string now, .int .u64 (last : Int)], .int .u64 (k : Int)] w fun e w' => ∃ off' m cap', e = .returned (.agg #[.slice (some ⟨g, off', none⟩) (m + 1) cap', .string now, .int .u64 (last : Int)]) ∧ S15.StAt w' g off' ((S15.ackL k L).getD L) ∧ ((S15.ackL k L).getD L).length = m + 1 ∧ m + 1 ≤ cap' ∧ Below w.heap.size w w' := by
  have la : g < w.heap.size := ha.lt
  have HN := Lib.hid hn
  have r1 : Row ((w.alloc (.cells #[.slice (some ⟨g, off, none⟩) (n + 1) cap, .string now, .int .u64 (last : Int)] 47 (0, 0))).alloc (.cells #[.slice none 0 0, .string ⟨#[]⟩, .int .u64 0] 47 (0, 0))) w.heap.size 47 [.slice (some ⟨g, off, none⟩) (n + 1) cap, .string now, .int .u64 (last : Int)] := (Row.new' rfl rfl).alloc _
  have q1 : Row ((w.alloc (.cells #[.slice (some ⟨g, off, none⟩) (n + 1) cap, .string now, .int .u64 (last : Int)] 47 (0, 0))).alloc (.cells #[.slice none 0 0, .string ⟨#[]⟩, .int .u64 0] 47 (0, 0))) (w.heap.size + 1) 47 [.slice none 0 0, .string ⟨#[]⟩, .int .u64 0] := Row.new' rfl (by simp)
  have ha1 := (ha.alloc (.cells #[.slice (some ⟨g, off, none⟩) (n + 1) cap, .string now, .int .u64 (last : Int)] 47 (0, 0))).alloc (.cells #[.slice none 0 0, .string ⟨#[]⟩, .int .u64 0] 47 (0, 0))
  have bb : Below w.heap.size w ((w.alloc (.cells #[.slice (some ⟨g, off, none⟩) (n + 1) cap, .string now, .int .u64 (last : Int)] 47 (0, 0))).alloc (.cells #[.slice none 0 0, .string ⟨#[]⟩, .int .u64 0] 47 (0, 0))) := ((Below.refl _ _).alloc (Nat.le_refl _) _).alloc (by simp) _
  have c8 := r1.cell 0
  simp only [List.getElem?_cons_zero] at c8
  clear ha hn
  go_enter Try.func18, Try.ntmps18
  go_wp2
  generalize (w.alloc (.cells #[.slice (some ⟨g, off, none⟩) (n + 1) cap, .string now, .int .u64 (last : Int)] 47 (0, 0))).alloc (.cells #[.slice none 0 0, .string ⟨#[]⟩, .int .u64 0] 47 (0, 0)) = w1 at *
  go_loopw [10] (fun iv wr => ∃ i : Nat, i ≤ n + 1 ∧ iv = .int .i64 (i : Int) ∧ Row wr w.heap.size 47 [.slice (some ⟨g, off, none⟩) (n + 1) cap, .string now, .int .u64 (last : Int)] ∧ Row wr (w.heap.size + 1) 47 [.slice none 0 0, .string ⟨#[]⟩, .int .u64 0] ∧ S15.StAt wr g off L ∧ Hid (∀ (j : Nat) (q : S15.St), j < i → L[j]? = some q → q.num ≠ k) ∧ Below w.heap.size w wr) (fun iv _ => n + 1 - (intOf iv).toNat)
  case atStart => exact ⟨0, Nat.zero_le _, rfl, r1, q1, ha1, (fun j q hj => absurd hj (by omega)), bb⟩
  case round =>
    clear r1 q1 ha1 bb c8
    obtain ⟨i, hi, rfl, r1, q1, ha, hB, bb⟩ := hrel
    by_cases hlt : i < n + 1
    · have hs : (i : Int) < ((n + 1 : Nat) : Int) := by omega
      obtain ⟨p, hp⟩ : ∃ p, L[i]? = some p := ⟨L[i]'(by rw [HN.out]; exact hlt), List.getElem?_eq_getElem (by rw [HN.out]; exact hlt)⟩
      have hr : wr.rangeAt g (off + i * 3) [.int .u64 (p.num : Int), .int .u64 (p.tick : Int), .string p.tx] := ha.load hp
      have lr := r1.lt
      have lq := q1.lt
      have ra := r1.alloc (.cells #[.int .u64 (p.num : Int), .int .u64 (p.tick : Int), .string p.tx] 61 (0, 0))
      have qa := q1.alloc (.cells #[.int .u64 (p.num : Int), .int .u64 (p.tick : Int), .string p.tx] 61 (0, 0))
      have haa := ha.alloc (.cells #[.int .u64 (p.num : Int), .int .u64 (p.tick : Int), .string p.tx] 61 (0, 0))
      have bba := bb.alloc bb.size (.cells #[.int .u64 (p.num : Int), .int .u64 (p.tick : Int), .string p.tx] 61 (0, 0))
      have r6 : Row (wr.alloc (.cells #[.int .u64 (p.num : Int), .int .u64 (p.tick : Int), .string p.tx] 61 (0, 0))) wr.heap.size 61 [.int .u64 (p.num : Int), .int .u64 (p.tick : Int), .string p.tx] := Row.new' rfl rfl
      have c16 : (wr.alloc (.cells #[.int .u64 (p.num : Int), .int .u64 (p.tick : Int), .string p.tx] 61 (0, 0))).cell? ⟨wr.heap.size, 0, none⟩ = some (.int .u64 (p.num : Int)) := r6.cell 0
      have tk1 : True := True.intro
      by_cases he : p.num = k
      · have e1 : ((p.num : Int) == (k : Int)) = true := by rw [beq_iff_eq]; omega
        have hac := S15.ackL_some (n := k) hp he (fun j q hj hq => hB.out j q hj hq)
        have hfrom := ha.from (i := i) (by rw [HN.out]; omega)
        have c0 := ra.cell 0
        have f0 := ra.frozen 0
        simp only [List.getElem?_cons_zero] at c0
        have rs := r1.set 0 (.slice (some ⟨g, off + i * 3, none⟩) (n + 1 - i) (cap - i))
        simp only [List.set_cons_zero] at rs
        have rc := rs.alloc (.cells #[.int .u64 (p.num : Int), .int .u64 (p.tick : Int), .string p.tx] 61 (0, 0))
        have qc := (q1.other (k := w.heap.size) (i := 0) (by omega) (.slice (some ⟨g, off + i * 3, none⟩) (n + 1 - i) (cap - i))).alloc (.cells #[.int .u64 (p.num : Int), .int .u64 (p.tick : Int), .string p.tx] 61 (0, 0))
        have b2 := bb.setCell (p := ⟨w.heap.size, 0, none⟩) (Nat.le_refl _) (.slice (some ⟨g, off + i * 3, none⟩) (n + 1 - i) (cap - i))
        have b3 := b2.alloc b2.size (.cells #[.int .u64 (p.num : Int), .int .u64 (p.tick : Int), .string p.tx] 61 (0, 0))
        have hs3 := (hfrom.other (k := w.heap.size) (i := 0) (by omega) (.slice (some ⟨g, off + i * 3, none⟩) (n + 1 - i) (cap - i))).alloc (.cells #[.int .u64 (p.num : Int), .int .u64 (p.tick : Int), .string p.tx] 61 (0, 0))
        have hss : i ≤ n + 1 := hi
        have HAC := Lib.hid hac
        clear r1 q1 ha bb hB he ra qa haa bba hfrom hac r6 rs b2
        go_wp2_with (first | (refine at_op (.load 61 (.tmp 13)) (by with_reducible rfl) ?_; clear tk1; refine wpList_load_mid rfl 61 (.tmp 13) rfl g (off + i * 3) rfl _ _ hr Try.underlying61 rfl infoRSt ?_) | refine wpList_load_row rfl 47 (.tmp 2) rfl w.heap.size rfl _ _ _ _ rc Try.underlying47 rfl infoRSn ?_ | refine wpList_store_row rfl 47 (.tmp 4) (.tmp 24) rfl (w.heap.size + 1) _ rfl rfl _ _ qc infoRSn rfl (by simp [Value.oneCell']) ?_)
        try rw [Exit.noGoto_ret]
        exact bodyPost_ret (results_cell_row rfl _ _ (w.heap.size + 1) _ _ _ _ rfl (qc.setRow [.slice (some ⟨g, off + i * 3, none⟩) (n + 1 - i) (cap - i), .string now, .int .u64 (last : Int)]) Try.underlying47 rfl infoRSn) rfl ⟨off + i * 3, n - i, cap - i, by rw [show n - i + 1 = n + 1 - i by omega], by rw [HAC.out]; exact hs3.setRow (by omega) _, by rw [HAC.out, Option.getD_some, List.length_drop, HN.out]; omega, by omega, below_row b3 (by omega) _⟩
      · have e1 : ((p.num : Int) == (k : Int)) = false := by rw [beq_eq_false_iff_ne]; omega
        have hB2 : Hid (∀ (j : Nat) (q : S15.St), j < i + 1 → L[j]? = some q → q.num ≠ k) := fun j q hj hq => by
          by_cases h : j = i
          · subst h; rw [hp] at hq; cases hq; exact he
          · exact hB.out j q (by omega) hq
        clear r1 q1 ha bb hB he r6
        go_wp2_with (first | (refine at_op (.load 61 (.tmp 13)) (by with_reducible rfl) ?_; clear tk1; refine wpList_load_mid rfl 61 (.tmp 13) rfl g (off + i * 3) rfl _ _ hr Try.underlying61 rfl infoRSt ?_))
        go_roundw
        case rel => exact ⟨i + 1, by omega, by go_num, ra, qa, haa, hB2, bba⟩
        case measure => simp [intOf]; omega
    · obtain rfl : i = n + 1 := by omega
      have hac := S15.ackL_none (n := k) (L := L) (fun j q hq => hB.out j q (by have := (List.getElem?_eq_some_iff.1 hq).1; have := HN.out; omega) hq)
      have lr := r1.lt
      have lq := q1.lt
      have HAC := Lib.hid hac
      clear hac hB
      go_wp2_with (first | refine wpList_load_row rfl 47 (.tmp 2) rfl w.heap.size rfl _ _ _ _ r1 Try.underlying47 rfl infoRSn ?_ | refine wpList_store_row rfl 47 (.tmp 4) (.tmp 26) rfl (w.heap.size + 1) _ rfl rfl _ _ q1 infoRSn rfl (by simp [Value.oneCell']) ?_)
      try rw [Exit.noGoto_ret]
      exact bodyPost_ret (results_cell_row rfl _ _ (w.heap.size + 1) _ _ _ _ rfl (q1.setRow [.slice (some ⟨g, off, none⟩) (n + 1) cap, .string now, .int .u64 (last : Int)]) Try.underlying47 rfl infoRSn) rfl ⟨off, n, cap, rfl, by rw [HAC.out]; exact ha.setRow (by omega) _, by rw [HAC.out]; exact HN.out, hcap, below_row bb (by omega) _⟩
end Go.Proofs.Ytngoighdpmeepaa
