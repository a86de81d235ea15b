/-
  Several texts in one module: SPrimes.
-/
import Derived.Test.YtbkeodgiflfakaaMod1
import Derived.Test.YtbkeodgiflfakaaMod4
import Derived.Test.YtbkeodgiflfakaaMod2
import Derived.Deep.LoopGhost
/-
  Layer 3: the first primes.
-/
namespace Go.Proofs.Ytbkeodgiflfakaa
open Go.RowKit
set_option linter.unusedVariables false
set_option maxRecDepth 20000

theorem info64 : (Try.prog.info? 22).map (fun i => (i.zero, i.size, i.bytes)) = some (some (.int .u64 0), 1, 8) := by kernel_rfl

/-- Numbers as cells. -/
def u64s (l : List Nat) : List Value := l.map fun (x : Nat) => Value.int .u64 (x : Int)
theorem u64s_at {l : List Nat} {i : Nat} (h : i < l.length) : (u64s l)[i]? = some (Value.int .u64 ((l.getD i 0 : Nat) : Int)) := by simp [u64s, h]
theorem u64s_snoc (l : List Nat) (x : Nat) : u64s (l ++ [x]) = u64s l ++ [Value.int .u64 (x : Int)] := by simp [u64s]

theorem drop_cons {l : List Nat} {j : Nat} (h : j < l.length) : l.drop j = l.getD j 0 :: l.drop (j + 1) := by
  rw [List.drop_eq_getElem_cons h]; simp [h]

set_option maxHeartbeats 2000000 in
theorem primes_any (n K : Nat) (hn : n ≤ 64) (hK : K ≤ 400) (hend : (S.prs K).length = n) (hbef : ∀ k, k < K → (S.prs k).length < n) (w : World) :
    Calls Try.prog 91 #[.int .i64 n] w fun e w' => e = .returned (.slice (some ⟨w.heap.size, 0, none⟩) n n) ∧
      w'.ownsRow w.heap.size 22 1 (.slice (some ⟨w.heap.size, 0, none⟩) n n) n (u64s (S.prs K)) ∧ Below w.heap.size w w' := by
  obtain ⟨i0, hi, hz0, hz1, hz2⟩ := info_parts info64
  have HE := Lib.hid hend
  have HB : Hid (∀ k, k < K → (S.prs k).length < n) := hbef
  clear hend hbef
  go_enter Try.func91, Try.ntmps91
  go_wp2
  go_step3
  go_wp2_with (at_make; refine wpList_make_own _ rfl _ _ 134 rfl w.heap.size 22 i0 (.int .u64 0) 1 Try.underlying134 hi hz0 hz1 _ _ _ n rfl rfl (by go_num) (by rw [hz2]; omega) (by unfold maxLen; omega) (Nat.le_refl _) ?_)
  intro w1 hown hgrow
  have hb1 : Below w.heap.size w w1 := (Below.refl _ _).grown hgrow (Nat.le_refl _) (by simp)
  clear hgrow hz0
  go_wp2
  go_step3
  go_wp2
  go_loopg [3, 4] K (fun g fv cv wx => ∃ k : Nat, k + g = K ∧ fv = .slice (some ⟨w.heap.size, 0, none⟩) (S.prs k).length n ∧ cv = .int .u64 ((k + 2 : Nat) : Int) ∧
      wx.ownsRow w.heap.size 22 1 (.slice (some ⟨w.heap.size, 0, none⟩) (S.prs k).length n) (S.prs k).length (u64s (S.prs k)) ∧ w.heap.size < wx.heap.size ∧ Below w.heap.size w wx)
  case atStart => exact ⟨0, by omega, rfl, rfl, hown, (hown.lt _ rfl).2, hb1⟩
  case round =>
    clear hown hb1
    obtain ⟨k, hk, rfl, rfl, ho, hsz, hb⟩ := hrel
    by_cases hlt : k < K
    · have hln := HB.out k hlt
      have hp : Hid (∀ j, j < (S.prs k).length → 2 ≤ (S.prs k).getD j 0 ∧ (S.prs k).getD j 0 ≤ k + 1) := fun j hj => by
        refine S.prs_mem k _ ?_
        rw [List.getD_eq_getElem?_getD, List.getElem?_eq_getElem hj]
        exact List.getElem_mem hj
      obtain ⟨l, hl⟩ : ∃ l, l = S.prs k := ⟨_, rfl⟩
      rw [← hl] at ho hp hln ⊢
      have hstep : Hid (S.prs (k + 1) = if S.sieve l (k + 2) then l ++ [k + 2] else l) := by rw [hl]; rfl
      have HL := Lib.hid hl
      clear hl
      obtain ⟨c, hc⟩ : ∃ c, c = k + 2 := ⟨_, rfl⟩
      rw [← hc] at hstep ⊢
      have hc4 : c ≤ 402 := by omega
      have HC := Lib.hid hc
      clear hc
      go_wp2
      obtain ⟨wo, rfl⟩ : ∃ wo : World, wo = wr := ⟨_, rfl⟩
      go_loopg [17] l.length (fun g2 jv wy => ∃ j : Nat, j + g2 = l.length ∧ jv = .int .i64 j ∧ Hid (S.sieve l c = S.sieve (l.drop j) c) ∧ wy = wo)
      case atStart => exact ⟨0, by omega, rfl, rfl, rfl⟩
      case round =>
        obtain ⟨j, hj, rfl, HJ, rfl⟩ := hrel
        by_cases hjl : j < l.length
        · have cj := (ho.cellAt j (by omega)).trans (u64s_at hjl)
          obtain ⟨p2, p3⟩ := hp.out j hjl
          have HJ' : Hid (S.sieve l c = S.sieve (l.getD j 0 :: l.drop (j + 1)) c) := by rw [← drop_cons hjl]; exact HJ.out
          clear HJ
          generalize l.getD j 0 = p at cj p2 p3 HJ'
          have hpp : p * p ≤ 401 * 401 := Nat.mul_le_mul (by omega) (by omega)
          have hp0 : (0 : Int) ≤ (p : Int) * p := by rw [show (p : Int) * p = ((p * p : Nat) : Int) from by simp]; omega
          have hp1 : (p : Int) * p ≤ 160801 := by rw [show (p : Int) * p = ((p * p : Nat) : Int) from by simp]; omega
          have hne : ¬ (p : Int) = 0 := by omega
          by_cases t1 : c < p * p
          · have HT : Hid (S.prs (k + 1) = l ++ [c]) := by
              have : S.sieve l c = true := by rw [HJ'.out]; unfold S.sieve; rw [if_pos t1]
              rw [hstep.out, this]; rfl
            have u1 : (c : Int) < (p : Int) * p := by rw [show (p : Int) * p = ((p * p : Nat) : Int) from by simp]; omega
            clear HJ' t1 hpp
            go_wp2_with (at_builtin; refine wpList_append_fits _ rfl _ _ 134 rfl w.heap.size 22 i0 1 Try.underlying134 hi hz1 w.heap.size l.length n (u64s l) rfl (ho.alloc _) ⟨wr.heap.size, 0, none⟩ 1 1 [.int .u64 (c : Int)] rfl rfl (by intro j u hj; match j, hj with | 0, hj => simp at hj; subst hj; simp [Addr.add]) (by intro u hu; simp at hu; subst hu; rfl) (by omega) ?_)
            intro w3 ho3 hgrow
            rw [← u64s_snoc] at ho3
            have hb3 : Below w.heap.size w w3 := (hb.alloc (by omega) _).grown hgrow (by simp; omega) (by simp)
            have hlt3 := (ho3.lt _ rfl).2
            clear hgrow hb ho
            go_wp2
            go_roundg (K - (k + 1))
            case measure => omega
            case rel => exact ⟨k + 1, by omega, by rw [HT.out]; simp, by rw [HC.out]; go_num, by rw [HT.out, List.length_append]; exact ho3, hlt3, hb3⟩
          · by_cases t2 : c % p = 0
            · have HT : Hid (S.prs (k + 1) = l) := by
                have : S.sieve l c = false := by rw [HJ'.out]; unfold S.sieve; rw [if_neg t1, if_pos t2]
                rw [hstep.out, this]; rfl
              have u1 : ¬ (c : Int) < (p : Int) * p := by rw [show (p : Int) * p = ((p * p : Nat) : Int) from by simp]; omega
              have u2 : ((c : Int) % (p : Int) == 0) = true := by rw [beq_iff_eq]; omega
              clear HJ' t1 t2 hpp
              go_wp2
              go_roundg (K - (k + 1))
              case measure => omega
              case rel => exact ⟨k + 1, by omega, by rw [HT.out], by rw [HC.out]; go_num, by rw [HT.out]; exact ho, hsz, hb⟩
            · have HT : Hid (S.sieve l c = S.sieve (l.drop (j + 1)) c) := by
                rw [HJ'.out]
                show S.sieve (p :: l.drop (j + 1)) c = _
                rw [S.sieve, if_neg t1, if_neg t2]
              have u1 : ¬ (c : Int) < (p : Int) * p := by rw [show (p : Int) * p = ((p * p : Nat) : Int) from by simp]; omega
              have u2 : ((c : Int) % (p : Int) == 0) = false := by rw [beq_eq_false_iff_ne]; intro h; exact t2 (by omega)
              clear HJ' t1 t2 hpp
              go_wp2
              go_roundg (l.length - (j + 1))
              case measure => omega
              case rel => exact ⟨j + 1, by omega, by go_num, HT, rfl⟩
        · have HT : Hid (S.prs (k + 1) = l ++ [c]) := by
            have : S.sieve l c = true := by rw [HJ.out, List.drop_eq_nil_of_le (by omega)]; rfl
            rw [hstep.out, this]; rfl
          clear HJ
          go_wp2_with (at_builtin; refine wpList_append_fits _ rfl _ _ 134 rfl w.heap.size 22 i0 1 Try.underlying134 hi hz1 w.heap.size l.length n (u64s l) rfl (ho.alloc _) ⟨wr.heap.size, 0, none⟩ 1 1 [.int .u64 (c : Int)] rfl rfl (by intro j u hj; match j, hj with | 0, hj => simp at hj; subst hj; simp [Addr.add]) (by intro u hu; simp at hu; subst hu; rfl) (by omega) ?_)
          intro w3 ho3 hgrow
          rw [← u64s_snoc] at ho3
          have hb3 : Below w.heap.size w w3 := (hb.alloc (by omega) _).grown hgrow (by simp; omega) (by simp)
          have hlt3 := (ho3.lt _ rfl).2
          clear hgrow hb ho
          go_wp2
          go_roundg (K - (k + 1))
          case measure => omega
          case rel => exact ⟨k + 1, by omega, by rw [HT.out]; simp, by rw [HC.out]; go_num, by rw [HT.out, List.length_append]; exact ho3, hlt3, hb3⟩
    · obtain rfl : k = K := by omega
      have e := HE.out
      have hd : ¬ ((S.prs k).length : Int) < (n : Int) := by omega
      go_wp2
      try rw [Exit.noGoto_ret]
      go_ret
      rw [e] at ho
      exact ⟨rfl, ho, hb⟩

end Go.Proofs.Ytbkeodgiflfakaa
