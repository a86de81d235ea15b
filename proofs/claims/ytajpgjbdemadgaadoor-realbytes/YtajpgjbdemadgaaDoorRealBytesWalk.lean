/-
  P2.1, P2.4: RealBytes answers true, at every input.
-/
import Derived.Test.YtajpgjbdemadgaaDoorROf
namespace Go.Proofs.YtajpgjbdemadgaaDoor.RealBytesW
open Go.RowKit
set_option linter.unusedVariables false
set_option linter.unusedSimpArgs false

/-- What is asked of the last text's number. -/
def Tail (s : ByteArray) (y : Nat) (f : Int) : Prop :=
  (f = 0 ∧ (W.putL (R.nb y) 8) = s.data.toList ∧ y < 18446744073709551616) ∨ (f = 4 ∧ y = 0 ∧ s.size ≠ 8) ∨
  (f = 4 ∧ y = 0 ∧ s.size = 8 ∧ ∃ n : Nat, W.getN s.data.toList = n ∧ 0 < n ∧ n < 18446744073709551616 ∧ R.nan (R.tn n) = true)

set_option maxHeartbeats 2000000 in
set_option maxRecDepth 10000 in
theorem core (a b : Nat) (s : ByteArray) (p q : ByteArray) (xa y : Nat) (f c : Int) (w : World)
    (A : Hid (Calls Tryd.prog 8 #[] w fun e w' => e = .returned (.bool true) ∧ Below w.heap.size w w'))
    (BA : Hid (∀ v, Calls Tryd.prog 14 #[.float .f64 a] v fun e w' => e = .returned (.string p) ∧ Below v.heap.size v w'))
    (BB : Hid (∀ v, Calls Tryd.prog 14 #[.float .f64 b] v fun e w' => e = .returned (.string q) ∧ Below v.heap.size v w'))
    (RB : Hid (∀ v, Calls Tryd.prog 16 #[.float .f64 a] v fun e w' => e = .returned (.string p) ∧ Below v.heap.size v w'))
    (OA : Hid (∀ v, Calls Tryd.prog 15 #[.string p] v fun e w' => e = .returned (.tuple #[.float .f64 xa, .int .i64 0]) ∧ w' = v))
    (OS : Hid (∀ v, Calls Tryd.prog 15 #[.string s] v fun e w' => e = .returned (.tuple #[.float .f64 y, .int .i64 f]) ∧ w' = v))
    (S : Hid (∀ v, Calls Tryd.prog 13 #[.float .f64 xa, .float .f64 a] v fun e' w' => e' = .returned (.bool true) ∧ w' = v))
    (SC : Hid (∀ v, Calls Tryd.prog 17 #[.string p, .string q] v fun e' w' => e' = .returned (.int .i64 c) ∧ w' = v))
    (C : Hid (∀ v, Calls Tryd.prog 9 #[.float .f64 a, .float .f64 b] v fun e' w' => e' = .returned (.int .i64 c) ∧ w' = v))
    (h : Tail s y f) (hs : s.size ≤ 20) :
    Calls Tryd.prog 4 #[.float .f64 a, .float .f64 b, .string s] w fun e w' => e = .returned (.bool true) ∧ Below w.heap.size w w' := by
  have hs' : ¬ (20 : Int) < (s.size : Int) := by omega
  have H := Lib.hid h
  clear h hs
  go_enter Tryd.func4, Tryd.ntmps4
  go_wp2_with fail
  refine A.out.mono ?_
  rintro e w1 ⟨rfl, hb⟩
  go_wp2_with fail
  refine (BA.out _).mono ?_
  rintro e w2 ⟨rfl, hb2⟩
  replace hb2 := hb.trans (hb2.mono hb.size)
  clear hb
  go_wp2_with fail
  refine (BB.out _).mono ?_
  rintro e w3 ⟨rfl, hb3⟩
  replace hb3 := hb2.trans (hb3.mono hb2.size)
  clear hb2
  go_wp2_with fail
  refine (OA.out _).mono ?_
  rintro e w' ⟨rfl, rfl⟩
  go_wp2_with fail
  refine (OS.out _).mono ?_
  rintro e w' ⟨rfl, rfl⟩
  go_wp2_with fail
  refine (RB.out _).mono ?_
  rintro e w4 ⟨rfl, hb4⟩
  replace hb4 := hb3.trans (hb4.mono hb3.size)
  clear hb3
  go_wp2_with fail
  refine (S.out _).mono ?_
  rintro e w' ⟨rfl, rfl⟩
  go_wp2_with fail
  refine (SC.out _).mono ?_
  rintro e w' ⟨rfl, rfl⟩
  go_wp2_with fail
  refine (C.out _).mono ?_
  rintro e w' ⟨rfl, rfl⟩
  rcases H.out with ⟨rfl, hp, hy⟩ | ⟨rfl, rfl, h8⟩ | ⟨rfl, rfl, h8, n, hn, h0, hlt, hnan⟩
  · have BY := Lib.hid (bytes_any y hy)
    rw [hp, show (⟨s.data.toList.toArray⟩ : ByteArray) = s from rfl] at BY
    clear hp hy
    go_wp2_with fail
    refine (BY.out _).mono ?_
    rintro e w5 ⟨rfl, hb5⟩
    replace hb5 := hb4.trans (hb5.mono hb4.size)
    clear hb4
    go_wp2_with fail
    go_ret
    exact ⟨rfl, hb5⟩
  · have h8' : ((s.size : Int) == 8) = false := by simp; omega
    have o : FloatKind.f64.format.order 0 0 = some .eq := by kernel_rfl
    clear h8
    go_wp2_with fail
    go_ret
    exact ⟨rfl, hb4⟩
  · have G := Lib.hid (refGet_any s (by omega))
    rw [hn] at G
    have o : FloatKind.f64.format.order 0 0 = some .eq := by kernel_rfl
    have h8' : ((s.size : Int) == 8) = true := by simp; omega
    have h0' : (0 : Int) < (n : Int) := by omega
    clear hn h8 h0
    have I := Lib.hid (isNaN_any (R.tn n))
    rw [hnan] at I
    clear hnan
    by_cases ht : 9223372036854775808 ≤ n
    · have b2 : bits .andNot .u64 (n : Int) 9223372036854775808 = ((R.tn n : Nat) : Int) := by
        rw [R.andNot_high n ht hlt]; unfold R.tn; rw [if_pos ht]
      have ht' : (9223372036854775808 : Int) ≤ (n : Int) := by omega
      generalize R.tn n = t at *
      go_wp2_with fail
      refine (G.out _).mono ?_
      rintro e w' ⟨rfl, rfl⟩
      go_wp2_with fail
      refine (I.out _).mono ?_
      rintro e w' ⟨rfl, rfl⟩
      go_wp2_with fail
      go_ret
      exact ⟨rfl, hb4⟩
    · have b2 : bits .xor .u64 IntKind.u64.max (n : Int) = ((R.tn n : Nat) : Int) := by
        have := R.xor_all n hlt
        unfold R.tn; rw [if_neg ht]; exact this
      have ht2 : (n : Int) < 9223372036854775808 := by omega
      clear ht hlt
      generalize R.tn n = t at *
      generalize (n : Int) = z at *
      have ht3 : ¬ (9223372036854775808 : Int) ≤ z := by omega
      go_wp2_with fail
      refine (G.out _).mono ?_
      rintro e w' ⟨rfl, rfl⟩
      go_wp2_with fail
      refine (I.out _).mono ?_
      rintro e w' ⟨rfl, rfl⟩
      go_wp2_with fail
      go_ret
      exact ⟨rfl, hb4⟩

theorem long (a b : Nat) (s : ByteArray) (w : World) (hs : 20 < s.size)
    (A : Hid (Calls Tryd.prog 8 #[] w fun e w' => e = .returned (.bool true) ∧ Below w.heap.size w w')) :
    Calls Tryd.prog 4 #[.float .f64 a, .float .f64 b, .string s] w fun e w' => e = .returned (.bool true) ∧ Below w.heap.size w w' := by
  have hs' : (20 : Int) < (s.size : Int) := by omega
  go_enter Tryd.func4, Tryd.ntmps4
  go_wp2_with fail
  refine A.out.mono ?_
  rintro e w1 ⟨rfl, hb⟩
  go_wp2_with fail
  go_ret
  exact ⟨rfl, hb⟩

theorem walk (a0 a1 : Nat) (a2 : ByteArray) (w : World) (htab : Tab w ∧ Pow10T w) (w0 : (Lit.float .f64 a0).wf = true) (w1 : (Lit.float .f64 a1).wf = true) (w2 : a2.size ≤ maxLen) :
    Calls Tryd.prog 4 #[.float .f64 a0, .float .f64 a1, .string a2] w fun e w' => e = .returned (.bool true) ∧ Below w.heap.size w w' := by
  have h0 : a0 < 18446744073709551616 := by simpa [Lit.wf] using w0
  have h1 : a1 < 18446744073709551616 := by simpa [Lit.wf] using w1
  have A := awake2_any w htab.1 htab.2
  by_cases hs : 20 < a2.size
  · exact long a0 a1 a2 w hs A
  have hxa : (if R.nan a0 = true then 9221120237041090561 else a0) < 18446744073709551616 := by split <;> omega
  have S := fun v => same_any (if R.nan a0 = true then 9221120237041090561 else a0) a0 hxa h0 v
  have hr : R.rank (if R.nan a0 = true then 9221120237041090561 else a0) = R.rank a0 := by
    split
    · next h => rw [R.rank_nan h]; decide +kernel
    · rfl
  rw [hr, R.cmpI_self] at S
  have C := fun v => cmp_any a0 a1 h0 h1 v
  rw [← R.cmp_nb a0 a1 h0 h1, ← R.cmp_putL _ _ (R.nb_lt a0 h0) (R.nb_lt a1 h1)] at C
  have hgl : W.getN a2.data.toList < 256 ^ a2.data.toList.length := W.getN_lt _
  have hlen : a2.data.toList.length = a2.size := by simp
  have key : ∃ y f, (∀ v, Calls Tryd.prog 15 #[.string a2] v fun e w' => e = .returned (.tuple #[.float .f64 y, .int .i64 f]) ∧ w' = v) ∧ Tail a2 y f := by
    by_cases h8 : a2.size = 8
    · have hp := R.put_get a2.data.toList
      rw [hlen, h8] at hp hgl
      by_cases hz : W.getN a2.data.toList = 0
      · refine ⟨_, _, fun v => of_zero a2 h8 hz v, .inl ⟨rfl, ?_, by decide⟩⟩
        rw [← hp, hz]; congr 1
      · have ho := fun v => of_num a2 h8 _ rfl (Nat.pos_of_ne_zero hz) (by simpa using hgl) v
        cases ht : R.nan (R.tn (W.getN a2.data.toList)) with
        | true =>
          rw [ht, if_pos rfl, if_pos rfl] at ho
          exact ⟨_, _, ho, .inr (.inr ⟨rfl, rfl, h8, _, rfl, Nat.pos_of_ne_zero hz, by simpa using hgl, ht⟩)⟩
        | false =>
          rw [ht, if_neg (by decide), if_neg (by decide)] at ho
          refine ⟨_, _, ho, .inl ⟨rfl, ?_, R.tn_lt _ (by simpa using hgl)⟩⟩
          rw [R.nb_tn (by simpa using hgl) ht, hp]
    · exact ⟨_, _, fun v => of_other a2 h8 v, .inr (.inl ⟨rfl, rfl, h8⟩)⟩
  obtain ⟨y, f, hof, htail⟩ := key
  exact core a0 a1 a2 _ _ _ y f _ w A (fun v => bytes_any a0 h0 v) (fun v => bytes_any a1 h1 v) (fun v => refBytes_any a0 h0 v) (fun v => of_bytes a0 h0 v) hof S (fun v => strCompare_any _ _ v) C htail (by omega)

end Go.Proofs.YtajpgjbdemadgaaDoor.RealBytesW
