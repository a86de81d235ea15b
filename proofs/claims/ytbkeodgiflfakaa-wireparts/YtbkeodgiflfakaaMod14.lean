/-
  Several texts in one module: SRoots, SRoot, SKeys.
-/
import Derived.Test.YtbkeodgiflfakaaMod13
import Derived.Test.YtbkeodgiflfakaaMod9
import Derived.Test.YtbkeodgiflfakaaMod5
/-
  Layer 3: roots, bit by bit; the constants.
-/
namespace Go.Proofs.Ytbkeodgiflfakaa
open Go.RowKit
set_option linter.unusedVariables false
set_option maxRecDepth 20000

theorem ret_bool {a b : Bool} (h : a = b) : Ending.returned (.bool a) = .returned (.bool b) := by rw [h]

/-- bits.Mul64, its two words by names. -/
theorem mul_any (x y : Nat) (hx : x < 18446744073709551616) (hy : y < 18446744073709551616) (w : World) :
    Calls Try.prog 51 #[.int .u64 x, .int .u64 y] w fun e w' => ∃ H L : Nat, Hid (x * y = H * 18446744073709551616 + L) ∧ L < 18446744073709551616 ∧ H < 18446744073709551616 ∧ e = .returned (.tuple #[.int .u64 (H : Int), .int .u64 (L : Int)]) ∧ w' = w := by
  refine (Try.bits_Mul64 x y hx hy w).mono ?_
  rintro e w' ⟨rfl, rfl⟩
  refine ⟨_, _, ?_, Nat.mod_lt _ (by decide), Nat.div_lt_of_lt_mul (Nat.mul_lt_mul_of_lt_of_lt hx hy), rfl, rfl⟩
  show x * y = _
  have := Nat.div_add_mod (x * y) 18446744073709551616
  omega

set_option maxHeartbeats 400000 in
theorem squareFits_any (r p : Nat) (hr : r < 68719476736) (hp : p ≤ 1000) (w : World) :
    Calls Try.prog 93 #[.int .u64 r, .int .u64 p] w fun e w' => e = .returned (.bool (S.fitS p r)) ∧ w' = w := by
  obtain ⟨b, hb⟩ : ∃ b, b = S.fitS p r := ⟨_, rfl⟩
  rw [← hb]
  have HB := Lib.hid hb
  clear hb
  go_enter Try.func93, Try.ntmps93
  go_wp2_with fail
  refine (mul_any _ _ (by omega) (by omega) _).mono ?_
  rintro e w' ⟨H, L, HX, hL, hH, rfl, rfl⟩
  have HB' : Hid (b = decide (H * 18446744073709551616 + L ≤ p * 18446744073709551616)) := by
    have := HB.out
    unfold S.fitS at this
    rw [HX.out] at this
    exact this
  clear HB HX
  by_cases c1 : H < p
  · have d1 : Hid (b = true) := by rw [HB'.out]; exact decide_eq_true (by omega)
    go_wp2
    go_ret
    exact ⟨ret_bool d1.out.symm, rfl⟩
  · by_cases c2 : H = p
    · subst c2
      by_cases c3 : L = 0
      · subst c3
        have d1 : Hid (b = true) := by rw [HB'.out]; exact decide_eq_true (by omega)
        go_wp2
        go_ret
        exact ⟨ret_bool d1.out.symm, rfl⟩
      · have d1 : Hid (b = false) := by rw [HB'.out]; exact decide_eq_false (by omega)
        have c4 : ((L : Int) == 0) = false := by rw [beq_eq_false_iff_ne]; omega
        clear c3
        go_wp2
        go_ret
        exact ⟨ret_bool d1.out.symm, rfl⟩
    · have d1 : Hid (b = false) := by rw [HB'.out]; exact decide_eq_false (by omega)
      have c4 : ((H : Int) == (p : Int)) = false := by rw [beq_eq_false_iff_ne]; omega
      clear c2
      go_wp2
      go_ret
      exact ⟨ret_bool d1.out.symm, rfl⟩

theorem high_lt {r H L : Nat} (hr : r < 68719476736) (h : r * r = H * 18446744073709551616 + L) : H < 256 := by
  have e1 : r * r < 68719476736 * 68719476736 := Nat.mul_lt_mul_of_lt_of_lt hr hr
  rw [h] at e1
  omega
theorem carry_lt {r L C X : Nat} (hr : r < 68719476736) (hL : L < 18446744073709551616) (h : L * r = C * 18446744073709551616 + X) : C < 68719476736 := by
  have e1 : L * r < 18446744073709551616 * 68719476736 := Nat.mul_lt_mul_of_lt_of_lt hL hr
  rw [h] at e1
  omega
theorem fitC_of {r p H L C X : Nat} (h1 : r * r = H * 18446744073709551616 + L) (h2 : L * r = C * 18446744073709551616 + X) (hX : X < 18446744073709551616) :
    S.fitC p r = decide (H * r + C < p * 4294967296 ∨ (H * r + C = p * 4294967296 ∧ X = 0)) := by
  have h3 : r * r * r = (H * r + C) * 18446744073709551616 + X := by
    rw [h1, Nat.add_mul, h2, Nat.mul_right_comm]; omega
  unfold S.fitC
  rw [h3, decide_eq_decide]
  generalize H * r + C = Y
  omega
theorem mul_int (H r : Nat) : (H : Int) * r = ((H * r : Nat) : Int) := by simp

set_option maxHeartbeats 1000000 in
theorem cubeFits_any (r p : Nat) (hr : r < 68719476736) (hp : p ≤ 1000) (w : World) :
    Calls Try.prog 94 #[.int .u64 r, .int .u64 p] w fun e w' => e = .returned (.bool (S.fitC p r)) ∧ w' = w := by
  obtain ⟨b, hb⟩ : ∃ b, b = S.fitC p r := ⟨_, rfl⟩
  rw [← hb]
  have HB := Lib.hid hb
  clear hb
  go_enter Try.func94, Try.ntmps94
  go_wp2_with fail
  refine (mul_any _ _ (by omega) (by omega) _).mono ?_
  rintro e w' ⟨H, L, HX, hL, hH, rfl, rfl⟩
  have hH2 := high_lt hr HX.out
  go_wp2_with fail
  refine (mul_any _ _ hL (by omega) _).mono ?_
  rintro e w' ⟨C, X, HY, hX, hC, rfl, rfl⟩
  have hC2 := carry_lt hr hL HY.out
  have HB' : Hid (b = decide (H * r + C < p * 4294967296 ∨ (H * r + C = p * 4294967296 ∧ X = 0))) := HB.out.trans (fitC_of HX.out HY.out hX)
  have m1 : H * r ≤ 256 * 68719476736 := Nat.mul_le_mul (by omega) (by omega)
  have m2 : (0 : Int) ≤ (H : Int) * r := by rw [mul_int]; omega
  have m3 : (H : Int) * r ≤ 17592186044416 := by rw [mul_int]; omega
  obtain ⟨Y, hY⟩ : ∃ Y : Nat, Y = H * r + C := ⟨_, rfl⟩
  obtain ⟨Q, hQ⟩ : ∃ Q : Nat, Q = p * 4294967296 := ⟨_, rfl⟩
  rw [← hY, ← hQ] at HB'
  have yb : (Y : Int) ≤ 18446744073709551615 := by omega
  have qb : (Q : Int) ≤ 18446744073709551615 := by omega
  have eY : (H : Int) * r + C = (Y : Int) := by rw [mul_int]; omega
  have eQ : (p : Int) * 4294967296 = (Q : Int) := by omega
  clear HB HX HY m1 hY hQ
  by_cases c1 : Y < Q
  · have d1 : Hid (b = true) := by rw [HB'.out]; exact decide_eq_true (.inl c1)
    clear HB'
    go_wp2
    go_ret
    exact ⟨ret_bool d1.out.symm, rfl⟩
  · by_cases c2 : Y = Q
    · subst c2
      by_cases c3 : X = 0
      · subst c3
        have d1 : Hid (b = true) := by rw [HB'.out]; exact decide_eq_true (.inr ⟨rfl, rfl⟩)
        clear HB'
        go_wp2
        go_ret
        exact ⟨ret_bool d1.out.symm, rfl⟩
      · have d1 : Hid (b = false) := by rw [HB'.out]; exact decide_eq_false (by rintro (h | ⟨_, h⟩); exact c1 h; exact c3 h)
        have c4 : ((X : Int) == 0) = false := by rw [beq_eq_false_iff_ne]; omega
        clear c3 HB'
        go_wp2
        go_ret
        exact ⟨ret_bool d1.out.symm, rfl⟩
    · have d1 : Hid (b = false) := by rw [HB'.out]; exact decide_eq_false (by rintro (h | ⟨h, _⟩); exact c1 h; exact c2 h)
      have c4 : ((Y : Int) == (Q : Int)) = false := by rw [beq_eq_false_iff_ne]; omega
      clear c2 HB'
      go_wp2
      go_ret
      exact ⟨ret_bool d1.out.symm, rfl⟩

end Go.Proofs.Ytbkeodgiflfakaa

/-
  Layer 3: roots of primes, bit by bit.
-/
namespace Go.Proofs.Ytbkeodgiflfakaa
open Go.RowKit
set_option linter.unusedVariables false
set_option maxRecDepth 20000

theorem or_bit (n r : Nat) (h : r % (2 ^ n * 2) = 0) (hr : r < 18446744073709551616) (hb : 2 ^ n < 18446744073709551616 := by omega) : bits .or .u64 (r : Int) ((2 ^ n : Nat) : Int) = ((r + 2 ^ n : Nat) : Int) := by
  rw [u64_or_nat _ _ hr hb, nat_join (n + 1) r (2 ^ n) (by rw [Nat.pow_succ]; exact h) (Nat.pow_lt_pow_right (by decide) (by omega))]

set_option maxHeartbeats 1000000 in
theorem rootS_any (p : Nat) (hp : p ≤ 1000) (w : World) :
    Calls Try.prog 92 #[.int .u64 p, .func (.func 93) #[] #[]] w fun e w' => e = .returned (.int .u64 (S.rootN (S.fitS p) 36 : Nat)) ∧ w' = w := by
  go_enter Try.func92, Try.ntmps92
  go_wp2
  go_loop [5, 8] (fun rv iv => ∃ j : Nat, j ≤ 36 ∧ iv = .int .i64 j ∧ rv = .int .u64 (S.rootN (S.fitS p) j : Nat)) (fun _ iv => 36 - (intOf iv).toNat)
  case atStart => exact ⟨0, Nat.zero_le _, rfl, rfl⟩
  case round =>
    obtain ⟨j, hj, rfl, rfl⟩ := hrel
    by_cases hlt : j < 36
    · have h1 := S.rootN_lt (S.fitS p) j hj
      have HR : Hid (S.rootN (S.fitS p) (j + 1) = if S.fitS p (S.rootN (S.fitS p) j + 2 ^ (35 - j)) then S.rootN (S.fitS p) j + 2 ^ (35 - j) else S.rootN (S.fitS p) j) := rfl
      obtain ⟨n, hn⟩ : ∃ n, n = 35 - j := ⟨_, rfl⟩
      rw [← hn] at HR
      rw [show 36 - j = n + 1 from by omega, Nat.pow_succ] at h1
      have hB0 : 2 ^ n ≤ 34359738368 := Nat.pow_le_pow_right (n := 2) (by decide) (show n ≤ 35 by omega)
      have hj1 := h1.1
      have hor := or_bit n (S.rootN (S.fitS p) j) hj1 (by omega)
      have hle : S.rootN (S.fitS p) j + 2 ^ n < 68719476736 := by have := Nat.pow_pos (n := n) (show 0 < 2 by decide); omega
      have e1 : (35 : Int) - (j : Int) = (n : Int) := by omega
      have hn1 : n ≤ 35 := by omega
      have wB : IntKind.u64.wrap ((2 : Int) ^ n) = ((2 ^ n : Nat) : Int) := by
        rw [IntKind.wrap_u64, show (2 : Int) ^ n = ((2 ^ n : Nat) : Int) from by simp]; omega
      generalize S.rootN (S.fitS p) j = R at *
      generalize 2 ^ n = B at *
      obtain ⟨X, hX⟩ : ∃ X, X = R + B := ⟨_, rfl⟩
      rw [← hX] at HR hor hle
      clear hn h1 hj1 hX
      cases hf : S.fitS p X with
      | true =>
        have HR' : Hid (S.rootN (S.fitS p) (j + 1) = X) := by rw [HR.out, hf]; rfl
        have HF := Lib.hid hf
        clear HR hf
        go_wp2_with fail
        refine (squareFits_any X p hle hp _).mono ?_
        rintro e w' ⟨rfl, rfl⟩
        rw [HF.out]
        go_wp2
        go_round
        case rel => exact ⟨j + 1, by omega, by go_num, by rw [HR'.out]⟩
        case measure => simp [intOf]; omega
      | false =>
        have HR' : Hid (S.rootN (S.fitS p) (j + 1) = R) := by rw [HR.out, hf]; rfl
        have HF := Lib.hid hf
        clear HR hf
        go_wp2_with fail
        refine (squareFits_any X p hle hp _).mono ?_
        rintro e w' ⟨rfl, rfl⟩
        rw [HF.out]
        go_wp2
        go_round
        case rel => exact ⟨j + 1, by omega, by go_num, by rw [HR'.out]⟩
        case measure => simp [intOf]; omega
    · obtain rfl : j = 36 := by omega
      go_wp2
      go_ret
      exact ⟨rfl, rfl⟩

set_option maxHeartbeats 1000000 in
theorem rootC_any (p : Nat) (hp : p ≤ 1000) (w : World) :
    Calls Try.prog 92 #[.int .u64 p, .func (.func 94) #[] #[]] w fun e w' => e = .returned (.int .u64 (S.rootN (S.fitC p) 36 : Nat)) ∧ w' = w := by
  go_enter Try.func92, Try.ntmps92
  go_wp2
  go_loop [5, 8] (fun rv iv => ∃ j : Nat, j ≤ 36 ∧ iv = .int .i64 j ∧ rv = .int .u64 (S.rootN (S.fitC p) j : Nat)) (fun _ iv => 36 - (intOf iv).toNat)
  case atStart => exact ⟨0, Nat.zero_le _, rfl, rfl⟩
  case round =>
    obtain ⟨j, hj, rfl, rfl⟩ := hrel
    by_cases hlt : j < 36
    · have h1 := S.rootN_lt (S.fitC p) j hj
      have HR : Hid (S.rootN (S.fitC p) (j + 1) = if S.fitC p (S.rootN (S.fitC p) j + 2 ^ (35 - j)) then S.rootN (S.fitC p) j + 2 ^ (35 - j) else S.rootN (S.fitC p) j) := rfl
      obtain ⟨n, hn⟩ : ∃ n, n = 35 - j := ⟨_, rfl⟩
      rw [← hn] at HR
      rw [show 36 - j = n + 1 from by omega, Nat.pow_succ] at h1
      have hB0 : 2 ^ n ≤ 34359738368 := Nat.pow_le_pow_right (n := 2) (by decide) (show n ≤ 35 by omega)
      have hj1 := h1.1
      have hor := or_bit n (S.rootN (S.fitC p) j) hj1 (by omega)
      have hle : S.rootN (S.fitC p) j + 2 ^ n < 68719476736 := by have := Nat.pow_pos (n := n) (show 0 < 2 by decide); omega
      have e1 : (35 : Int) - (j : Int) = (n : Int) := by omega
      have hn1 : n ≤ 35 := by omega
      have wB : IntKind.u64.wrap ((2 : Int) ^ n) = ((2 ^ n : Nat) : Int) := by
        rw [IntKind.wrap_u64, show (2 : Int) ^ n = ((2 ^ n : Nat) : Int) from by simp]; omega
      generalize S.rootN (S.fitC p) j = R at *
      generalize 2 ^ n = B at *
      obtain ⟨X, hX⟩ : ∃ X, X = R + B := ⟨_, rfl⟩
      rw [← hX] at HR hor hle
      clear hn h1 hj1 hX
      cases hf : S.fitC p X with
      | true =>
        have HR' : Hid (S.rootN (S.fitC p) (j + 1) = X) := by rw [HR.out, hf]; rfl
        have HF := Lib.hid hf
        clear HR hf
        go_wp2_with fail
        refine (cubeFits_any X p hle hp _).mono ?_
        rintro e w' ⟨rfl, rfl⟩
        rw [HF.out]
        go_wp2
        go_round
        case rel => exact ⟨j + 1, by omega, by go_num, by rw [HR'.out]⟩
        case measure => simp [intOf]; omega
      | false =>
        have HR' : Hid (S.rootN (S.fitC p) (j + 1) = R) := by rw [HR.out, hf]; rfl
        have HF := Lib.hid hf
        clear HR hf
        go_wp2_with fail
        refine (cubeFits_any X p hle hp _).mono ?_
        rintro e w' ⟨rfl, rfl⟩
        rw [HF.out]
        go_wp2
        go_round
        case rel => exact ⟨j + 1, by omega, by go_num, by rw [HR'.out]⟩
        case measure => simp [intOf]; omega
    · obtain rfl : j = 36 := by omega
      go_wp2
      go_ret
      exact ⟨rfl, rfl⟩

end Go.Proofs.Ytbkeodgiflfakaa

/-
  Layer 3: the constants.
-/
namespace Go.Proofs.Ytbkeodgiflfakaa
open Go.RowKit
set_option linter.unusedVariables false
set_option maxRecDepth 20000

/-- What lies in the row behind k of them. -/
def fillRow (l : List Nat) (f : Nat → Nat) (n k : Nat) : List Nat := (l.map f).take k ++ List.replicate (n - k) 0
theorem fillRow_length (l : List Nat) (f : Nat → Nat) (n k : Nat) (hl : l.length = n) (hk : k ≤ n) : (fillRow l f n k).length = n := by simp [fillRow, hl]; omega
theorem fillRow_full (l : List Nat) (f : Nat → Nat) (n : Nat) (hl : l.length = n) : fillRow l f n n = l.map f := by
  simp [fillRow]; rw [List.take_of_length_le (by simp [hl])]
theorem fillRow_step (l : List Nat) (f : Nat → Nat) (n k : Nat) (hl : l.length = n) (hk : k < n) : (fillRow l f n k).set k (f (l.getD k 0)) = fillRow l f n (k + 1) := by
  unfold fillRow
  have h1 : ((l.map f).take k).length = k := by simp [hl]; omega
  rw [List.set_append_right _ _ (by omega), h1, Nat.sub_self, show n - k = n - (k + 1) + 1 from by omega, List.replicate_succ, List.set_cons_zero, List.take_succ_eq_append_getElem (by simp [hl]; exact hk), List.append_assoc]
  simp [hl, hk]

set_option maxHeartbeats 1000000 in
theorem Keys_any (w : World) :
    Calls Try.prog 79 #[] w fun e w' => e = .returned (.agg (u32s S.keys).toArray) ∧ Below w.heap.size w w' := by
  have hl : (S.prs 310).length = 64 := by rw [S.primes64]; rfl
  have HK := Lib.hid S.keys_is
  have HL := Lib.hid hl
  clear hl
  go_enter Try.func79, Try.ntmps79
  go_wp2_with fail
  refine (primes_any 64 310 (by decide) (by decide) HL.out (fun k hk => S.before64 ⟨k, hk⟩) _).mono ?_
  rintro e w1 ⟨rfl, ho, hb1⟩
  have r1 : Row w1 (w.heap.size + 1) 123 (u32s (fillRow (S.prs 310) (fun p => S.rootN (S.fitC p) 36 % 4294967296) 64 0)) := (Row.new' rfl (by simp)).below hb1 (by simp)
  have r0 : Row w1 w.heap.size 123 (u32s (List.replicate 64 0)) := ((Row.new' rfl rfl).alloc _).below hb1 (by simp; omega)
  have hz := (ho.lt _ rfl).2
  simp only [World.size_alloc] at ho hz
  have hb2 : Below w.heap.size w w1 := (((Below.refl _ _).alloc (Nat.le_refl _) _).alloc (by simp) _).trans (hb1.mono (by simp; omega))
  clear hb1
  have hmem : Hid (∀ j, j < 64 → (S.prs 310).getD j 0 ≤ 1000) := fun j hj => by
    have := S.prs_mem 310 ((S.prs 310).getD j 0) (by
      rw [List.getD_eq_getElem?_getD, List.getElem?_eq_getElem (by rw [HL.out]; exact hj)]
      exact List.getElem_mem _)
    omega
  go_wp2
  go_loopw [6] (fun iv wr => ∃ k : Nat, k ≤ 64 ∧ iv = .int .i64 k ∧ Row wr w.heap.size 123 (u32s (List.replicate 64 0)) ∧ Row wr (w.heap.size + 1) 123 (u32s (fillRow (S.prs 310) (fun p => S.rootN (S.fitC p) 36 % 4294967296) 64 k)) ∧
      wr.ownsRow (w.heap.size + 1 + 1) 22 1 (.slice (some ⟨w.heap.size + 1 + 1, 0, none⟩) 64 64) 64 (u64s (S.prs 310)) ∧ Below w.heap.size w wr) (fun iv _ => 64 - (intOf iv).toNat)
  case atStart => exact ⟨0, Nat.zero_le _, rfl, r0, r1, ho, hb2⟩
  case round =>
    clear r0 r1 ho hb2 hz
    obtain ⟨k, hk, rfl, r0, r1, ho, hb⟩ := hrel
    by_cases hlt : k < 64
    · have ck := (ho.cellAt k (by omega)).trans (u64s_at (by rw [HL.out]; exact hlt))
      have hp := hmem.out k hlt
      have cc := (r1.cell k).trans (u32s_at (by rw [fillRow_length _ _ _ _ HL.out hk]; exact hlt))
      have ff := r1.frozen k
      have bk : (k : Int) < 64 := by omega
      have r1' := r1.set k (.int .u32 ((S.rootN (S.fitC ((S.prs 310).getD k 0)) 36 % 4294967296 : Nat) : Int))
      rw [u32s_set, fillRow_step (S.prs 310) (fun p => S.rootN (S.fitC p) 36 % 4294967296) 64 k HL.out hlt] at r1'
      have hR := S.rootN_lt (S.fitC ((S.prs 310).getD k 0)) 36 (by decide)
      have ho' := ho.kept (w' := wr.setCell ⟨w.heap.size + 1, k, none⟩ (.int .u32 ((S.rootN (S.fitC ((S.prs 310).getD k 0)) 36 % 4294967296 : Nat) : Int))) (row := some (w.heap.size + 1)) ⟨rfl, rfl, rfl, by simp [World.setCell], fun i _ hi => heap_setCell_other _ _ _ _ (fun e => hi (by simp [e]))⟩ (by right; simp [Value.ownBlock])
      generalize (S.prs 310).getD k 0 = p at *
      generalize (fillRow (S.prs 310) (fun p => S.rootN (S.fitC p) 36 % 4294967296) 64 k).getD k 0 = x at cc
      go_wp2_with fail
      refine (rootC_any p hp _).mono ?_
      rintro e w2 ⟨rfl, rfl⟩
      generalize S.rootN (S.fitC p) 36 = R at *
      have hR2 : R < 68719476736 := by have := hR.2; simp at this; omega
      clear hR
      go_wp2
      go_roundw
      case rel =>
        have e : (R : Int) % 4294967296 = ((R % 4294967296 : Nat) : Int) := by omega
        rw [e]
        exact ⟨k + 1, by omega, by go_num, r0.other (by omega) _, r1', ho', hb.setCell (by simp) _⟩
      case measure => simp [intOf]; omega
    · obtain rfl : k = 64 := by omega
      rw [fillRow_full _ _ _ HL.out, HK.out] at r1
      have hi : (Try.prog.info? 123).map (·.size) = some (u32s S.keys).toArray.size := by kernel_rfl
      go_wp2_with (first | refine wpList_load_row rfl 123 _ rfl (w.heap.size + 1) rfl _ _ _ _ r1 Try.underlying123 rfl hi ?_ | refine wpList_store_row rfl 123 (.tmp 0) (.tmp 17) rfl w.heap.size _ rfl rfl _ _ r0 hi (by rfl) (u32s_one _) ?_)
      exact bodyPost_ret (results_cell_row rfl _ _ w.heap.size _ _ _ _ rfl (r0.setRow (u32s S.keys)) Try.underlying123 rfl hi) rfl ⟨rfl, below_row hb (Nat.le_refl _) _⟩

set_option maxHeartbeats 1000000 in
theorem Start_any (w : World) :
    Calls Try.prog 78 #[] w fun e w' => e = .returned (.agg (u32s S.start).toArray) ∧ Below w.heap.size w w' := by
  have hl : (S.prs 18).length = 8 := by rw [S.primes8]; rfl
  have HK := Lib.hid S.start_is
  have HL := Lib.hid hl
  clear hl
  go_enter Try.func78, Try.ntmps78
  go_wp2_with fail
  refine (primes_any 8 18 (by decide) (by decide) HL.out (fun k hk => S.before8 ⟨k, hk⟩) _).mono ?_
  rintro e w1 ⟨rfl, ho, hb1⟩
  have r1 : Row w1 (w.heap.size + 1) 121 (u32s (fillRow (S.prs 18) (fun p => S.rootN (S.fitS p) 36 % 4294967296) 8 0)) := (Row.new' rfl (by simp)).below hb1 (by simp)
  have r0 : Row w1 w.heap.size 121 (u32s (List.replicate 8 0)) := ((Row.new' rfl rfl).alloc _).below hb1 (by simp; omega)
  have hz := (ho.lt _ rfl).2
  simp only [World.size_alloc] at ho hz
  have hb2 : Below w.heap.size w w1 := (((Below.refl _ _).alloc (Nat.le_refl _) _).alloc (by simp) _).trans (hb1.mono (by simp; omega))
  clear hb1
  have hmem : Hid (∀ j, j < 8 → (S.prs 18).getD j 0 ≤ 1000) := fun j hj => by
    have := S.prs_mem 18 ((S.prs 18).getD j 0) (by
      rw [List.getD_eq_getElem?_getD, List.getElem?_eq_getElem (by rw [HL.out]; exact hj)]
      exact List.getElem_mem _)
    omega
  go_wp2
  go_loopw [6] (fun iv wr => ∃ k : Nat, k ≤ 8 ∧ iv = .int .i64 k ∧ Row wr w.heap.size 121 (u32s (List.replicate 8 0)) ∧ Row wr (w.heap.size + 1) 121 (u32s (fillRow (S.prs 18) (fun p => S.rootN (S.fitS p) 36 % 4294967296) 8 k)) ∧
      wr.ownsRow (w.heap.size + 1 + 1) 22 1 (.slice (some ⟨w.heap.size + 1 + 1, 0, none⟩) 8 8) 8 (u64s (S.prs 18)) ∧ Below w.heap.size w wr) (fun iv _ => 8 - (intOf iv).toNat)
  case atStart => exact ⟨0, Nat.zero_le _, rfl, r0, r1, ho, hb2⟩
  case round =>
    clear r0 r1 ho hb2 hz
    obtain ⟨k, hk, rfl, r0, r1, ho, hb⟩ := hrel
    by_cases hlt : k < 8
    · have ck := (ho.cellAt k (by omega)).trans (u64s_at (by rw [HL.out]; exact hlt))
      have hp := hmem.out k hlt
      have cc := (r1.cell k).trans (u32s_at (by rw [fillRow_length _ _ _ _ HL.out hk]; exact hlt))
      have ff := r1.frozen k
      have bk : (k : Int) < 8 := by omega
      have r1' := r1.set k (.int .u32 ((S.rootN (S.fitS ((S.prs 18).getD k 0)) 36 % 4294967296 : Nat) : Int))
      rw [u32s_set, fillRow_step (S.prs 18) (fun p => S.rootN (S.fitS p) 36 % 4294967296) 8 k HL.out hlt] at r1'
      have hR := S.rootN_lt (S.fitS ((S.prs 18).getD k 0)) 36 (by decide)
      have ho' := ho.kept (w' := wr.setCell ⟨w.heap.size + 1, k, none⟩ (.int .u32 ((S.rootN (S.fitS ((S.prs 18).getD k 0)) 36 % 4294967296 : Nat) : Int))) (row := some (w.heap.size + 1)) ⟨rfl, rfl, rfl, by simp [World.setCell], fun i _ hi => heap_setCell_other _ _ _ _ (fun e => hi (by simp [e]))⟩ (by right; simp [Value.ownBlock])
      generalize (S.prs 18).getD k 0 = p at *
      generalize (fillRow (S.prs 18) (fun p => S.rootN (S.fitS p) 36 % 4294967296) 8 k).getD k 0 = x at cc
      go_wp2_with fail
      refine (rootS_any p hp _).mono ?_
      rintro e w2 ⟨rfl, rfl⟩
      generalize S.rootN (S.fitS p) 36 = R at *
      have hR2 : R < 68719476736 := by have := hR.2; simp at this; omega
      clear hR
      go_wp2
      go_roundw
      case rel =>
        have e : (R : Int) % 4294967296 = ((R % 4294967296 : Nat) : Int) := by omega
        rw [e]
        exact ⟨k + 1, by omega, by go_num, r0.other (by omega) _, r1', ho', hb.setCell (by simp) _⟩
      case measure => simp [intOf]; omega
    · obtain rfl : k = 8 := by omega
      rw [fillRow_full _ _ _ HL.out, HK.out] at r1
      have hi : (Try.prog.info? 121).map (·.size) = some (u32s S.start).toArray.size := by kernel_rfl
      go_wp2_with (first | refine wpList_load_row rfl 121 _ rfl (w.heap.size + 1) rfl _ _ _ _ r1 Try.underlying121 rfl hi ?_ | refine wpList_store_row rfl 121 (.tmp 0) (.tmp 17) rfl w.heap.size _ rfl rfl _ _ r0 hi (by rfl) (u32s_one _) ?_)
      exact bodyPost_ret (results_cell_row rfl _ _ w.heap.size _ _ _ _ rfl (r0.setRow (u32s S.start)) Try.underlying121 rfl hi) rfl ⟨rfl, below_row hb (Nat.le_refl _) _⟩

end Go.Proofs.Ytbkeodgiflfakaa
