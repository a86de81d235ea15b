/-
  Layer 2: what real.Of comes to.
-/
import Derived.Test.YtajpgjbdemadgaaDoorRBytes
namespace Go.Proofs.YtajpgjbdemadgaaDoor
open Go.RowKit
set_option linter.unusedVariables false
set_option linter.unusedSimpArgs false

theorem get8 (s : ByteArray) (h : s.size = 8) (w : World) :
    Calls Tryd.prog 37 #[.string s] w fun e w' => e = .returned (.tuple #[.int .u64 (W.getN s.data.toList : Nat), .int .i64 0]) ∧ w' = w := by
  have hl : s.data.toList.length = 8 := by simpa using h
  have := get_any s w
  unfold getV getE at this
  rw [if_neg (by omega), if_neg (by omega), if_neg (by omega), if_neg (by omega)] at this
  exact this

theorem nanF (w : World) : Calls Tryd.prog 21 #[] w fun e w' => e = .returned (.float .f64 9221120237041090561) ∧ w' = w := by
  go_enter Tryd.func21, Tryd.ntmps21
  go_wp2
  go_ret
  exact ⟨rfl, rfl⟩

theorem of_other (s : ByteArray) (h : s.size ≠ 8) (w : World) :
    Calls Tryd.prog 15 #[.string s] w fun e w' => e = .returned (.tuple #[.float .f64 0, .int .i64 4]) ∧ w' = w := by
  have h' : ((s.size : Int) != 8) = true := by simp; omega
  clear h
  go_enter Tryd.func15, Tryd.ntmps15
  go_wp2_with fail
  go_ret2
  exact ⟨rfl, rfl⟩

theorem of_zero (s : ByteArray) (h : s.size = 8) (hn : W.getN s.data.toList = 0) (w : World) :
    Calls Tryd.prog 15 #[.string s] w fun e w' => e = .returned (.tuple #[.float .f64 9221120237041090561, .int .i64 0]) ∧ w' = w := by
  have G := Lib.hid (get8 s h)
  rw [hn] at G
  have N := Lib.hid nanF
  clear hn
  have h' : ((s.size : Int) != 8) = false := by simp; omega
  clear h
  go_enter Tryd.func15, Tryd.ntmps15
  go_wp2_with fail
  refine (G.out _).mono ?_
  rintro e w' ⟨rfl, rfl⟩
  go_wp2_with fail
  refine (N.out _).mono ?_
  rintro e w' ⟨rfl, rfl⟩
  go_wp2_with fail
  go_ret2
  exact ⟨rfl, rfl⟩

theorem of_num (s : ByteArray) (h : s.size = 8) (n : Nat) (hn : W.getN s.data.toList = n) (h0 : 0 < n) (hlt : n < 18446744073709551616) (w : World) :
    Calls Tryd.prog 15 #[.string s] w fun e w' => e = .returned (.tuple #[.float .f64 (if R.nan (R.tn n) = true then 0 else R.tn n), .int .i64 (if R.nan (R.tn n) = true then 4 else 0)]) ∧ w' = w := by
  have G := Lib.hid (get8 s h)
  rw [hn] at G
  have T := Lib.hid (turned_any n hlt)
  have h' : ((s.size : Int) != 8) = false := by simp; omega
  have h0' : ((n : Int) == 0) = false := by simp; omega
  clear hn h h0
  generalize R.tn n = t at *
  have I := Lib.hid (isNaN_any t)
  cases hb : R.nan t with
  | true =>
    rw [hb] at I
    rw [if_pos rfl, if_pos rfl]
    go_enter Tryd.func15, Tryd.ntmps15
    go_wp2_with fail
    refine (G.out _).mono ?_
    rintro e w' ⟨rfl, rfl⟩
    go_wp2_with fail
    refine (T.out _).mono ?_
    rintro e w' ⟨rfl, rfl⟩
    go_wp2_with fail
    refine (I.out _).mono ?_
    rintro e w' ⟨rfl, rfl⟩
    go_wp2_with fail
    go_ret2
    exact ⟨rfl, rfl⟩
  | false =>
    rw [hb] at I
    rw [if_neg (by decide), if_neg (by decide)]
    go_enter Tryd.func15, Tryd.ntmps15
    go_wp2_with fail
    refine (G.out _).mono ?_
    rintro e w' ⟨rfl, rfl⟩
    go_wp2_with fail
    refine (T.out _).mono ?_
    rintro e w' ⟨rfl, rfl⟩
    go_wp2_with fail
    refine (I.out _).mono ?_
    rintro e w' ⟨rfl, rfl⟩
    go_wp2_with fail
    go_ret2
    exact ⟨rfl, rfl⟩

/-- The bytes of a number, read back. -/
theorem of_bytes (a : Nat) (ha : a < 18446744073709551616) (w : World) :
    Calls Tryd.prog 15 #[.string ⟨(W.putL (R.nb a) 8).toArray⟩] w fun e w' => e = .returned (.tuple #[.float .f64 (if R.nan a = true then 9221120237041090561 else a), .int .i64 0]) ∧ w' = w := by
  have hs : (⟨(W.putL (R.nb a) 8).toArray⟩ : ByteArray).size = 8 := by
    show (W.putL (R.nb a) 8).toArray.size = 8
    simp [W.putL_length]
  have hg : W.getN (⟨(W.putL (R.nb a) 8).toArray⟩ : ByteArray).data.toList = R.nb a := R.get_put8 _ (R.nb_lt a ha)
  cases hn : R.nan a with
  | true =>
    rw [if_pos rfl]
    exact of_zero _ hs (by rw [hg, R.nb_nan hn]) w
  | false =>
    rw [if_neg (by decide)]
    have := of_num _ hs (R.nb a) hg (R.nb_pos ha hn) (R.nb_lt a ha) w
    rw [R.tn_nb ha hn, hn, if_neg (by decide), if_neg (by decide)] at this
    exact this

end Go.Proofs.YtajpgjbdemadgaaDoor
