/-
  Layer 13: the functions of keys, where End is at most 2^62.
-/
import Derived.Test.YtggkkahifoccfaaRows
import Derived.Test.YtggkkahifoccfaaKPlain
import Derived.Test.YtggkkahifoccfaaShelf
import Derived.Test.YtggkkahifoccfaaTLaws
import Derived.Laws.IdiomStrings
import Derived.Lib.Hide
import Derived.Below
import Derived.Deep.Cut
import Derived.Deep.CutBlock
namespace Go.Proofs.Ytggkkahifoccfaa
open Go.RowKit
set_option linter.unusedVariables false
set_option maxRecDepth 20000

theorem infoKeys : (Try.prog.info? 27).map (·.size) = some 2 := by kernel_rfl

/-- strings.Clone. -/
theorem cloneK (s : ByteArray) (w : World) (hs : s.size ≤ 281474976710656) :
    Calls Try.prog 25 #[.string s] w fun e w' => e = .returned (.string s) ∧ Below w.heap.size w w' := by
  go_enter Try.func25, Try.ntmps25
  go_wp2_with (go_at_call 34; refine (Try.stringslite_Clone s _ hs).mono ?_; rintro e w' ⟨rfl, hb⟩)
  go_ret
  exact ⟨rfl, hb⟩

set_option maxHeartbeats 1000000 in
theorem ends_any (f : Nat) (t : ByteArray) (h : f + t.size ≤ 4611686018427387904) (w : World) :
    Calls Try.prog 20 #[.agg #[.int .u64 (f : Int), .string t]] w fun e w' => e = .returned (.tuple #[.int .u64 (f : Int), .int .u64 ((f + t.size : Nat) : Int)]) ∧ Below w.heap.size w w' := by
  go_enter Try.func20, Try.ntmps20
  go_wp2
  go_region
  go_wp2
  go_ret2
  exact ⟨rfl, ((Below.refl _ _).alloc (Nat.le_refl _) _).drew⟩

set_option maxHeartbeats 4000000 in
theorem with_any (f : Nat) (t s : ByteArray) (h : f + t.size + s.size ≤ 4611686018427387904) (hs : t.size + s.size ≤ 1099511627776) (w : World) :
    Calls Try.prog 26 #[.agg #[.int .u64 (f : Int), .string t], .string s] w fun e w' => e = .returned (.tuple #[.agg #[.int .u64 (f : Int), .string (t ++ s)], .int .i64 0]) ∧ Below w.heap.size w w' := by
  obtain ⟨X, hX⟩ : ∃ X : ByteArray, X = t ++ s := ⟨_, rfl⟩
  have hXs : X.size ≤ 281474976710656 := by rw [hX, ByteArray.size_append]; omega
  have CE : Hid (∀ wx, Calls Try.prog 20 #[.agg #[.int .u64 (f : Int), .string t]] wx fun e w' => e = .returned (.tuple #[.int .u64 (f : Int), .int .u64 ((f + t.size : Nat) : Int)]) ∧ Below wx.heap.size wx w') := fun wx => ends_any f t (by omega) wx
  have CC : Hid (∀ wx, Calls Try.prog 25 #[.string X] wx fun e w' => e = .returned (.string X) ∧ Below wx.heap.size wx w') := fun wx => cloneK X wx hXs
  have HX : Hid (t ++ s = X) := hX.symm
  have r1 : Row ((w.alloc (.cells #[.int .u64 (f : Int), .string t] 27 (0, 0))).alloc (.cells #[.int .u64 0, .string ⟨#[]⟩] 27 (0, 0))) w.heap.size 27 [.int .u64 (f : Int), .string t] := (Row.new' rfl rfl).alloc _
  have q1 : Row ((w.alloc (.cells #[.int .u64 (f : Int), .string t] 27 (0, 0))).alloc (.cells #[.int .u64 0, .string ⟨#[]⟩] 27 (0, 0))) (w.heap.size + 1) 27 [.int .u64 0, .string ⟨#[]⟩] := Row.new' rfl (by simp)
  have b1 : Below w.heap.size w ((w.alloc (.cells #[.int .u64 (f : Int), .string t] 27 (0, 0))).alloc (.cells #[.int .u64 0, .string ⟨#[]⟩] 27 (0, 0))) := ((Below.refl _ _).alloc (Nat.le_refl _) _).alloc (by simp) _
  have g1 : ¬ (18446744073709551615 : Int) - ((f + t.size : Nat) : Int) < (s.size : Int) := by omega
  rw [← hX]
  clear hX hXs
  go_enter Try.func26, Try.ntmps26
  go_wp2_with fail
  generalize (w.alloc (.cells #[.int .u64 (f : Int), .string t] 27 (0, 0))).alloc (.cells #[.int .u64 0, .string ⟨#[]⟩] 27 (0, 0)) = w1 at *
  refine (CE.out _).mono ?_
  rintro e w2 ⟨rfl, b2⟩
  have r2 := r1.below b2 r1.lt
  have q2 : Has w2 (w.heap.size + 1) 27 2 := ⟨_, rfl, q1.below b2 q1.lt⟩
  have bb2 := b1.trans (b2.mono b1.size)
  clear r1 q1 b1 b2
  go_wp2
  refine wp_region_held_drew (S := fun w' => Row w' w.heap.size 27 [.int .u64 (f : Int), .string t] ∧ Has w' (w.heap.size + 1) 27 2 ∧ Below w.heap.size w w') (by kernel_rfl) (⟨r2.drew, q2.drew, bb2.drew⟩) (fun hHeld => ?_)
  refine take_d 0 (some 20) (.pointer (some ⟨w.heap.size, 0, none⟩)) rfl (by kernel_rfl) (by kernel_rfl) (by kernel_rfl) (fun _ _ _ h => h) (fun oi h => by cases h; exact Or.inl ⟨by rfl, fun w' hS' => by go_simp⟩) hHeld ?_
  try simp only [Act.put, List.setIfInBounds_toArray, List.set_cons_zero, List.set_cons_succ]
  refine take_d 1 (some 21) (.int .u64 (f : Int)) rfl (by kernel_rfl) (by kernel_rfl) (by kernel_rfl) (fun _ _ _ h => h) (fun oi h => by cases h; exact Or.inl ⟨by rfl, fun w' hS' => by have c : w'.cell? ⟨w.heap.size, 0, none⟩ = some (.int .u64 (f : Int)) := hS'.1.cell 0; go_simp⟩) hHeld ?_
  try simp only [Act.put, List.setIfInBounds_toArray, List.set_cons_zero, List.set_cons_succ]
  refine take_d 2 (some 22) (.pointer (some ⟨w.heap.size, 1, none⟩)) rfl (by kernel_rfl) (by kernel_rfl) (by kernel_rfl) (fun _ _ _ h => h) (fun oi h => by cases h; exact Or.inl ⟨by rfl, fun w' hS' => by go_simp⟩) hHeld ?_
  try simp only [Act.put, List.setIfInBounds_toArray, List.set_cons_zero, List.set_cons_succ]
  refine take_d 3 (some 23) (.string t) rfl (by kernel_rfl) (by kernel_rfl) (by kernel_rfl) (fun _ _ _ h => h) (fun oi h => by cases h; exact Or.inl ⟨by rfl, fun w' hS' => by have c : w'.cell? ⟨w.heap.size, 1, none⟩ = some (.string t) := hS'.1.cell 1; go_simp⟩) hHeld ?_
  try simp only [Act.put, List.setIfInBounds_toArray, List.set_cons_zero, List.set_cons_succ]
  refine take_d 4 (some 24) (.string s) rfl (by kernel_rfl) (by kernel_rfl) (by kernel_rfl) (fun _ _ _ h => h) (fun oi h => by cases h; exact Or.inl ⟨by rfl, fun w' hS' => by go_simp⟩) hHeld ?_
  try simp only [Act.put, List.setIfInBounds_toArray, List.set_cons_zero, List.set_cons_succ]
  refine take_d 5 (some 25) (.string X) rfl (by kernel_rfl) (by kernel_rfl) (by kernel_rfl) (fun _ _ _ h => h) (fun oi h => by cases h; exact Or.inl ⟨by rfl, fun w' hS' => by have hx := HX.out; have hz9 : t.size + s.size ≤ 9223372036854775807 := (by omega); go_simp⟩) hHeld ?_
  try simp only [Act.put, List.setIfInBounds_toArray, List.set_cons_zero, List.set_cons_succ]
  refine one_d 6 (some 26) rfl (by kernel_rfl) ?_
  intro o ho hd K hK
  cases ho
  go_simp
  refine (CC.out _).mono ?_
  rintro e v1 ⟨rfl, bb⟩
  have hHeld' := hHeld
  clear hHeld
  have hHeld := hHeld'
  clear hHeld'
  refine hK.out _ _ (⟨hHeld.1.below bb hHeld.1.lt, hHeld.2.1.below bb, hHeld.2.2.trans (bb.mono hHeld.2.2.size)⟩) (fun hHeld => ?_)
  clear hK K hd bb
  try simp only [Act.put, List.setIfInBounds_toArray, List.set_cons_zero, List.set_cons_succ]
  refine take_d 7 (some 27) (.agg #[.int .u64 (f : Int), .string X]) rfl (by kernel_rfl) (by kernel_rfl) (by kernel_rfl) (fun _ _ _ h => h) (fun oi h => by cases h; exact Or.inl ⟨by rfl, fun w' hS' => by go_simp⟩) hHeld ?_
  try simp only [Act.put, List.setIfInBounds_toArray, List.set_cons_zero, List.set_cons_succ]
  refine one_d 8 none rfl (by kernel_rfl) ?_
  intro o ho1 hd K hK
  cases ho1
  obtain ⟨lz, hlz, rp⟩ := hHeld.2.1
  refine step_store_row rfl 27 (.tmp 4) (.tmp 27) rfl ((w.heap.size + 1)) [.int .u64 (f : Int), .string X] rfl rfl _ _ rp infoKeys hlz (by simp [Value.oneCell']) ?_
  rw [hd]
  have rp2 := rp.setRow [.int .u64 (f : Int), .string X]
  refine hK.out _ _ ⟨hHeld.1.setRow_other (by omega) _, ⟨_, rfl, rp2⟩, below_row hHeld.2.2 (by omega) _⟩ (fun hHeld => ?_)
  clear hK K hd rp
  try simp only [Act.put]
  refine take_d 9 (some 5) (.int .i64 0) rfl (by kernel_rfl) (by kernel_rfl) (by kernel_rfl) (fun _ _ _ h => h) (fun oi h => by cases h; exact Or.inl ⟨by rfl, fun w' hS' => by go_simp⟩) hHeld ?_
  try simp only [Act.put, List.setIfInBounds_toArray, List.set_cons_zero, List.set_cons_succ]
  refine wpAnyH_done (by kernel_rfl) ?_ _
  try simp only [Act.put]

  generalize v1.setRow (w.heap.size + 1) (List.toArray [.int .u64 (f : Int), .string X]) = w9 at *
  go_wp2
  exact bodyPost_ret (results_row_tmp rfl _ _ (w.heap.size + 1) 27 [.int .u64 (f : Int), .string X] _ rfl rp2 Try.underlying27 rfl infoKeys) rfl ⟨rfl, hHeld.2.2⟩

set_option maxHeartbeats 4000000 in
theorem type_ok (f : Nat) (t s : ByteArray) (h : f + t.size + s.size ≤ 4611686018427387904) (hs : t.size + s.size ≤ 256) (w : World) :
    Calls Try.prog 19 #[.agg #[.int .u64 (f : Int), .string t], .string s] w fun e w' => e = .returned (.tuple #[.agg #[.int .u64 (f : Int), .string (t ++ s)], .int .i64 0]) ∧ Below w.heap.size w w' := by
  obtain ⟨X, hX⟩ : ∃ X : ByteArray, X = t ++ s := ⟨_, rfl⟩
  have CW : Hid (∀ wx, Calls Try.prog 26 #[.agg #[.int .u64 (f : Int), .string t], .string s] wx fun e w' => e = .returned (.tuple #[.agg #[.int .u64 (f : Int), .string X], .int .i64 0]) ∧ Below wx.heap.size wx w') := fun wx => by rw [hX]; exact with_any f t s h (by omega) wx
  have r1 : Row ((w.alloc (.cells #[.int .u64 (f : Int), .string t] 27 (0, 0))).alloc (.cells #[.int .u64 0, .string ⟨#[]⟩] 27 (0, 0))) w.heap.size 27 [.int .u64 (f : Int), .string t] := (Row.new' rfl rfl).alloc _
  have q1 : Row ((w.alloc (.cells #[.int .u64 (f : Int), .string t] 27 (0, 0))).alloc (.cells #[.int .u64 0, .string ⟨#[]⟩] 27 (0, 0))) (w.heap.size + 1) 27 [.int .u64 0, .string ⟨#[]⟩] := Row.new' rfl (by simp)
  have b1 : Below w.heap.size w ((w.alloc (.cells #[.int .u64 (f : Int), .string t] 27 (0, 0))).alloc (.cells #[.int .u64 0, .string ⟨#[]⟩] 27 (0, 0))) := ((Below.refl _ _).alloc (Nat.le_refl _) _).alloc (by simp) _
  have g1 : ¬ (256 : Int) - (t.size : Int) < (s.size : Int) := by omega
  have g2 : (t.size : Int) ≤ 256 := by omega
  rw [← hX]
  clear hX
  go_enter Try.func19, Try.ntmps19
  go_wp2_with fail
  generalize (w.alloc (.cells #[.int .u64 (f : Int), .string t] 27 (0, 0))).alloc (.cells #[.int .u64 0, .string ⟨#[]⟩] 27 (0, 0)) = w1 at *
  refine (CW.out _).mono ?_
  rintro e w2 ⟨rfl, b2⟩
  have q2 := q1.below b2 q1.lt
  have bb2 := b1.trans (b2.mono b1.size)
  clear r1 q1 b1 b2
  go_wp2_with (refine wpList_store_row rfl 27 (.tmp 4) (.tmp 17) rfl (w.heap.size + 1) _ rfl rfl _ _ q2 infoKeys rfl (by simp [Value.oneCell']) ?_)
  exact bodyPost_ret (results_row_tmp rfl _ _ (w.heap.size + 1) 27 [.int .u64 (f : Int), .string X] _ rfl (q2.setRow [.int .u64 (f : Int), .string X]) Try.underlying27 rfl infoKeys) rfl ⟨rfl, below_row bb2 (by omega) _⟩

set_option maxHeartbeats 4000000 in
theorem type_full (f : Nat) (t s : ByteArray) (ht : t.size ≤ 256) (hs : 256 < t.size + s.size) (h4 : s.size ≤ 9223372036854775807 - 512) (w : World) :
    Calls Try.prog 19 #[.agg #[.int .u64 (f : Int), .string t], .string s] w fun e w' => e = .returned (.tuple #[.agg #[.int .u64 (f : Int), .string t], .int .i64 12]) ∧ Below w.heap.size w w' := by
  have r1 : Row ((w.alloc (.cells #[.int .u64 (f : Int), .string t] 27 (0, 0))).alloc (.cells #[.int .u64 0, .string ⟨#[]⟩] 27 (0, 0))) w.heap.size 27 [.int .u64 (f : Int), .string t] := (Row.new' rfl rfl).alloc _
  have q1 : Row ((w.alloc (.cells #[.int .u64 (f : Int), .string t] 27 (0, 0))).alloc (.cells #[.int .u64 0, .string ⟨#[]⟩] 27 (0, 0))) (w.heap.size + 1) 27 [.int .u64 0, .string ⟨#[]⟩] := Row.new' rfl (by simp)
  have b1 : Below w.heap.size w ((w.alloc (.cells #[.int .u64 (f : Int), .string t] 27 (0, 0))).alloc (.cells #[.int .u64 0, .string ⟨#[]⟩] 27 (0, 0))) := ((Below.refl _ _).alloc (Nat.le_refl _) _).alloc (by simp) _
  have g1 : (256 : Int) - (t.size : Int) < (s.size : Int) := by omega
  have g2 : (t.size : Int) ≤ 256 := by omega
  go_enter Try.func19, Try.ntmps19
  go_wp2_with (refine wpList_store_row rfl 27 (.tmp 4) (.tmp 13) rfl (w.heap.size + 1) _ rfl rfl _ _ q1 infoKeys rfl (by simp [Value.oneCell']) ?_)
  exact bodyPost_ret (results_row_tmp rfl _ _ (w.heap.size + 1) 27 [.int .u64 (f : Int), .string t] _ rfl (q1.setRow [.int .u64 (f : Int), .string t]) Try.underlying27 rfl infoKeys) rfl ⟨rfl, below_row b1 (by omega) _⟩

set_option maxHeartbeats 4000000 in
/-- Forget. -/
theorem forget_any (f n : Nat) (t : ByteArray) (h : f + t.size ≤ 4611686018427387904) (ht : t.size ≤ 1099511627776) (w : World) :
    Calls Try.prog 21 #[.agg #[.int .u64 (f : Int), .string t], .int .u64 (n : Int)] w fun e w' => e = .returned (.agg #[.int .u64 ((K13.fgtN f t n : Nat) : Int), .string (K13.fgtT f t n)]) ∧ Below w.heap.size w w' := by
  obtain ⟨m, hm⟩ : ∃ m, m = K13.fgtN f t n := ⟨_, rfl⟩
  obtain ⟨X, hX⟩ : ∃ X : ByteArray, X = K13.fgtT f t n := ⟨_, rfl⟩
  obtain ⟨E, hE⟩ : ∃ E, E = f + t.size := ⟨_, rfl⟩
  have hmf : m = f + min (n - f) t.size := hm
  have hXs : X.size ≤ 281474976710656 := by rw [hX]; unfold K13.fgtT; rw [K13.cut_size]; omega
  have HX : Hid (t.extract (m - f) t.size = X) := by
    show _ = _
    rw [hX, K13.extract_cut t _ _ rfl, show m - f = min (n - f) t.size by omega, K13.cut_min]
    rfl
  have HM : Hid (min (max (n : Int) (f : Int)) (E : Int) = (m : Int)) := by show _ = _; omega
  have CE : Hid (∀ wx, Calls Try.prog 20 #[.agg #[.int .u64 (f : Int), .string t]] wx fun e w' => e = .returned (.tuple #[.int .u64 (f : Int), .int .u64 (E : Int)]) ∧ Below wx.heap.size wx w') := fun wx => by rw [hE]; exact ends_any f t (by omega) wx
  have CC : Hid (∀ wx, Calls Try.prog 25 #[.string X] wx fun e w' => e = .returned (.string X) ∧ Below wx.heap.size wx w') := fun wx => cloneK X wx hXs
  have r1 : Row ((w.alloc (.cells #[.int .u64 (f : Int), .string t] 27 (0, 0))).alloc (.cells #[.int .u64 0, .string ⟨#[]⟩] 27 (0, 0))) w.heap.size 27 [.int .u64 (f : Int), .string t] := (Row.new' rfl rfl).alloc _
  have q1 : Row ((w.alloc (.cells #[.int .u64 (f : Int), .string t] 27 (0, 0))).alloc (.cells #[.int .u64 0, .string ⟨#[]⟩] 27 (0, 0))) (w.heap.size + 1) 27 [.int .u64 0, .string ⟨#[]⟩] := Row.new' rfl (by simp)
  have b1 : Below w.heap.size w ((w.alloc (.cells #[.int .u64 (f : Int), .string t] 27 (0, 0))).alloc (.cells #[.int .u64 0, .string ⟨#[]⟩] 27 (0, 0))) := ((Below.refl _ _).alloc (Nat.le_refl _) _).alloc (by simp) _
  have E1 : E ≤ f + t.size := by omega
  have E2 : f + t.size ≤ E := by omega
  rw [← hX, ← hm]
  clear hX hXs hm hmf hE
  go_enter Try.func21, Try.ntmps21
  go_wp2_with fail
  generalize (w.alloc (.cells #[.int .u64 (f : Int), .string t] 27 (0, 0))).alloc (.cells #[.int .u64 0, .string ⟨#[]⟩] 27 (0, 0)) = w1 at *
  refine (CE.out _).mono ?_
  rintro e w2 ⟨rfl, b2⟩
  have r2 := r1.below b2 r1.lt
  have q2 := q1.below b2 q1.lt
  have bb2 := b1.trans (b2.mono b1.size)
  have c2 := r2.cell 1
  simp only [List.getElem?_cons_zero, List.getElem?_cons_succ] at c2
  clear r1 q1 b1 b2
  go_wp2_with fail
  rw [HM.out, Int.toNat_natCast, HX.out]
  refine (CC.out _).mono ?_
  rintro e w3 ⟨rfl, b3⟩
  have q3 := q2.below b3 q2.lt
  have bb3 := bb2.trans (b3.mono bb2.size)
  clear r2 q2 bb2 b3 c2
  go_wp2_with (refine wpList_store_row rfl 27 (.tmp 4) (.tmp 25) rfl (w.heap.size + 1) _ rfl rfl _ _ q3 infoKeys rfl (by simp [Value.oneCell']) ?_)
  exact bodyPost_ret (results_cell_row rfl _ _ (w.heap.size + 1) _ _ _ _ rfl (q3.setRow [_, .string X]) Try.underlying27 rfl infoKeys) rfl ⟨rfl, below_row bb3 (by omega) _⟩


set_option maxHeartbeats 4000000 in
theorem since_ok (f n : Nat) (t : ByteArray) (h : f + t.size ≤ 4611686018427387904) (ht : t.size ≤ 1099511627776) (h1 : f ≤ n) (h2 : n ≤ f + t.size) (w : World) :
    Calls Try.prog 10 #[.agg #[.int .u64 (f : Int), .string t], .int .u64 (n : Int)] w fun e w' => e = .returned (.tuple #[.string (K13.cut t (n - f)), .int .i64 0]) ∧ Below w.heap.size w w' := by
  obtain ⟨X, hX⟩ : ∃ X : ByteArray, X = K13.cut t (n - f) := ⟨_, rfl⟩
  obtain ⟨E, hE⟩ : ∃ E, E = f + t.size := ⟨_, rfl⟩
  have hXs : X.size ≤ 281474976710656 := by rw [hX, K13.cut_size]; omega
  have HX : Hid (t.extract (n - f) t.size = X) := by show _ = _; rw [hX]; exact K13.extract_cut t _ _ rfl
  have CE : Hid (∀ wx, Calls Try.prog 20 #[.agg #[.int .u64 (f : Int), .string t]] wx fun e w' => e = .returned (.tuple #[.int .u64 (f : Int), .int .u64 (E : Int)]) ∧ Below wx.heap.size wx w') := fun wx => by rw [hE]; exact ends_any f t (by omega) wx
  have CC : Hid (∀ wx, Calls Try.prog 25 #[.string X] wx fun e w' => e = .returned (.string X) ∧ Below wx.heap.size wx w') := fun wx => cloneK X wx hXs
  have r1 : Row (w.alloc (.cells #[.int .u64 (f : Int), .string t] 27 (0, 0))) w.heap.size 27 [.int .u64 (f : Int), .string t] := Row.new' rfl rfl
  have b1 : Below w.heap.size w (w.alloc (.cells #[.int .u64 (f : Int), .string t] 27 (0, 0))) := (Below.refl _ _).alloc (Nat.le_refl _) _
  have e0 : ¬ (n : Int) < (f : Int) := by omega
  have e1 : ¬ (E : Int) < (n : Int) := by omega
  have e2 : ((n : Int) - (f : Int)).toNat = n - f := by omega
  have E1 : E ≤ f + t.size := by omega
  have E2 : f + t.size ≤ E := by omega
  rw [← hX]
  clear hX hXs hE
  go_enter Try.func10, Try.ntmps10
  go_wp2_with fail
  generalize w.alloc (.cells #[.int .u64 (f : Int), .string t] 27 (0, 0)) = w1 at *
  refine (CE.out _).mono ?_
  rintro e w2 ⟨rfl, b2⟩
  have r2 := r1.below b2 r1.lt
  have bb2 := b1.trans (b2.mono b1.size)
  have c2 := r2.cell 1
  simp only [List.getElem?_cons_zero, List.getElem?_cons_succ] at c2
  clear r1 b1 b2
  go_wp2_with fail
  rw [HX.out]
  refine (CC.out _).mono ?_
  rintro e w3 ⟨rfl, b3⟩
  have bb3 := bb2.trans (b3.mono bb2.size)
  clear r2 bb2 b3 c2 e0 e1 e2
  go_wp2
  go_ret2
  exact ⟨rfl, bb3⟩

set_option maxHeartbeats 4000000 in
theorem since_low (f n : Nat) (t : ByteArray) (h : f + t.size ≤ 4611686018427387904) (ht : t.size ≤ 1099511627776) (h1 : n < f) (w : World) :
    Calls Try.prog 10 #[.agg #[.int .u64 (f : Int), .string t], .int .u64 (n : Int)] w fun e w' => e = .returned (.tuple #[.string ⟨#[]⟩, .int .i64 7]) ∧ Below w.heap.size w w' := by
  obtain ⟨E, hE⟩ : ∃ E, E = f + t.size := ⟨_, rfl⟩
  have CE : Hid (∀ wx, Calls Try.prog 20 #[.agg #[.int .u64 (f : Int), .string t]] wx fun e w' => e = .returned (.tuple #[.int .u64 (f : Int), .int .u64 (E : Int)]) ∧ Below wx.heap.size wx w') := fun wx => by rw [hE]; exact ends_any f t (by omega) wx
  have b1 : Below w.heap.size w (w.alloc (.cells #[.int .u64 (f : Int), .string t] 27 (0, 0))) := (Below.refl _ _).alloc (Nat.le_refl _) _
  have e0 : (n : Int) < (f : Int) := by omega
  clear hE
  go_enter Try.func10, Try.ntmps10
  go_wp2_with fail
  generalize w.alloc (.cells #[.int .u64 (f : Int), .string t] 27 (0, 0)) = w1 at *
  refine (CE.out _).mono ?_
  rintro e w2 ⟨rfl, b2⟩
  have bb2 := b1.trans (b2.mono b1.size)
  clear b1 b2
  go_wp2
  go_ret2
  exact ⟨rfl, bb2⟩

set_option maxHeartbeats 4000000 in
theorem since_high (f n : Nat) (t : ByteArray) (h : f + t.size ≤ 4611686018427387904) (ht : t.size ≤ 1099511627776) (h1 : f + t.size < n) (w : World) :
    Calls Try.prog 10 #[.agg #[.int .u64 (f : Int), .string t], .int .u64 (n : Int)] w fun e w' => e = .returned (.tuple #[.string ⟨#[]⟩, .int .i64 7]) ∧ Below w.heap.size w w' := by
  obtain ⟨E, hE⟩ : ∃ E, E = f + t.size := ⟨_, rfl⟩
  have CE : Hid (∀ wx, Calls Try.prog 20 #[.agg #[.int .u64 (f : Int), .string t]] wx fun e w' => e = .returned (.tuple #[.int .u64 (f : Int), .int .u64 (E : Int)]) ∧ Below wx.heap.size wx w') := fun wx => by rw [hE]; exact ends_any f t (by omega) wx
  have b1 : Below w.heap.size w (w.alloc (.cells #[.int .u64 (f : Int), .string t] 27 (0, 0))) := (Below.refl _ _).alloc (Nat.le_refl _) _
  have e0 : ¬ (n : Int) < (f : Int) := by omega
  have e1 : (E : Int) < (n : Int) := by omega
  clear hE
  go_enter Try.func10, Try.ntmps10
  go_wp2_with fail
  generalize w.alloc (.cells #[.int .u64 (f : Int), .string t] 27 (0, 0)) = w1 at *
  refine (CE.out _).mono ?_
  rintro e w2 ⟨rfl, b2⟩
  have bb2 := b1.trans (b2.mono b1.size)
  clear b1 b2
  go_wp2
  go_ret2
  exact ⟨rfl, bb2⟩

/-- Since. -/
theorem since_any (f n : Nat) (t : ByteArray) (h : f + t.size ≤ 4611686018427387904) (ht : t.size ≤ 1099511627776) (w : World) :
    Calls Try.prog 10 #[.agg #[.int .u64 (f : Int), .string t], .int .u64 (n : Int)] w fun e w' => e = .returned (.tuple #[.string (K13.sinceT f t n), .int .i64 (K13.sinceE f t n)]) ∧ Below w.heap.size w w' := by
  by_cases h1 : n < f
  · rw [(K13.since_no (t := t) (.inl h1)).1, (K13.since_no (t := t) (.inl h1)).2]
    exact since_low f n t h ht h1 w
  · by_cases h2 : f + t.size < n
    · rw [(K13.since_no (.inr h2)).1, (K13.since_no (.inr h2)).2]
      exact since_high f n t h ht h2 w
    · rw [(K13.since_yes (t := t) (show f ≤ n by omega) (by omega)).1, (K13.since_yes (t := t) (show f ≤ n by omega) (by omega)).2]
      exact since_ok f n t h ht (by omega) (by omega) w

set_option maxHeartbeats 4000000 in
theorem diff_any (f : Nat) (t : ByteArray) (g : Nat) (u : ByteArray) (h : f + t.size ≤ 4611686018427387904) (h2 : g + u.size ≤ 4611686018427387904) (hu : u.size ≤ 1099511627776) (w : World) :
    Calls Try.prog 12 #[.agg #[.int .u64 (f : Int), .string t], .agg #[.int .u64 (g : Int), .string u]] w fun e w' => e = .returned (.tuple #[.string (K13.sinceT g u (f + t.size)), .int .i64 (K13.sinceE g u (f + t.size))]) ∧ Below w.heap.size w w' := by
  obtain ⟨E, hE⟩ : ∃ E, E = f + t.size := ⟨_, rfl⟩
  have CE : Hid (∀ wx, Calls Try.prog 20 #[.agg #[.int .u64 (f : Int), .string t]] wx fun e w' => e = .returned (.tuple #[.int .u64 (f : Int), .int .u64 (E : Int)]) ∧ Below wx.heap.size wx w') := fun wx => by rw [hE]; exact ends_any f t (by omega) wx
  have CC : Hid (∀ wx, Calls Try.prog 10 #[.agg #[.int .u64 (g : Int), .string u], .int .u64 (E : Int)] wx fun e w' => e = .returned (.tuple #[.string (K13.sinceT g u E), .int .i64 (K13.sinceE g u E)]) ∧ Below wx.heap.size wx w') := fun wx => since_any g E u h2 hu wx
  have r1 : Row ((w.alloc (.cells #[.int .u64 (f : Int), .string t] 27 (0, 0))).alloc (.cells #[.int .u64 (g : Int), .string u] 27 (0, 0))) (w.heap.size + 1) 27 [.int .u64 (g : Int), .string u] := Row.new' rfl (by simp)
  have b1 : Below w.heap.size w ((w.alloc (.cells #[.int .u64 (f : Int), .string t] 27 (0, 0))).alloc (.cells #[.int .u64 (g : Int), .string u] 27 (0, 0))) := ((Below.refl _ _).alloc (Nat.le_refl _) _).alloc (by simp) _
  rw [← hE]
  clear hE
  generalize K13.sinceT g u E = rT at *
  generalize K13.sinceE g u E = rE at *
  go_enter Try.func12, Try.ntmps12
  go_wp2_with fail
  generalize (w.alloc (.cells #[.int .u64 (f : Int), .string t] 27 (0, 0))).alloc (.cells #[.int .u64 (g : Int), .string u] 27 (0, 0)) = w1 at *
  refine (CE.out _).mono ?_
  rintro e w2 ⟨rfl, b2⟩
  have r2 := r1.below b2 r1.lt
  have bb2 := b1.trans (b2.mono b1.size)
  clear r1 b1 b2
  go_wp2_with (first | refine wpList_load_row rfl 27 (.tmp 3) rfl (w.heap.size + 1) rfl _ _ _ _ r2 Try.underlying27 rfl infoKeys ?_)
  refine (CC.out _).mono ?_
  rintro e w3 ⟨rfl, b3⟩
  have bb3 := bb2.trans (b3.mono bb2.size)
  clear r2 bb2 b3
  go_wp2
  go_ret2
  exact ⟨rfl, bb3⟩

set_option maxHeartbeats 4000000 in
theorem do_any (f : Nat) (t s : ByteArray) (h : f + t.size + s.size ≤ 4611686018427387904) (hs : t.size + s.size ≤ 1099511627776) (w : World) :
    Calls Try.prog 16 #[.agg #[.int .u64 (f : Int), .string t], .string s] w fun e w' => e = .returned (.tuple #[.agg #[.int .u64 ((K13.doN f t s : Nat) : Int), .string (K13.doT f t s)], .int .i64 0]) ∧ Below w.heap.size w w' := by
  obtain ⟨X, hX⟩ : ∃ X : ByteArray, X = t ++ s := ⟨_, rfl⟩
  have hXs : X.size = t.size + s.size := by rw [hX, ByteArray.size_append]
  obtain ⟨E, hE⟩ : ∃ E, E = f + X.size := ⟨_, rfl⟩
  have CW : Hid (∀ wx, Calls Try.prog 26 #[.agg #[.int .u64 (f : Int), .string t], .string s] wx fun e w' => e = .returned (.tuple #[.agg #[.int .u64 (f : Int), .string X], .int .i64 0]) ∧ Below wx.heap.size wx w') := fun wx => by rw [hX]; exact with_any f t s h hs wx
  have CE : Hid (∀ wx, Calls Try.prog 20 #[.agg #[.int .u64 (f : Int), .string X]] wx fun e w' => e = .returned (.tuple #[.int .u64 (f : Int), .int .u64 (E : Int)]) ∧ Below wx.heap.size wx w') := fun wx => by rw [hE]; exact ends_any f X (by omega) wx
  have r1 : Row ((w.alloc (.cells #[.int .u64 (f : Int), .string t] 27 (0, 0))).alloc (.cells #[.int .u64 0, .string ⟨#[]⟩] 27 (0, 0))) w.heap.size 27 [.int .u64 (f : Int), .string t] := (Row.new' rfl rfl).alloc _
  have q1 : Row ((w.alloc (.cells #[.int .u64 (f : Int), .string t] 27 (0, 0))).alloc (.cells #[.int .u64 0, .string ⟨#[]⟩] 27 (0, 0))) (w.heap.size + 1) 27 [.int .u64 0, .string ⟨#[]⟩] := Row.new' rfl (by simp)
  have b1 : Below w.heap.size w ((w.alloc (.cells #[.int .u64 (f : Int), .string t] 27 (0, 0))).alloc (.cells #[.int .u64 0, .string ⟨#[]⟩] 27 (0, 0))) := ((Below.refl _ _).alloc (Nat.le_refl _) _).alloc (by simp) _
  by_cases hbig : 256 < X.size
  · have hd := K13.do_long (f := f) (t := t) (s := s) (by rw [← hX]; exact hbig)
    rw [← hX] at hd
    obtain ⟨M, hM⟩ : ∃ M, M = E - 256 := ⟨_, rfl⟩
    have CF : Hid (∀ wx, Calls Try.prog 21 #[.agg #[.int .u64 (f : Int), .string X], .int .u64 (M : Int)] wx fun e w' => e = .returned (.agg #[.int .u64 ((K13.doN f t s : Nat) : Int), .string (K13.doT f t s)]) ∧ Below wx.heap.size wx w') := fun wx => by
      have := forget_any f M X (by omega) (by omega) wx
      rw [hM, hE] at this
      unfold K13.doN K13.doT
      rw [← hX, hM, hE]
      exact this
    generalize K13.doN f t s = rN at *
    generalize K13.doT f t s = rT at *
    have g1 : (256 : Int) < (X.size : Int) := by omega
    have g2 : (E : Int) - 256 = (M : Int) := by omega
    have g3 : 256 ≤ E := by omega
    have g4 : E ≤ 4611686018427387904 := by omega
    clear hX hXs hE hd hM hbig
    go_enter Try.func16, Try.ntmps16
    go_wp2_with fail
    generalize (w.alloc (.cells #[.int .u64 (f : Int), .string t] 27 (0, 0))).alloc (.cells #[.int .u64 0, .string ⟨#[]⟩] 27 (0, 0)) = w1 at *
    refine (CW.out _).mono ?_
    rintro e w2 ⟨rfl, b2⟩
    have q2 := q1.below b2 q1.lt
    have bb2 := b1.trans (b2.mono b1.size)
    clear r1 q1 b1 b2
    go_wp2_with fail
    have p2 : Row (w2.alloc (.cells #[.int .u64 (f : Int), .string X] 27 (0, 0))) w2.heap.size 27 [.int .u64 (f : Int), .string X] := Row.new' rfl rfl
    have q3 := q2.alloc (.cells #[.int .u64 (f : Int), .string X] 27 (0, 0))
    have bb3 := bb2.alloc bb2.size (.cells #[.int .u64 (f : Int), .string X] 27 (0, 0))
    have hpl : w.heap.size + 1 < w2.heap.size := q2.lt
    obtain ⟨P, hP⟩ : ∃ P, P = w2.heap.size := ⟨_, rfl⟩
    rw [← hP] at p2 hpl ⊢
    generalize w2.alloc (.cells #[.int .u64 (f : Int), .string X] 27 (0, 0)) = w3 at *
    clear hP q2 bb2
    refine (CE.out _).mono ?_
    rintro e w4 ⟨rfl, b4⟩
    have p4 := p2.below b4 p2.lt
    have q4 := q3.below b4 q3.lt
    have bb4 := bb3.trans (b4.mono bb3.size)
    have c4 := p4.cell 1
    simp only [List.getElem?_cons_zero, List.getElem?_cons_succ] at c4
    clear p2 q3 bb3 b4
    go_wp2_with (first | refine wpList_load_row rfl 27 (.tmp 6) rfl P rfl _ _ _ _ p4 Try.underlying27 rfl infoKeys ?_)
    refine (CF.out _).mono ?_
    rintro e w5 ⟨rfl, b5⟩
    have q5 := q4.below b5 q4.lt
    have bb5 := bb4.trans (b5.mono bb4.size)
    clear p4 q4 bb4 b5 c4
    go_wp2_with (refine wpList_store_row rfl 27 (.tmp 4) (.tmp 32) rfl (w.heap.size + 1) _ rfl rfl _ _ q5 infoKeys rfl (by simp [Value.oneCell']) ?_)
    exact bodyPost_ret (results_row_tmp rfl _ _ (w.heap.size + 1) 27 [.int .u64 (rN : Int), .string rT] _ rfl (q5.setRow [.int .u64 (rN : Int), .string rT]) Try.underlying27 rfl infoKeys) rfl ⟨rfl, below_row bb5 (by omega) _⟩
  · have hd := K13.do_short (f := f) (t := t) (s := s) (by rw [← hX]; omega)
    rw [← hX] at hd
    rw [hd.1, hd.2]
    have g1 : ¬ (256 : Int) < (X.size : Int) := by omega
    clear hX hXs hE hd hbig
    go_enter Try.func16, Try.ntmps16
    go_wp2_with fail
    generalize (w.alloc (.cells #[.int .u64 (f : Int), .string t] 27 (0, 0))).alloc (.cells #[.int .u64 0, .string ⟨#[]⟩] 27 (0, 0)) = w1 at *
    refine (CW.out _).mono ?_
    rintro e w2 ⟨rfl, b2⟩
    have q2 := q1.below b2 q1.lt
    have bb2 := b1.trans (b2.mono b1.size)
    clear r1 q1 b1 b2
    go_wp2_with fail
    have p2 : Row (w2.alloc (.cells #[.int .u64 (f : Int), .string X] 27 (0, 0))) w2.heap.size 27 [.int .u64 (f : Int), .string X] := Row.new' rfl rfl
    have q3 := q2.alloc (.cells #[.int .u64 (f : Int), .string X] 27 (0, 0))
    have bb3 := bb2.alloc bb2.size (.cells #[.int .u64 (f : Int), .string X] 27 (0, 0))
    have hpl : w.heap.size + 1 < w2.heap.size := q2.lt
    obtain ⟨P, hP⟩ : ∃ P, P = w2.heap.size := ⟨_, rfl⟩
    rw [← hP] at p2 hpl ⊢
    generalize w2.alloc (.cells #[.int .u64 (f : Int), .string X] 27 (0, 0)) = w3 at *
    clear hP q2 bb2
    refine (CE.out _).mono ?_
    rintro e w4 ⟨rfl, b4⟩
    have p4 := p2.below b4 p2.lt
    have q4 := q3.below b4 q3.lt
    have bb4 := bb3.trans (b4.mono bb3.size)
    have c4 := p4.cell 1
    simp only [List.getElem?_cons_zero, List.getElem?_cons_succ] at c4
    clear p2 q3 bb3 b4
    go_wp2_with (first | refine wpList_load_row rfl 27 (.tmp 6) rfl P rfl _ _ _ _ p4 Try.underlying27 rfl infoKeys ?_ | refine wpList_store_row rfl 27 (.tmp 4) (.tmp 33) rfl (w.heap.size + 1) _ rfl rfl _ _ q4 infoKeys rfl (by simp [Value.oneCell']) ?_)
    exact bodyPost_ret (results_row_tmp rfl _ _ (w.heap.size + 1) 27 [.int .u64 (f : Int), .string X] _ rfl (q4.setRow [.int .u64 (f : Int), .string X]) Try.underlying27 rfl infoKeys) rfl ⟨rfl, below_row bb4 (by omega) _⟩

set_option maxHeartbeats 4000000 in
theorem same_any13 (f : Nat) (t : ByteArray) (g : Nat) (u : ByteArray) (h : f + t.size ≤ 4611686018427387904) (ht : t.size ≤ 1099511627776) (h2 : g + u.size ≤ 4611686018427387904) (hu : u.size ≤ 1099511627776) (w : World) :
    Calls Try.prog 14 #[.agg #[.int .u64 (f : Int), .string t], .agg #[.int .u64 (g : Int), .string u]] w fun e w' => e = .returned (.bool (K13.sameB f t g u)) ∧ Below w.heap.size w w' := by
  have CA : Hid (∀ wx, Calls Try.prog 21 #[.agg #[.int .u64 (f : Int), .string t], .int .u64 (g : Int)] wx fun e w' => e = .returned (.agg #[.int .u64 ((K13.fgtN f t g : Nat) : Int), .string (K13.fgtT f t g)]) ∧ Below wx.heap.size wx w') := fun wx => forget_any f g t h ht wx
  have CB : Hid (∀ wx, Calls Try.prog 21 #[.agg #[.int .u64 (g : Int), .string u], .int .u64 (f : Int)] wx fun e w' => e = .returned (.agg #[.int .u64 ((K13.fgtN g u f : Nat) : Int), .string (K13.fgtT g u f)]) ∧ Below wx.heap.size wx w') := fun wx => forget_any g f u h2 hu wx
  have r1 : Row ((w.alloc (.cells #[.int .u64 (f : Int), .string t] 27 (0, 0))).alloc (.cells #[.int .u64 (g : Int), .string u] 27 (0, 0))) w.heap.size 27 [.int .u64 (f : Int), .string t] := (Row.new' rfl rfl).alloc _
  have q1 : Row ((w.alloc (.cells #[.int .u64 (f : Int), .string t] 27 (0, 0))).alloc (.cells #[.int .u64 (g : Int), .string u] 27 (0, 0))) (w.heap.size + 1) 27 [.int .u64 (g : Int), .string u] := Row.new' rfl (by simp)
  have b1 : Below w.heap.size w ((w.alloc (.cells #[.int .u64 (f : Int), .string t] 27 (0, 0))).alloc (.cells #[.int .u64 (g : Int), .string u] 27 (0, 0))) := ((Below.refl _ _).alloc (Nat.le_refl _) _).alloc (by simp) _
  unfold K13.sameB
  generalize K13.fgtN f t g = n1 at *
  generalize K13.fgtN g u f = n2 at *
  generalize K13.fgtT f t g = T1 at *
  generalize K13.fgtT g u f = T2 at *
  by_cases hnn : n1 = n2
  · subst hnn
    by_cases hTT : T1 = T2
    · subst hTT
      rw [decide_eq_true (⟨rfl, rfl⟩ : n1 = n1 ∧ T1 = T1)]
      go_enter Try.func14, Try.ntmps14
      go_wp2
      generalize (w.alloc (.cells #[.int .u64 (f : Int), .string t] 27 (0, 0))).alloc (.cells #[.int .u64 (g : Int), .string u] 27 (0, 0)) = w1 at *
      refine wp_region_held_drew (S := fun w' => Row w' w.heap.size 27 [.int .u64 (f : Int), .string t] ∧ Row w' (w.heap.size + 1) 27 [.int .u64 (g : Int), .string u] ∧ Below w.heap.size w w') (by kernel_rfl) (⟨r1.drew, q1.drew, b1.drew⟩) (fun hHeld => ?_)
      refine take_d 0 (some 5) (.agg #[.int .u64 (f : Int), .string t]) rfl (by kernel_rfl) (by kernel_rfl) (by kernel_rfl) (fun _ _ _ h => h) (fun oi h => by cases h; exact yieldsIf_load_mid (by rfl) 27 (.tmp 2) rfl w.heap.size 0 rfl [.int .u64 (f : Int), .string t] _ (fun w' hS' => hS'.1.range) Try.underlying27 rfl infoKeys) hHeld ?_
      try simp only [Act.put, List.setIfInBounds_toArray, List.set_cons_zero, List.set_cons_succ]
      refine take_d 1 (some 6) (.pointer (some ⟨(w.heap.size + 1), 0, none⟩)) rfl (by kernel_rfl) (by kernel_rfl) (by kernel_rfl) (fun _ _ _ h => h) (fun oi h => by cases h; exact Or.inl ⟨by rfl, fun w' hS' => by go_simp⟩) hHeld ?_
      try simp only [Act.put, List.setIfInBounds_toArray, List.set_cons_zero, List.set_cons_succ]
      refine take_d 2 (some 7) (.int .u64 (g : Int)) rfl (by kernel_rfl) (by kernel_rfl) (by kernel_rfl) (fun _ _ _ h => h) (fun oi h => by cases h; exact Or.inl ⟨by rfl, fun w' hS' => by have c : w'.cell? ⟨(w.heap.size + 1), 0, none⟩ = some (.int .u64 (g : Int)) := hS'.2.1.cell 0; go_simp⟩) hHeld ?_
      try simp only [Act.put, List.setIfInBounds_toArray, List.set_cons_zero, List.set_cons_succ]
      refine take_d 4 (some 9) (.agg #[.int .u64 (g : Int), .string u]) rfl (by kernel_rfl) (by kernel_rfl) (by kernel_rfl) (fun _ _ _ h => h) (fun oi h => by cases h; exact yieldsIf_load_mid (by rfl) 27 (.tmp 3) rfl (w.heap.size + 1) 0 rfl [.int .u64 (g : Int), .string u] _ (fun w' hS' => hS'.2.1.range) Try.underlying27 rfl infoKeys) hHeld ?_
      try simp only [Act.put, List.setIfInBounds_toArray, List.set_cons_zero, List.set_cons_succ]
      refine take_d 5 (some 10) (.pointer (some ⟨w.heap.size, 0, none⟩)) rfl (by kernel_rfl) (by kernel_rfl) (by kernel_rfl) (fun _ _ _ h => h) (fun oi h => by cases h; exact Or.inl ⟨by rfl, fun w' hS' => by go_simp⟩) hHeld ?_
      try simp only [Act.put, List.setIfInBounds_toArray, List.set_cons_zero, List.set_cons_succ]
      refine take_d 6 (some 11) (.int .u64 (f : Int)) rfl (by kernel_rfl) (by kernel_rfl) (by kernel_rfl) (fun _ _ _ h => h) (fun oi h => by cases h; exact Or.inl ⟨by rfl, fun w' hS' => by have c : w'.cell? ⟨w.heap.size, 0, none⟩ = some (.int .u64 (f : Int)) := hS'.1.cell 0; go_simp⟩) hHeld ?_
      try simp only [Act.put, List.setIfInBounds_toArray, List.set_cons_zero, List.set_cons_succ]
      refine one_d 3 (some 8) rfl (by kernel_rfl) ?_
      intro o ho hd K hK
      cases ho
      go_simp
      refine (CA.out _).mono ?_
      rintro e v1 ⟨rfl, bb⟩
      have hHeld' := hHeld
      clear hHeld
      have hHeld := hHeld'
      clear hHeld'
      refine hK.out _ _ (⟨hHeld.1.below bb hHeld.1.lt, hHeld.2.1.below bb hHeld.2.1.lt, hHeld.2.2.trans (bb.mono hHeld.2.2.size)⟩) (fun hHeld => ?_)
      clear hK K hd bb
      try simp only [Act.put, List.setIfInBounds_toArray, List.set_cons_zero, List.set_cons_succ]
      refine one_d 7 (some 12) rfl (by kernel_rfl) ?_
      intro o ho hd K hK
      cases ho
      go_simp
      refine (CB.out _).mono ?_
      rintro e v2 ⟨rfl, bb⟩
      have hHeld' := hHeld
      clear hHeld
      have hHeld := hHeld'
      clear hHeld'
      refine hK.out _ _ (⟨hHeld.1.below bb hHeld.1.lt, hHeld.2.1.below bb hHeld.2.1.lt, hHeld.2.2.trans (bb.mono hHeld.2.2.size)⟩) (fun hHeld => ?_)
      clear hK K hd bb
      try simp only [Act.put, List.setIfInBounds_toArray, List.set_cons_zero, List.set_cons_succ]
      refine take_d 8 (some 13) (.bool true) rfl (by kernel_rfl) (by kernel_rfl) (by kernel_rfl) (fun _ _ _ h => h) (fun oi h => by cases h; exact Or.inl ⟨by rfl, fun w' hS' => by go_simp⟩) hHeld ?_
      try simp only [Act.put, List.setIfInBounds_toArray, List.set_cons_zero, List.set_cons_succ]
      refine take_d 9 (some 4) (.bool true) rfl (by kernel_rfl) (by kernel_rfl) (by kernel_rfl) (fun _ _ _ h => h) (fun oi h => by cases h; exact Or.inl ⟨by rfl, fun w' hS' => by go_simp⟩) hHeld ?_
      try simp only [Act.put, List.setIfInBounds_toArray, List.set_cons_zero, List.set_cons_succ]
      refine wpAnyH_done (by kernel_rfl) ?_ _
      try simp only [Act.put]
      have hb := hHeld.2.2
      go_wp2
      go_ret
      exact ⟨rfl, hb⟩
    · rw [decide_eq_false (fun hh => hTT hh.2)]
      have hn : ¬ T1.toList = T2.toList := fun hh => hTT (ByteArray.ext (by simpa [ByteArray.toList_eq] using hh))
      clear hTT
      go_enter Try.func14, Try.ntmps14
      go_wp2
      generalize (w.alloc (.cells #[.int .u64 (f : Int), .string t] 27 (0, 0))).alloc (.cells #[.int .u64 (g : Int), .string u] 27 (0, 0)) = w1 at *
      refine wp_region_held_drew (S := fun w' => Row w' w.heap.size 27 [.int .u64 (f : Int), .string t] ∧ Row w' (w.heap.size + 1) 27 [.int .u64 (g : Int), .string u] ∧ Below w.heap.size w w') (by kernel_rfl) (⟨r1.drew, q1.drew, b1.drew⟩) (fun hHeld => ?_)
      refine take_d 0 (some 5) (.agg #[.int .u64 (f : Int), .string t]) rfl (by kernel_rfl) (by kernel_rfl) (by kernel_rfl) (fun _ _ _ h => h) (fun oi h => by cases h; exact yieldsIf_load_mid (by rfl) 27 (.tmp 2) rfl w.heap.size 0 rfl [.int .u64 (f : Int), .string t] _ (fun w' hS' => hS'.1.range) Try.underlying27 rfl infoKeys) hHeld ?_
      try simp only [Act.put, List.setIfInBounds_toArray, List.set_cons_zero, List.set_cons_succ]
      refine take_d 1 (some 6) (.pointer (some ⟨(w.heap.size + 1), 0, none⟩)) rfl (by kernel_rfl) (by kernel_rfl) (by kernel_rfl) (fun _ _ _ h => h) (fun oi h => by cases h; exact Or.inl ⟨by rfl, fun w' hS' => by go_simp⟩) hHeld ?_
      try simp only [Act.put, List.setIfInBounds_toArray, List.set_cons_zero, List.set_cons_succ]
      refine take_d 2 (some 7) (.int .u64 (g : Int)) rfl (by kernel_rfl) (by kernel_rfl) (by kernel_rfl) (fun _ _ _ h => h) (fun oi h => by cases h; exact Or.inl ⟨by rfl, fun w' hS' => by have c : w'.cell? ⟨(w.heap.size + 1), 0, none⟩ = some (.int .u64 (g : Int)) := hS'.2.1.cell 0; go_simp⟩) hHeld ?_
      try simp only [Act.put, List.setIfInBounds_toArray, List.set_cons_zero, List.set_cons_succ]
      refine take_d 4 (some 9) (.agg #[.int .u64 (g : Int), .string u]) rfl (by kernel_rfl) (by kernel_rfl) (by kernel_rfl) (fun _ _ _ h => h) (fun oi h => by cases h; exact yieldsIf_load_mid (by rfl) 27 (.tmp 3) rfl (w.heap.size + 1) 0 rfl [.int .u64 (g : Int), .string u] _ (fun w' hS' => hS'.2.1.range) Try.underlying27 rfl infoKeys) hHeld ?_
      try simp only [Act.put, List.setIfInBounds_toArray, List.set_cons_zero, List.set_cons_succ]
      refine take_d 5 (some 10) (.pointer (some ⟨w.heap.size, 0, none⟩)) rfl (by kernel_rfl) (by kernel_rfl) (by kernel_rfl) (fun _ _ _ h => h) (fun oi h => by cases h; exact Or.inl ⟨by rfl, fun w' hS' => by go_simp⟩) hHeld ?_
      try simp only [Act.put, List.setIfInBounds_toArray, List.set_cons_zero, List.set_cons_succ]
      refine take_d 6 (some 11) (.int .u64 (f : Int)) rfl (by kernel_rfl) (by kernel_rfl) (by kernel_rfl) (fun _ _ _ h => h) (fun oi h => by cases h; exact Or.inl ⟨by rfl, fun w' hS' => by have c : w'.cell? ⟨w.heap.size, 0, none⟩ = some (.int .u64 (f : Int)) := hS'.1.cell 0; go_simp⟩) hHeld ?_
      try simp only [Act.put, List.setIfInBounds_toArray, List.set_cons_zero, List.set_cons_succ]
      refine one_d 3 (some 8) rfl (by kernel_rfl) ?_
      intro o ho hd K hK
      cases ho
      go_simp
      refine (CA.out _).mono ?_
      rintro e v1 ⟨rfl, bb⟩
      have hHeld' := hHeld
      clear hHeld
      have hHeld := hHeld'
      clear hHeld'
      refine hK.out _ _ (⟨hHeld.1.below bb hHeld.1.lt, hHeld.2.1.below bb hHeld.2.1.lt, hHeld.2.2.trans (bb.mono hHeld.2.2.size)⟩) (fun hHeld => ?_)
      clear hK K hd bb
      try simp only [Act.put, List.setIfInBounds_toArray, List.set_cons_zero, List.set_cons_succ]
      refine one_d 7 (some 12) rfl (by kernel_rfl) ?_
      intro o ho hd K hK
      cases ho
      go_simp
      refine (CB.out _).mono ?_
      rintro e v2 ⟨rfl, bb⟩
      have hHeld' := hHeld
      clear hHeld
      have hHeld := hHeld'
      clear hHeld'
      refine hK.out _ _ (⟨hHeld.1.below bb hHeld.1.lt, hHeld.2.1.below bb hHeld.2.1.lt, hHeld.2.2.trans (bb.mono hHeld.2.2.size)⟩) (fun hHeld => ?_)
      clear hK K hd bb
      try simp only [Act.put, List.setIfInBounds_toArray, List.set_cons_zero, List.set_cons_succ]
      refine take_d 8 (some 13) (.bool false) rfl (by kernel_rfl) (by kernel_rfl) (by kernel_rfl) (fun _ _ _ h => h) (fun oi h => by cases h; exact Or.inl ⟨by rfl, fun w' hS' => by have h1 := hn; go_simp⟩) hHeld ?_
      try simp only [Act.put, List.setIfInBounds_toArray, List.set_cons_zero, List.set_cons_succ]
      refine take_d 9 (some 4) (.bool false) rfl (by kernel_rfl) (by kernel_rfl) (by kernel_rfl) (fun _ _ _ h => h) (fun oi h => by cases h; exact Or.inl ⟨by rfl, fun w' hS' => by go_simp⟩) hHeld ?_
      try simp only [Act.put, List.setIfInBounds_toArray, List.set_cons_zero, List.set_cons_succ]
      refine wpAnyH_done (by kernel_rfl) ?_ _
      try simp only [Act.put]
      have hb := hHeld.2.2
      go_wp2
      go_ret
      exact ⟨rfl, hb⟩
  · rw [decide_eq_false (fun hh => hnn hh.1)]
    have hn : ((n1 : Int) == (n2 : Int)) = false := by rw [beq_eq_false_iff_ne]; omega
    clear hnn
    go_enter Try.func14, Try.ntmps14
    go_wp2
    generalize (w.alloc (.cells #[.int .u64 (f : Int), .string t] 27 (0, 0))).alloc (.cells #[.int .u64 (g : Int), .string u] 27 (0, 0)) = w1 at *
    refine wp_region_held_drew (S := fun w' => Row w' w.heap.size 27 [.int .u64 (f : Int), .string t] ∧ Row w' (w.heap.size + 1) 27 [.int .u64 (g : Int), .string u] ∧ Below w.heap.size w w') (by kernel_rfl) (⟨r1.drew, q1.drew, b1.drew⟩) (fun hHeld => ?_)
    refine take_d 0 (some 5) (.agg #[.int .u64 (f : Int), .string t]) rfl (by kernel_rfl) (by kernel_rfl) (by kernel_rfl) (fun _ _ _ h => h) (fun oi h => by cases h; exact yieldsIf_load_mid (by rfl) 27 (.tmp 2) rfl w.heap.size 0 rfl [.int .u64 (f : Int), .string t] _ (fun w' hS' => hS'.1.range) Try.underlying27 rfl infoKeys) hHeld ?_
    try simp only [Act.put, List.setIfInBounds_toArray, List.set_cons_zero, List.set_cons_succ]
    refine take_d 1 (some 6) (.pointer (some ⟨(w.heap.size + 1), 0, none⟩)) rfl (by kernel_rfl) (by kernel_rfl) (by kernel_rfl) (fun _ _ _ h => h) (fun oi h => by cases h; exact Or.inl ⟨by rfl, fun w' hS' => by go_simp⟩) hHeld ?_
    try simp only [Act.put, List.setIfInBounds_toArray, List.set_cons_zero, List.set_cons_succ]
    refine take_d 2 (some 7) (.int .u64 (g : Int)) rfl (by kernel_rfl) (by kernel_rfl) (by kernel_rfl) (fun _ _ _ h => h) (fun oi h => by cases h; exact Or.inl ⟨by rfl, fun w' hS' => by have c : w'.cell? ⟨(w.heap.size + 1), 0, none⟩ = some (.int .u64 (g : Int)) := hS'.2.1.cell 0; go_simp⟩) hHeld ?_
    try simp only [Act.put, List.setIfInBounds_toArray, List.set_cons_zero, List.set_cons_succ]
    refine take_d 4 (some 9) (.agg #[.int .u64 (g : Int), .string u]) rfl (by kernel_rfl) (by kernel_rfl) (by kernel_rfl) (fun _ _ _ h => h) (fun oi h => by cases h; exact yieldsIf_load_mid (by rfl) 27 (.tmp 3) rfl (w.heap.size + 1) 0 rfl [.int .u64 (g : Int), .string u] _ (fun w' hS' => hS'.2.1.range) Try.underlying27 rfl infoKeys) hHeld ?_
    try simp only [Act.put, List.setIfInBounds_toArray, List.set_cons_zero, List.set_cons_succ]
    refine take_d 5 (some 10) (.pointer (some ⟨w.heap.size, 0, none⟩)) rfl (by kernel_rfl) (by kernel_rfl) (by kernel_rfl) (fun _ _ _ h => h) (fun oi h => by cases h; exact Or.inl ⟨by rfl, fun w' hS' => by go_simp⟩) hHeld ?_
    try simp only [Act.put, List.setIfInBounds_toArray, List.set_cons_zero, List.set_cons_succ]
    refine take_d 6 (some 11) (.int .u64 (f : Int)) rfl (by kernel_rfl) (by kernel_rfl) (by kernel_rfl) (fun _ _ _ h => h) (fun oi h => by cases h; exact Or.inl ⟨by rfl, fun w' hS' => by have c : w'.cell? ⟨w.heap.size, 0, none⟩ = some (.int .u64 (f : Int)) := hS'.1.cell 0; go_simp⟩) hHeld ?_
    try simp only [Act.put, List.setIfInBounds_toArray, List.set_cons_zero, List.set_cons_succ]
    refine one_d 3 (some 8) rfl (by kernel_rfl) ?_
    intro o ho hd K hK
    cases ho
    go_simp
    refine (CA.out _).mono ?_
    rintro e v1 ⟨rfl, bb⟩
    have hHeld' := hHeld
    clear hHeld
    have hHeld := hHeld'
    clear hHeld'
    refine hK.out _ _ (⟨hHeld.1.below bb hHeld.1.lt, hHeld.2.1.below bb hHeld.2.1.lt, hHeld.2.2.trans (bb.mono hHeld.2.2.size)⟩) (fun hHeld => ?_)
    clear hK K hd bb
    try simp only [Act.put, List.setIfInBounds_toArray, List.set_cons_zero, List.set_cons_succ]
    refine one_d 7 (some 12) rfl (by kernel_rfl) ?_
    intro o ho hd K hK
    cases ho
    go_simp
    refine (CB.out _).mono ?_
    rintro e v2 ⟨rfl, bb⟩
    have hHeld' := hHeld
    clear hHeld
    have hHeld := hHeld'
    clear hHeld'
    refine hK.out _ _ (⟨hHeld.1.below bb hHeld.1.lt, hHeld.2.1.below bb hHeld.2.1.lt, hHeld.2.2.trans (bb.mono hHeld.2.2.size)⟩) (fun hHeld => ?_)
    clear hK K hd bb
    try simp only [Act.put, List.setIfInBounds_toArray, List.set_cons_zero, List.set_cons_succ]
    refine take_d 8 (some 13) (.bool false) rfl (by kernel_rfl) (by kernel_rfl) (by kernel_rfl) (fun _ _ _ h => h) (fun oi h => by cases h; exact Or.inl ⟨by rfl, fun w' hS' => by have h1 := hn; go_simp⟩) hHeld ?_
    try simp only [Act.put, List.setIfInBounds_toArray, List.set_cons_zero, List.set_cons_succ]
    refine take_d 9 (some 4) (.bool false) rfl (by kernel_rfl) (by kernel_rfl) (by kernel_rfl) (fun _ _ _ h => h) (fun oi h => by cases h; exact Or.inl ⟨by rfl, fun w' hS' => by go_simp⟩) hHeld ?_
    try simp only [Act.put, List.setIfInBounds_toArray, List.set_cons_zero, List.set_cons_succ]
    refine wpAnyH_done (by kernel_rfl) ?_ _
    try simp only [Act.put]
    have hb := hHeld.2.2
    go_wp2
    go_ret
    exact ⟨rfl, hb⟩


end Go.Proofs.Ytggkkahifoccfaa
