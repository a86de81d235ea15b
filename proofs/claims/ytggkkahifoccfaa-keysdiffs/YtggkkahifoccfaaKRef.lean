/-
  Layer 13: the document's keys: End, Great, Type, Forget, Since, Do, Same.
-/
import Derived.Test.YtggkkahifoccfaaKCalls
namespace Go.Proofs.Ytggkkahifoccfaa
open Go.RowKit
set_option linter.unusedVariables false
set_option maxRecDepth 20000

theorem infoRK : (Try.prog.info? 29).map (·.size) = some 2 := by kernel_rfl

set_option maxHeartbeats 1000000 in
theorem refEnd_any (f : Nat) (t : ByteArray) (h : f + t.size ≤ 4611686018427387904) (w : World) :
    Calls Try.prog 13 #[.agg #[.int .u64 (f : Int), .string t]] w fun e w' => e = .returned (.int .u64 ((f + t.size : Nat) : Int)) ∧ Below w.heap.size w w' := by
  go_enter Try.func13, Try.ntmps13
  go_wp2
  go_ret
  exact ⟨rfl, (Below.refl _ _).alloc (Nat.le_refl _) _⟩

set_option maxHeartbeats 2000000 in
theorem refGreat_any (f n : Nat) (t : ByteArray) (h : f + t.size + n ≤ 4611686018427387904) (w : World) :
    Calls Try.prog 27 #[.agg #[.int .u64 (f : Int), .string t], .int .i64 (n : Int)] w fun e w' => e = .returned (.bool false) ∧ Below w.heap.size w w' := by
  obtain ⟨E, hE⟩ : ∃ E, E = f + t.size := ⟨_, rfl⟩
  have CE : Hid (∀ wx, Calls Try.prog 13 #[.agg #[.int .u64 (f : Int), .string t]] wx fun e w' => e = .returned (.int .u64 (E : Int)) ∧ Below wx.heap.size wx w') := fun wx => by rw [hE]; exact refEnd_any f t (by omega) wx
  have r1 : Row (w.alloc (.cells #[.int .u64 (f : Int), .string t] 29 (0, 0))) w.heap.size 29 [.int .u64 (f : Int), .string t] := Row.new' rfl rfl
  have b1 : Below w.heap.size w (w.alloc (.cells #[.int .u64 (f : Int), .string t] 29 (0, 0))) := (Below.refl _ _).alloc (Nat.le_refl _) _
  have e1 : E + n ≤ 4611686018427387904 := by omega
  have x1 : IntKind.u64.wrap (n : Int) = (n : Int) := by rw [IntKind.wrap_u64]; omega
  have x2 : IntKind.u64.wrap ((E : Int) + (n : Int)) = (E : Int) + (n : Int) := by rw [IntKind.wrap_u64]; omega
  have x3 : (E : Int) ≤ (E : Int) + (n : Int) := by omega
  clear hE h
  go_enter Try.func27, Try.ntmps27
  go_wp2
  generalize w.alloc (.cells #[.int .u64 (f : Int), .string t] 29 (0, 0)) = w1 at *
  refine wp_region_held_drew (S := fun w' => Row w' w.heap.size 29 [.int .u64 (f : Int), .string t] ∧ Below w.heap.size w w') (by kernel_rfl) (⟨r1.drew, b1.drew⟩) (fun hHeld => ?_)
  refine take_d 0 (some 5) (.agg #[.int .u64 (f : Int), .string t]) rfl (by kernel_rfl) (by kernel_rfl) (by kernel_rfl) (fun _ _ _ h => h) (fun oi h => by cases h; exact yieldsIf_load_mid (by rfl) 29 (.tmp 2) rfl w.heap.size 0 rfl [.int .u64 (f : Int), .string t] _ (fun w' hS' => hS'.1.range) Try.underlying29 rfl infoRK) hHeld ?_
  try simp only [Act.put, List.setIfInBounds_toArray, List.set_cons_zero, List.set_cons_succ]
  refine take_d 2 (some 7) (.int .i64 (n : Int)) rfl (by kernel_rfl) (by kernel_rfl) (by kernel_rfl) (fun _ _ _ h => h) (fun oi h => by cases h; exact Or.inl ⟨by rfl, fun w' hS' => by go_simp⟩) hHeld ?_
  try simp only [Act.put, List.setIfInBounds_toArray, List.set_cons_zero, List.set_cons_succ]
  refine take_d 3 (some 8) (.int .u64 (n : Int)) rfl (by kernel_rfl) (by kernel_rfl) (by kernel_rfl) (fun _ _ _ h => h) (fun oi h => by cases h; exact Or.inl ⟨by rfl, fun w' hS' => by go_simp⟩) hHeld ?_
  try simp only [Act.put, List.setIfInBounds_toArray, List.set_cons_zero, List.set_cons_succ]
  refine take_d 5 (some 10) (.agg #[.int .u64 (f : Int), .string t]) rfl (by kernel_rfl) (by kernel_rfl) (by kernel_rfl) (fun _ _ _ h => h) (fun oi h => by cases h; exact yieldsIf_load_mid (by rfl) 29 (.tmp 2) rfl w.heap.size 0 rfl [.int .u64 (f : Int), .string t] _ (fun w' hS' => hS'.1.range) Try.underlying29 rfl infoRK) hHeld ?_
  try simp only [Act.put, List.setIfInBounds_toArray, List.set_cons_zero, List.set_cons_succ]
  refine one_d 1 (some 6) rfl (by kernel_rfl) ?_
  intro o ho hd K hK
  cases ho
  go_simp
  refine (CE.out _).mono ?_
  rintro e v1 ⟨rfl, bb⟩
  have hHeld' := hHeld
  clear hHeld
  have hHeld := hHeld'
  clear hHeld'
  refine hK.out _ _ (⟨hHeld.1.below bb hHeld.1.lt, hHeld.2.trans (bb.mono hHeld.2.size)⟩) (fun hHeld => ?_)
  clear hK K hd bb
  try simp only [Act.put, List.setIfInBounds_toArray, List.set_cons_zero, List.set_cons_succ]
  refine take_d 4 (some 9) (.int .u64 ((E : Int) + (n : Int))) rfl (by kernel_rfl) (by kernel_rfl) (by kernel_rfl) (fun _ _ _ h => h) (fun oi h => by cases h; exact Or.inl ⟨by rfl, fun w' hS' => by go_simp⟩) hHeld ?_
  try simp only [Act.put, List.setIfInBounds_toArray, List.set_cons_zero, List.set_cons_succ]
  refine one_d 6 (some 11) rfl (by kernel_rfl) ?_
  intro o ho hd K hK
  cases ho
  go_simp
  refine (CE.out _).mono ?_
  rintro e v2 ⟨rfl, bb⟩
  have hHeld' := hHeld
  clear hHeld
  have hHeld := hHeld'
  clear hHeld'
  refine hK.out _ _ (⟨hHeld.1.below bb hHeld.1.lt, hHeld.2.trans (bb.mono hHeld.2.size)⟩) (fun hHeld => ?_)
  clear hK K hd bb
  try simp only [Act.put, List.setIfInBounds_toArray, List.set_cons_zero, List.set_cons_succ]
  refine take_d 7 (some 12) (.bool false) rfl (by kernel_rfl) (by kernel_rfl) (by kernel_rfl) (fun _ _ _ h => h) (fun oi h => by cases h; exact Or.inl ⟨by rfl, fun w' hS' => by go_simp⟩) hHeld ?_
  try simp only [Act.put, List.setIfInBounds_toArray, List.set_cons_zero, List.set_cons_succ]
  refine take_d 8 (some 4) (.bool false) rfl (by kernel_rfl) (by kernel_rfl) (by kernel_rfl) (fun _ _ _ h => h) (fun oi h => by cases h; exact Or.inl ⟨by rfl, fun w' hS' => by go_simp⟩) hHeld ?_
  try simp only [Act.put, List.setIfInBounds_toArray, List.set_cons_zero, List.set_cons_succ]
  refine wpAnyH_done (by kernel_rfl) ?_ _
  try simp only [Act.put]
  have hb := hHeld.2
  go_wp2
  go_ret
  exact ⟨rfl, hb⟩

set_option maxHeartbeats 4000000 in
theorem refType_ok (f : Nat) (t s : ByteArray) (h : f + t.size + s.size ≤ 4611686018427387904) (hs : t.size + s.size ≤ 256) (w : World) :
    Calls Try.prog 22 #[.agg #[.int .u64 (f : Int), .string t], .string s] w fun e w' => e = .returned (.tuple #[.agg #[.int .u64 (f : Int), .string (t ++ s)], .int .i64 0]) ∧ Below w.heap.size w w' := by
  obtain ⟨X, hX⟩ : ∃ X : ByteArray, X = t ++ s := ⟨_, rfl⟩
  have HX : Hid (t ++ s = X) := hX.symm
  have CG : Hid (∀ wx, Calls Try.prog 27 #[.agg #[.int .u64 (f : Int), .string t], .int .i64 (s.size : Int)] wx fun e w' => e = .returned (.bool false) ∧ Below wx.heap.size wx w') := fun wx => refGreat_any f s.size t (by omega) wx
  have r1 : Row ((w.alloc (.cells #[.int .u64 (f : Int), .string t] 29 (0, 0))).alloc (.cells #[.int .u64 0, .string ⟨#[]⟩] 29 (0, 0))) w.heap.size 29 [.int .u64 (f : Int), .string t] := (Row.new' rfl rfl).alloc _
  have q1 : Row ((w.alloc (.cells #[.int .u64 (f : Int), .string t] 29 (0, 0))).alloc (.cells #[.int .u64 0, .string ⟨#[]⟩] 29 (0, 0))) (w.heap.size + 1) 29 [.int .u64 0, .string ⟨#[]⟩] := Row.new' rfl (by simp)
  have b1 : Below w.heap.size w ((w.alloc (.cells #[.int .u64 (f : Int), .string t] 29 (0, 0))).alloc (.cells #[.int .u64 0, .string ⟨#[]⟩] 29 (0, 0))) := ((Below.refl _ _).alloc (Nat.le_refl _) _).alloc (by simp) _
  have g1 : ¬ (256 : Int) < (t.size : Int) + (s.size : Int) := by omega
  have g2 : t.size + s.size ≤ 9223372036854775807 := by omega
  rw [← hX]
  clear hX
  go_enter Try.func22, Try.ntmps22
  go_wp2_with fail
  generalize (w.alloc (.cells #[.int .u64 (f : Int), .string t] 29 (0, 0))).alloc (.cells #[.int .u64 0, .string ⟨#[]⟩] 29 (0, 0)) = w1 at *
  refine (CG.out _).mono ?_
  rintro e w2 ⟨rfl, b2⟩
  have r2 := r1.below b2 r1.lt
  have q2 := q1.below b2 q1.lt
  have bb2 := b1.trans (b2.mono b1.size)
  have c20 := r2.cell 0
  have c21 := r2.cell 1
  simp only [List.getElem?_cons_zero, List.getElem?_cons_succ] at c20 c21
  have hx := HX.out
  clear r1 q1 b1 b2 HX
  go_wp2_with (refine wpList_store_row rfl 29 (.tmp 4) (.tmp 25) rfl (w.heap.size + 1) _ rfl rfl _ _ q2 infoRK rfl (by simp [Value.oneCell']) ?_)
  exact bodyPost_ret (results_row_tmp rfl _ _ (w.heap.size + 1) 29 [.int .u64 (f : Int), .string X] _ rfl (q2.setRow [.int .u64 (f : Int), .string X]) Try.underlying29 rfl infoRK) rfl ⟨rfl, below_row bb2 (by omega) _⟩

set_option maxHeartbeats 4000000 in
theorem refType_full (f : Nat) (t s : ByteArray) (ht : t.size ≤ 256) (hs : 256 < t.size + s.size) (h4 : s.size ≤ 1099511627776) (w : World) :
    Calls Try.prog 22 #[.agg #[.int .u64 (f : Int), .string t], .string s] w fun e w' => e = .returned (.tuple #[.agg #[.int .u64 (f : Int), .string t], .int .i64 12]) ∧ Below w.heap.size w w' := by
  have r1 : Row ((w.alloc (.cells #[.int .u64 (f : Int), .string t] 29 (0, 0))).alloc (.cells #[.int .u64 0, .string ⟨#[]⟩] 29 (0, 0))) w.heap.size 29 [.int .u64 (f : Int), .string t] := (Row.new' rfl rfl).alloc _
  have q1 : Row ((w.alloc (.cells #[.int .u64 (f : Int), .string t] 29 (0, 0))).alloc (.cells #[.int .u64 0, .string ⟨#[]⟩] 29 (0, 0))) (w.heap.size + 1) 29 [.int .u64 0, .string ⟨#[]⟩] := Row.new' rfl (by simp)
  have b1 : Below w.heap.size w ((w.alloc (.cells #[.int .u64 (f : Int), .string t] 29 (0, 0))).alloc (.cells #[.int .u64 0, .string ⟨#[]⟩] 29 (0, 0))) := ((Below.refl _ _).alloc (Nat.le_refl _) _).alloc (by simp) _
  have g1 : (256 : Int) < (t.size : Int) + (s.size : Int) := by omega
  go_enter Try.func22, Try.ntmps22
  go_wp2_with (refine wpList_store_row rfl 29 (.tmp 4) (.tmp 13) rfl (w.heap.size + 1) _ rfl rfl _ _ q1 infoRK rfl (by simp [Value.oneCell']) ?_)
  exact bodyPost_ret (results_row_tmp rfl _ _ (w.heap.size + 1) 29 [.int .u64 (f : Int), .string t] _ rfl (q1.setRow [.int .u64 (f : Int), .string t]) Try.underlying29 rfl infoRK) rfl ⟨rfl, below_row b1 (by omega) _⟩

theorem setRow2 {w : World} {g t : Nat} {a b : Value} (r : Row w g t [a, b]) (a' b' : Value) : Row ((w.setCell ⟨g, 0, none⟩ a').setCell ⟨g, 1, none⟩ b') g t [a', b'] := (r.set 0 a').set 1 b'

set_option maxHeartbeats 4000000 in
theorem refForget_any (f n : Nat) (t : ByteArray) (h : f + t.size ≤ 4611686018427387904) (ht : t.size ≤ 1099511627776) (w : World) :
    Calls Try.prog 23 #[.agg #[.int .u64 (f : Int), .string t], .int .u64 (n : Int)] w fun e w' => e = .returned (.agg #[.int .u64 ((K13.fgtN f t n : Nat) : Int), .string (K13.fgtT f t n)]) ∧ Below w.heap.size w w' := by
  have r1 : Row ((w.alloc (.cells #[.int .u64 (f : Int), .string t] 29 (0, 0))).alloc (.cells #[.int .u64 0, .string ⟨#[]⟩] 29 (0, 0))) w.heap.size 29 [.int .u64 (f : Int), .string t] := (Row.new' rfl rfl).alloc _
  have q1 : Row ((w.alloc (.cells #[.int .u64 (f : Int), .string t] 29 (0, 0))).alloc (.cells #[.int .u64 0, .string ⟨#[]⟩] 29 (0, 0))) (w.heap.size + 1) 29 [.int .u64 0, .string ⟨#[]⟩] := Row.new' rfl (by simp)
  have b1 : Below w.heap.size w ((w.alloc (.cells #[.int .u64 (f : Int), .string t] 29 (0, 0))).alloc (.cells #[.int .u64 0, .string ⟨#[]⟩] 29 (0, 0))) := ((Below.refl _ _).alloc (Nat.le_refl _) _).alloc (by simp) _
  obtain ⟨d, hd⟩ : ∃ d, d = min (n - f) t.size := ⟨_, rfl⟩
  have hd1 : d ≤ t.size := by omega
  have hd2 : d ≤ n - f := by omega
  have hd3 : d < t.size → n ≤ f + d := by omega
  have HR : Hid (K13.fgtN f t n = f + d ∧ K13.fgtT f t n = K13.cut t d) := ⟨by unfold K13.fgtN; rw [hd], by unfold K13.fgtT; rw [hd, K13.cut_min]⟩
  clear hd
  go_enter Try.func23, Try.ntmps23
  go_wp2
  generalize (w.alloc (.cells #[.int .u64 (f : Int), .string t] 29 (0, 0))).alloc (.cells #[.int .u64 0, .string ⟨#[]⟩] 29 (0, 0)) = w1 at *
  go_loopg [] t.size (fun gg wr => ∃ (k m : Nat) (T : ByteArray), k ≤ d ∧ t.size - k ≤ gg ∧ Hid (m = f + k ∧ T = K13.cut t k) ∧ m ≤ 4611686018427387904 ∧ Row wr w.heap.size 29 [.int .u64 (m : Int), .string T] ∧ Row wr (w.heap.size + 1) 29 [.int .u64 0, .string ⟨#[]⟩] ∧ Below w.heap.size w wr)
  case atStart => exact ⟨0, f, t, by omega, by omega, ⟨rfl, (K13.cut_zero t).symm⟩, by omega, r1, q1, b1⟩
  case round =>
    clear r1 q1 b1
    obtain ⟨k, m, T, hk, hg, HMT, hmb, r, q, b⟩ := hrel
    have hcs := K13.cut_size t k
    have hm := HMT.out.1
    rw [← HMT.out.2] at hcs
    have c0 := r.cell 0
    have c1 := r.cell 1
    have f0 := r.frozen 0
    have f1 := r.frozen 1
    simp only [List.getElem?_cons_zero, List.getElem?_cons_succ] at c0 c1
    by_cases hkd : k < d
    · obtain ⟨X, hX⟩ : ∃ X : ByteArray, X = T.extract 1 T.size := ⟨_, rfl⟩
      have HX : Hid (X = K13.cut t (k + 1)) := by show _ = _; rw [hX, K13.extract_cut _ _ _ rfl, HMT.out.2, K13.cut_cut]
      have h1 : (m : Int) < (n : Int) := by omega
      have h2 : (0 : Int) < (T.size : Int) := by omega
      have hY := hX.symm
      have r2 := setRow2 r (.int .u64 ((m : Int) + 1)) (.string X)
      clear hm hcs hX
      go_wp2
      go_roundg (t.size - (k + 1))
      case measure => omega
      case rel => exact ⟨k + 1, m + 1, X, by omega, by omega, ⟨by rw [HMT.out.1]; omega, HX.out⟩, by have := HMT.out.1; omega, r2, (q.other (k := w.heap.size) (i := 0) (by omega) _).other (k := w.heap.size) (i := 1) (by omega) _, (b.setCell (p := ⟨w.heap.size, 0, none⟩) (Nat.le_refl _) _).setCell (p := ⟨w.heap.size, 1, none⟩) (Nat.le_refl _) _⟩
    · have hkd' : k = d := by omega
      have HRES : Hid (m = f + d ∧ T = K13.cut t d) := by rw [← hkd']; exact HMT.out
      by_cases hmn : m < n
      · have h1 : (m : Int) < (n : Int) := by omega
        have h2 : T.size = 0 := by omega
        clear hm hcs hkd hkd' hmn
        go_wp2_with (first | refine wpList_load_row rfl 29 (.tmp 2) rfl w.heap.size rfl _ _ _ _ r Try.underlying29 rfl infoRK ?_ | refine wpList_store_row rfl 29 (.tmp 4) (.tmp 23) rfl (w.heap.size + 1) _ rfl rfl _ _ q infoRK rfl (by simp [Value.oneCell']) ?_)
        exact bodyPost_ret (results_cell_row rfl _ _ (w.heap.size + 1) _ _ _ _ rfl (q.setRow [.int .u64 (m : Int), .string T]) Try.underlying29 rfl infoRK) rfl ⟨by rw [HR.out.1, HR.out.2, ← HRES.out.1, ← HRES.out.2] <;> rfl, below_row b (by omega) _⟩
      · have h1 : ¬ (m : Int) < (n : Int) := by omega
        clear hm hcs hkd hkd' hmn
        go_wp2_with (first | refine wpList_load_row rfl 29 (.tmp 2) rfl w.heap.size rfl _ _ _ _ r Try.underlying29 rfl infoRK ?_ | refine wpList_store_row rfl 29 (.tmp 4) (.tmp 23) rfl (w.heap.size + 1) _ rfl rfl _ _ q infoRK rfl (by simp [Value.oneCell']) ?_)
        exact bodyPost_ret (results_cell_row rfl _ _ (w.heap.size + 1) _ _ _ _ rfl (q.setRow [.int .u64 (m : Int), .string T]) Try.underlying29 rfl infoRK) rfl ⟨by rw [HR.out.1, HR.out.2, ← HRES.out.1, ← HRES.out.2] <;> rfl, below_row b (by omega) _⟩

set_option maxHeartbeats 4000000 in
theorem refSince_any (f n : Nat) (t : ByteArray) (h : f + t.size ≤ 4611686018427387904) (ht : t.size ≤ 1099511627776) (w : World) :
    Calls Try.prog 11 #[.agg #[.int .u64 (f : Int), .string t], .int .u64 (n : Int)] w fun e w' => e = .returned (.tuple #[.string (K13.sinceT f t n), .int .i64 (K13.sinceE f t n)]) ∧ Below w.heap.size w w' := by
  obtain ⟨E, hE⟩ : ∃ E, E = f + t.size := ⟨_, rfl⟩
  have CE : Hid (∀ wx, Calls Try.prog 13 #[.agg #[.int .u64 (f : Int), .string t]] wx fun e w' => e = .returned (.int .u64 (E : Int)) ∧ Below wx.heap.size wx w') := fun wx => by rw [hE]; exact refEnd_any f t (by omega) wx
  have r1 : Row (w.alloc (.cells #[.int .u64 (f : Int), .string t] 29 (0, 0))) w.heap.size 29 [.int .u64 (f : Int), .string t] := Row.new' rfl rfl
  have b1 : Below w.heap.size w (w.alloc (.cells #[.int .u64 (f : Int), .string t] 29 (0, 0))) := (Below.refl _ _).alloc (Nat.le_refl _) _
  by_cases h1 : n < f
  · rw [(K13.since_no (t := t) (.inl h1)).1, (K13.since_no (t := t) (.inl h1)).2]
    have e0 : (n : Int) < (f : Int) := by omega
    clear hE CE h1
    go_enter Try.func11, Try.ntmps11
    go_wp2
    go_ret2
    exact ⟨rfl, b1⟩
  · have e0 : ¬ (n : Int) < (f : Int) := by omega
    by_cases h2 : f + t.size < n
    · rw [(K13.since_no (.inr h2)).1, (K13.since_no (.inr h2)).2]
      have e1 : (E : Int) < (n : Int) := by omega
      clear hE h1 h2
      go_enter Try.func11, Try.ntmps11
      go_wp2_with fail
      refine (CE.out _).mono ?_
      rintro e w2 ⟨rfl, b2⟩
      have bb2 := b1.trans (b2.mono b1.size)
      clear b1 b2 r1
      go_wp2
      go_ret2
      exact ⟨rfl, bb2⟩
    · rw [(K13.since_yes (t := t) (show f ≤ n by omega) (by omega)).1, (K13.since_yes (t := t) (show f ≤ n by omega) (by omega)).2]
      have CF : Hid (∀ wx, Calls Try.prog 23 #[.agg #[.int .u64 (f : Int), .string t], .int .u64 (n : Int)] wx fun e w' => e = .returned (.agg #[.int .u64 (n : Int), .string (K13.cut t (n - f))]) ∧ Below wx.heap.size wx w') := fun wx => by
        have := refForget_any f n t h ht wx
        rw [K13.fgt_some (show f ≤ n by omega) (by omega)] at this
        exact this
      have e1 : ¬ (E : Int) < (n : Int) := by omega
      clear hE h1 h2
      generalize K13.cut t (n - f) = X at *
      go_enter Try.func11, Try.ntmps11
      go_wp2_with fail
      generalize w.alloc (.cells #[.int .u64 (f : Int), .string t] 29 (0, 0)) = w1 at *
      refine (CE.out _).mono ?_
      rintro e w2 ⟨rfl, b2⟩
      have r2 := r1.below b2 r1.lt
      have bb2 := b1.trans (b2.mono b1.size)
      clear b1 b2 r1
      go_wp2_with (first | refine wpList_load_row rfl 29 (.tmp 2) rfl w.heap.size rfl _ _ _ _ r2 Try.underlying29 rfl infoRK ?_)
      refine (CF.out _).mono ?_
      rintro e w3 ⟨rfl, b3⟩
      have bb3 := bb2.trans (b3.mono bb2.size)
      have hfd : ∀ wx : World, (Instr.field 29 (.agg #[.int .u64 (n : Int), .string X]) 1).run Try.prog wx = .ok (.string X) wx := fun _ => by kernel_rfl
      clear b3 bb2 r2
      go_wp2
      go_ret2
      exact ⟨rfl, bb3⟩

set_option maxHeartbeats 4000000 in
theorem refDo_any (f : Nat) (t s : ByteArray) (h : f + t.size + s.size ≤ 4611686018427387904) (hs : t.size + s.size ≤ 1099511627776) (w : World) :
    Calls Try.prog 17 #[.agg #[.int .u64 (f : Int), .string t], .string s] w fun e w' => e = .returned (.tuple #[.agg #[.int .u64 ((K13.doN f t s : Nat) : Int), .string (K13.doT f t s)], .int .i64 0]) ∧ Below w.heap.size w w' := by
  obtain ⟨X, hX⟩ : ∃ X : ByteArray, X = t ++ s := ⟨_, rfl⟩
  have hXs : X.size = t.size + s.size := by rw [hX, ByteArray.size_append]
  obtain ⟨d, hd⟩ : ∃ d, d = X.size - 256 := ⟨_, rfl⟩
  have HR : Hid (K13.doN f t s = f + d ∧ K13.doT f t s = K13.cut X d) := by
    by_cases hb : 256 < (t ++ s).size
    · have := K13.do_long (f := f) hb
      rw [← hX] at this
      exact ⟨by rw [this.1, hd], by rw [this.2, hd]⟩
    · have := K13.do_short (f := f) (t := t) (s := s) (by omega)
      rw [← hX] at this hb
      have h0 : d = 0 := by omega
      exact ⟨by rw [this.1, h0, Nat.add_zero], by rw [this.2, h0, K13.cut_zero]⟩
  have CG : Hid (∀ wx, Calls Try.prog 27 #[.agg #[.int .u64 (f : Int), .string t], .int .i64 (s.size : Int)] wx fun e w' => e = .returned (.bool false) ∧ Below wx.heap.size wx w') := fun wx => refGreat_any f s.size t (by omega) wx
  have r1 : Row ((w.alloc (.cells #[.int .u64 (f : Int), .string t] 29 (0, 0))).alloc (.cells #[.int .u64 0, .string ⟨#[]⟩] 29 (0, 0))) w.heap.size 29 [.int .u64 (f : Int), .string t] := (Row.new' rfl rfl).alloc _
  have q1 : Row ((w.alloc (.cells #[.int .u64 (f : Int), .string t] 29 (0, 0))).alloc (.cells #[.int .u64 0, .string ⟨#[]⟩] 29 (0, 0))) (w.heap.size + 1) 29 [.int .u64 0, .string ⟨#[]⟩] := Row.new' rfl (by simp)
  have b1 : Below w.heap.size w ((w.alloc (.cells #[.int .u64 (f : Int), .string t] 29 (0, 0))).alloc (.cells #[.int .u64 0, .string ⟨#[]⟩] 29 (0, 0))) := ((Below.refl _ _).alloc (Nat.le_refl _) _).alloc (by simp) _
  have hy := hX.symm
  have g2 : t.size + s.size ≤ 9223372036854775807 := by omega
  have HXS := Lib.hid hXs
  have HD := Lib.hid hd
  clear hX hXs hd
  go_enter Try.func17, Try.ntmps17
  go_wp2_with fail
  generalize (w.alloc (.cells #[.int .u64 (f : Int), .string t] 29 (0, 0))).alloc (.cells #[.int .u64 0, .string ⟨#[]⟩] 29 (0, 0)) = w1 at *
  refine (CG.out _).mono ?_
  rintro e w2 ⟨rfl, b2⟩
  have r2 := r1.below b2 r1.lt
  have q2 := q1.below b2 q1.lt
  have bb2 := b1.trans (b2.mono b1.size)
  have c0 := r2.cell 0
  have c1 := r2.cell 1
  have f1 := r2.frozen 1
  simp only [List.getElem?_cons_zero, List.getElem?_cons_succ] at c0 c1
  have r3 : Row (w2.setCell ⟨w.heap.size, 1, none⟩ (.string X)) w.heap.size 29 [.int .u64 (f : Int), .string X] := r2.set 1 (.string X)
  have q3 := q2.other (k := w.heap.size) (i := 1) (by omega) (.string X)
  have bb3 := bb2.setCell (p := ⟨w.heap.size, 1, none⟩) (Nat.le_refl _) (.string X)
  clear r1 q1 b1 b2 CG
  go_wp2
  generalize w2.setCell ⟨w.heap.size, 1, none⟩ (.string X) = w3 at *
  clear r2 q2 bb2 c0 c1 f1 hy g2
  go_loopg [] X.size (fun gg wr => ∃ (k m : Nat) (T : ByteArray), k ≤ d ∧ X.size - k ≤ gg ∧ Hid (m = f + k ∧ T = K13.cut X k) ∧ m ≤ 4611686018427387904 ∧ Row wr w.heap.size 29 [.int .u64 (m : Int), .string T] ∧ Row wr (w.heap.size + 1) 29 [.int .u64 0, .string ⟨#[]⟩] ∧ Below w.heap.size w wr)
  case atStart => exact ⟨0, f, X, by omega, by omega, ⟨rfl, (K13.cut_zero X).symm⟩, by omega, r3, q3, bb3⟩
  case round =>
    clear r3 q3 bb3
    obtain ⟨k, m, T, hk, hg, HMT, hmb, r, q, b⟩ := hrel
    have hcs := K13.cut_size X k
    have hm := HMT.out.1
    have hd := HD.out
    have hXs := HXS.out
    rw [← HMT.out.2] at hcs
    have c0 := r.cell 0
    have c1 := r.cell 1
    have f0 := r.frozen 0
    have f1 := r.frozen 1
    simp only [List.getElem?_cons_zero, List.getElem?_cons_succ] at c0 c1
    by_cases hkd : k < d
    · obtain ⟨Y, hY⟩ : ∃ Y : ByteArray, Y = T.extract 1 T.size := ⟨_, rfl⟩
      have HY : Hid (Y = K13.cut X (k + 1)) := by show _ = _; rw [hY, K13.extract_cut _ _ _ rfl, HMT.out.2, K13.cut_cut]
      have h2 : (256 : Int) < (T.size : Int) := by omega
      have h3 : m + 1 ≤ 4611686018427387904 := by omega
      have hZ := hY.symm
      have r2 := setRow2 r (.int .u64 ((m : Int) + 1)) (.string Y)
      have HMM : Hid (m + 1 = f + (k + 1)) := by show _ = _; omega
      have hk2 : k < X.size := by omega
      clear hm hcs hd hXs hY h
      go_wp2
      go_roundg (X.size - (k + 1))
      case measure => omega
      case rel => exact ⟨k + 1, m + 1, Y, by omega, by omega, ⟨HMM.out, HY.out⟩, h3, r2, (q.other (k := w.heap.size) (i := 0) (by omega) _).other (k := w.heap.size) (i := 1) (by omega) _, (b.setCell (p := ⟨w.heap.size, 0, none⟩) (Nat.le_refl _) _).setCell (p := ⟨w.heap.size, 1, none⟩) (Nat.le_refl _) _⟩
    · have hkd' : k = d := by omega
      have HRES : Hid (m = f + d ∧ T = K13.cut X d) := by rw [← hkd']; exact HMT.out
      have h2 : ¬ (256 : Int) < (T.size : Int) := by omega
      clear hm hcs hkd hkd' hd hXs h
      go_wp2_with (first | refine wpList_load_row rfl 29 (.tmp 2) rfl w.heap.size rfl _ _ _ _ r Try.underlying29 rfl infoRK ?_ | refine wpList_store_row rfl 29 (.tmp 4) (.tmp 28) rfl (w.heap.size + 1) _ rfl rfl _ _ q infoRK rfl (by simp [Value.oneCell']) ?_)
      exact bodyPost_ret (results_row_tmp rfl _ _ (w.heap.size + 1) 29 [.int .u64 (m : Int), .string T] _ rfl (q.setRow [.int .u64 (m : Int), .string T]) Try.underlying29 rfl infoRK) rfl ⟨by rw [HR.out.1, HR.out.2, ← HRES.out.1, ← HRES.out.2] <;> rfl, below_row b (by omega) _⟩

set_option maxHeartbeats 4000000 in
theorem refSame_any (f : Nat) (t : ByteArray) (g : Nat) (u : ByteArray) (h : f + t.size ≤ 4611686018427387904) (ht : t.size ≤ 1099511627776) (h2 : g + u.size ≤ 4611686018427387904) (hu : u.size ≤ 1099511627776) (w : World) :
    Calls Try.prog 15 #[.agg #[.int .u64 (f : Int), .string t], .agg #[.int .u64 (g : Int), .string u]] w fun e w' => e = .returned (.bool (K13.sameB f t g u)) ∧ Below w.heap.size w w' := by
  obtain ⟨E, hE⟩ : ∃ E, E = f + t.size := ⟨_, rfl⟩
  obtain ⟨F, hF⟩ : ∃ F, F = g + u.size := ⟨_, rfl⟩
  have CE : Hid (∀ wx, Calls Try.prog 13 #[.agg #[.int .u64 (f : Int), .string t]] wx fun e w' => e = .returned (.int .u64 (E : Int)) ∧ Below wx.heap.size wx w') := fun wx => by rw [hE]; exact refEnd_any f t (by omega) wx
  have CF : Hid (∀ wx, Calls Try.prog 13 #[.agg #[.int .u64 (g : Int), .string u]] wx fun e w' => e = .returned (.int .u64 (F : Int)) ∧ Below wx.heap.size wx w') := fun wx => by rw [hF]; exact refEnd_any g u (by omega) wx
  have r1 : Row ((w.alloc (.cells #[.int .u64 (f : Int), .string t] 29 (0, 0))).alloc (.cells #[.int .u64 (g : Int), .string u] 29 (0, 0))) w.heap.size 29 [.int .u64 (f : Int), .string t] := (Row.new' rfl rfl).alloc _
  have q1 : Row ((w.alloc (.cells #[.int .u64 (f : Int), .string t] 29 (0, 0))).alloc (.cells #[.int .u64 (g : Int), .string u] 29 (0, 0))) (w.heap.size + 1) 29 [.int .u64 (g : Int), .string u] := Row.new' rfl (by simp)
  have b1 : Below w.heap.size w ((w.alloc (.cells #[.int .u64 (f : Int), .string t] 29 (0, 0))).alloc (.cells #[.int .u64 (g : Int), .string u] 29 (0, 0))) := ((Below.refl _ _).alloc (Nat.le_refl _) _).alloc (by simp) _
  by_cases hEF : E = F
  · have HB : Hid (K13.sameB f t g u = true ↔ ∀ i, 1 ≤ i → i ≤ t.size → i ≤ u.size → t.data.toList.getD (t.size - i) 0 = u.data.toList.getD (u.size - i) 0) :=
      (K13.sameB_iff f t g u).trans (K13.same_bytes f t g u (by omega))
    have HET := Lib.hid (K13.len_list t)
    have HEU := Lib.hid (K13.len_list u)
    generalize K13.sameB f t g u = rb at *
    have hn : ((E : Int) == (F : Int)) = true := by rw [beq_iff_eq]; omega
    have hn2 : ((E : Int) != (F : Int)) = false := by simp [hEF]
    clear hE hF hEF h h2
    go_enter Try.func15, Try.ntmps15
    go_wp2
    generalize (w.alloc (.cells #[.int .u64 (f : Int), .string t] 29 (0, 0))).alloc (.cells #[.int .u64 (g : Int), .string u] 29 (0, 0)) = w1 at *
    refine wp_region_held_drew (S := fun w' => Row w' w.heap.size 29 [.int .u64 (f : Int), .string t] ∧ Row w' (w.heap.size + 1) 29 [.int .u64 (g : Int), .string u] ∧ Below w.heap.size w w') (by kernel_rfl) (⟨r1.drew, q1.drew, b1.drew⟩) (fun hHeld => ?_)
    refine take_d 0 (some 6) (.agg #[.int .u64 (f : Int), .string t]) rfl (by kernel_rfl) (by kernel_rfl) (by kernel_rfl) (fun _ _ _ h => h) (fun oi h => by cases h; exact yieldsIf_load_mid (by rfl) 29 (.tmp 2) rfl w.heap.size 0 rfl [.int .u64 (f : Int), .string t] _ (fun w' hS' => hS'.1.range) Try.underlying29 rfl infoRK) hHeld ?_
    try simp only [Act.put, List.setIfInBounds_toArray, List.set_cons_zero, List.set_cons_succ]
    refine take_d 2 (some 8) (.agg #[.int .u64 (g : Int), .string u]) rfl (by kernel_rfl) (by kernel_rfl) (by kernel_rfl) (fun _ _ _ h => h) (fun oi h => by cases h; exact yieldsIf_load_mid (by rfl) 29 (.tmp 3) rfl (w.heap.size + 1) 0 rfl [.int .u64 (g : Int), .string u] _ (fun w' hS' => hS'.2.1.range) Try.underlying29 rfl infoRK) hHeld ?_
    try simp only [Act.put, List.setIfInBounds_toArray, List.set_cons_zero, List.set_cons_succ]
    refine one_d 1 (some 7) rfl (by kernel_rfl) ?_
    intro o ho hd K hK
    cases ho
    go_simp
    refine (CE.out _).mono ?_
    rintro e v1 ⟨rfl, bb⟩
    have hHeld' := hHeld
    clear hHeld
    have hHeld := hHeld'
    clear hHeld'
    refine hK.out _ _ (⟨hHeld.1.below bb hHeld.1.lt, hHeld.2.1.below bb hHeld.2.1.lt, hHeld.2.2.trans (bb.mono hHeld.2.2.size)⟩) (fun hHeld => ?_)
    clear hK K hd bb
    try simp only [Act.put, List.setIfInBounds_toArray, List.set_cons_zero, List.set_cons_succ]
    refine one_d 3 (some 9) rfl (by kernel_rfl) ?_
    intro o ho hd K hK
    cases ho
    go_simp
    refine (CF.out _).mono ?_
    rintro e v2 ⟨rfl, bb⟩
    have hHeld' := hHeld
    clear hHeld
    have hHeld := hHeld'
    clear hHeld'
    refine hK.out _ _ (⟨hHeld.1.below bb hHeld.1.lt, hHeld.2.1.below bb hHeld.2.1.lt, hHeld.2.2.trans (bb.mono hHeld.2.2.size)⟩) (fun hHeld => ?_)
    clear hK K hd bb
    try simp only [Act.put, List.setIfInBounds_toArray, List.set_cons_zero, List.set_cons_succ]
    refine take_d 4 (some 10) (.bool false) rfl (by kernel_rfl) (by kernel_rfl) (by kernel_rfl) (fun _ _ _ h => h) (fun oi h => by cases h; exact Or.inl ⟨by rfl, fun w' hS' => by go_simp⟩) hHeld ?_
    try simp only [Act.put, List.setIfInBounds_toArray, List.set_cons_zero, List.set_cons_succ]
    refine wpAnyH_done (by kernel_rfl) ?_ _
    try simp only [Act.put]
    obtain ⟨rr, qq, bb⟩ := hHeld
    generalize v2 = w3 at *
    clear r1 q1 b1 hn hn2
    go_wp2
    go_loopw [5] (fun iv wr => ∃ i : Nat, 1 ≤ i ∧ (i ≤ t.size + 1 ∧ iv = .int .i64 (i : Int)) ∧ Hid (∀ j, 1 ≤ j → j < i → j ≤ t.size → j ≤ u.size → t.data.toList.getD (t.size - j) 0 = u.data.toList.getD (u.size - j) 0) ∧ Row wr w.heap.size 29 [.int .u64 (f : Int), .string t] ∧ Row wr (w.heap.size + 1) 29 [.int .u64 (g : Int), .string u] ∧ Below w.heap.size w wr) (fun iv _ => t.size + 1 - (intOf iv).toNat)
    case atStart => exact ⟨1, Nat.le_refl _, ⟨by omega, rfl⟩, fun j a b => by omega, rr, qq, bb⟩
    case round =>
      clear rr qq bb
      obtain ⟨i, hi1, ⟨hi2, rfl⟩, HALL, r, q, b⟩ := hrel
      have c1 := r.cell 1
      have d1 := q.cell 1
      simp only [List.getElem?_cons_zero, List.getElem?_cons_succ] at c1 d1
      by_cases hit : i ≤ t.size
      · have k1 : (i : Int) ≤ (t.size : Int) := by omega
        by_cases hiu : i ≤ u.size
        · have k2 : (i : Int) ≤ (u.size : Int) := by omega
          obtain ⟨a, ha⟩ : ∃ a, a = t.size - i := ⟨_, rfl⟩
          obtain ⟨c, hc⟩ : ∃ c, c = u.size - i := ⟨_, rfl⟩
          have k3 : a < t.size := by omega
          have k4 : c < u.size := by omega
          have et : t.data.toList.getD a 0 = t[a] := by
            rw [List.getD_eq_getElem?_getD, List.getElem?_eq_getElem (by rw [HET.out]; exact k3)]; rfl
          have eu : u.data.toList.getD c 0 = u[c] := by
            rw [List.getD_eq_getElem?_getD, List.getElem?_eq_getElem (by rw [HEU.out]; exact k4)]; rfl
          have n1 : (t.size : Int) - (i : Int) = (a : Int) := by omega
          have n2 : (u.size : Int) - (i : Int) = (c : Int) := by omega
          have n3 : IntKind.i64.wrap (a : Int) = (a : Int) := by rw [IntKind.wrap_i64]; omega
          have n4 : IntKind.i64.wrap (c : Int) = (c : Int) := by rw [IntKind.wrap_i64]; omega
          by_cases hb : t[a] = u[c]
          · have HT1 : Hid ((t[a].toNat : Int) = (u[c].toNat : Int)) := by show _ = _; rw [hb]
            have HALL2 : Hid (∀ j, 1 ≤ j → j < i + 1 → j ≤ t.size → j ≤ u.size → t.data.toList.getD (t.size - j) 0 = u.data.toList.getD (u.size - j) 0) := fun j a b c' d => by
              by_cases hji : j < i
              · exact HALL.out j a hji c' d
              · obtain rfl : j = i := by omega
                rw [← ha, ← hc, et, eu, hb]
            clear hb et eu HALL HB ha hc
            go_wp2
            refine wp_region_held_drew (S := fun w' => Row w' w.heap.size 29 [.int .u64 (f : Int), .string t] ∧ Row w' (w.heap.size + 1) 29 [.int .u64 (g : Int), .string u] ∧ Below w.heap.size w w') (by kernel_rfl) (⟨r.drew, q.drew, b.drew⟩) (fun hHeld => ?_)
            refine take_d 0 (some 25) (.pointer (some ⟨w.heap.size, 1, none⟩)) rfl (by kernel_rfl) (by kernel_rfl) (by kernel_rfl) (fun _ _ _ h => h) (fun oi h => by cases h; exact Or.inl ⟨by rfl, fun w' hS' => by go_simp⟩) hHeld ?_
            try simp only [Act.put, List.setIfInBounds_toArray, List.set_cons_zero, List.set_cons_succ]
            refine take_d 1 (some 26) (.string t) rfl (by kernel_rfl) (by kernel_rfl) (by kernel_rfl) (fun _ _ _ h => h) (fun oi h => by cases h; exact Or.inl ⟨by rfl, fun w' hS' => by have c : w'.cell? ⟨w.heap.size, 1, none⟩ = some (.string t) := hS'.1.cell 1; go_simp⟩) hHeld ?_
            try simp only [Act.put, List.setIfInBounds_toArray, List.set_cons_zero, List.set_cons_succ]
            refine take_d 2 (some 27) (.pointer (some ⟨w.heap.size, 1, none⟩)) rfl (by kernel_rfl) (by kernel_rfl) (by kernel_rfl) (fun _ _ _ h => h) (fun oi h => by cases h; exact Or.inl ⟨by rfl, fun w' hS' => by go_simp⟩) hHeld ?_
            try simp only [Act.put, List.setIfInBounds_toArray, List.set_cons_zero, List.set_cons_succ]
            refine take_d 3 (some 28) (.string t) rfl (by kernel_rfl) (by kernel_rfl) (by kernel_rfl) (fun _ _ _ h => h) (fun oi h => by cases h; exact Or.inl ⟨by rfl, fun w' hS' => by have c : w'.cell? ⟨w.heap.size, 1, none⟩ = some (.string t) := hS'.1.cell 1; go_simp⟩) hHeld ?_
            try simp only [Act.put, List.setIfInBounds_toArray, List.set_cons_zero, List.set_cons_succ]
            refine take_d 4 (some 29) (.int .i64 (t.size : Int)) rfl (by kernel_rfl) (by kernel_rfl) (by kernel_rfl) (fun _ _ _ h => h) (fun oi h => by cases h; exact Or.inl ⟨by rfl, fun w' hS' => by go_simp⟩) hHeld ?_
            try simp only [Act.put, List.setIfInBounds_toArray, List.set_cons_zero, List.set_cons_succ]
            refine take_d 5 (some 30) (.int .i64 (i : Int)) rfl (by kernel_rfl) (by kernel_rfl) (by kernel_rfl) (fun _ _ _ h => h) (fun oi h => by cases h; exact Or.inl ⟨by rfl, fun w' hS' => by go_simp⟩) hHeld ?_
            try simp only [Act.put, List.setIfInBounds_toArray, List.set_cons_zero, List.set_cons_succ]
            refine take_d 6 (some 31) (.int .i64 (a : Int)) rfl (by kernel_rfl) (by kernel_rfl) (by kernel_rfl) (fun _ _ _ h => h) (fun oi h => by cases h; exact Or.inl ⟨by rfl, fun w' hS' => by go_simp⟩) hHeld ?_
            try simp only [Act.put, List.setIfInBounds_toArray, List.set_cons_zero, List.set_cons_succ]
            refine take_d 7 (some 32) (.int .u8 (t[a].toNat : Int)) rfl (by kernel_rfl) (by kernel_rfl) (by kernel_rfl) (fun _ _ _ h => h) (fun oi h => by cases h; exact Or.inl ⟨by rfl, fun w' hS' => by go_simp⟩) hHeld ?_
            try simp only [Act.put, List.setIfInBounds_toArray, List.set_cons_zero, List.set_cons_succ]
            refine take_d 8 (some 33) (.pointer (some ⟨(w.heap.size + 1), 1, none⟩)) rfl (by kernel_rfl) (by kernel_rfl) (by kernel_rfl) (fun _ _ _ h => h) (fun oi h => by cases h; exact Or.inl ⟨by rfl, fun w' hS' => by go_simp⟩) hHeld ?_
            try simp only [Act.put, List.setIfInBounds_toArray, List.set_cons_zero, List.set_cons_succ]
            refine take_d 9 (some 34) (.string u) rfl (by kernel_rfl) (by kernel_rfl) (by kernel_rfl) (fun _ _ _ h => h) (fun oi h => by cases h; exact Or.inl ⟨by rfl, fun w' hS' => by have c : w'.cell? ⟨(w.heap.size + 1), 1, none⟩ = some (.string u) := hS'.2.1.cell 1; go_simp⟩) hHeld ?_
            try simp only [Act.put, List.setIfInBounds_toArray, List.set_cons_zero, List.set_cons_succ]
            refine take_d 10 (some 35) (.pointer (some ⟨(w.heap.size + 1), 1, none⟩)) rfl (by kernel_rfl) (by kernel_rfl) (by kernel_rfl) (fun _ _ _ h => h) (fun oi h => by cases h; exact Or.inl ⟨by rfl, fun w' hS' => by go_simp⟩) hHeld ?_
            try simp only [Act.put, List.setIfInBounds_toArray, List.set_cons_zero, List.set_cons_succ]
            refine take_d 11 (some 36) (.string u) rfl (by kernel_rfl) (by kernel_rfl) (by kernel_rfl) (fun _ _ _ h => h) (fun oi h => by cases h; exact Or.inl ⟨by rfl, fun w' hS' => by have c : w'.cell? ⟨(w.heap.size + 1), 1, none⟩ = some (.string u) := hS'.2.1.cell 1; go_simp⟩) hHeld ?_
            try simp only [Act.put, List.setIfInBounds_toArray, List.set_cons_zero, List.set_cons_succ]
            refine take_d 12 (some 37) (.int .i64 (u.size : Int)) rfl (by kernel_rfl) (by kernel_rfl) (by kernel_rfl) (fun _ _ _ h => h) (fun oi h => by cases h; exact Or.inl ⟨by rfl, fun w' hS' => by go_simp⟩) hHeld ?_
            try simp only [Act.put, List.setIfInBounds_toArray, List.set_cons_zero, List.set_cons_succ]
            refine take_d 13 (some 38) (.int .i64 (i : Int)) rfl (by kernel_rfl) (by kernel_rfl) (by kernel_rfl) (fun _ _ _ h => h) (fun oi h => by cases h; exact Or.inl ⟨by rfl, fun w' hS' => by go_simp⟩) hHeld ?_
            try simp only [Act.put, List.setIfInBounds_toArray, List.set_cons_zero, List.set_cons_succ]
            refine take_d 14 (some 39) (.int .i64 (c : Int)) rfl (by kernel_rfl) (by kernel_rfl) (by kernel_rfl) (fun _ _ _ h => h) (fun oi h => by cases h; exact Or.inl ⟨by rfl, fun w' hS' => by go_simp⟩) hHeld ?_
            try simp only [Act.put, List.setIfInBounds_toArray, List.set_cons_zero, List.set_cons_succ]
            refine take_d 15 (some 40) (.int .u8 (u[c].toNat : Int)) rfl (by kernel_rfl) (by kernel_rfl) (by kernel_rfl) (fun _ _ _ h => h) (fun oi h => by cases h; exact Or.inl ⟨by rfl, fun w' hS' => by go_simp⟩) hHeld ?_
            try simp only [Act.put, List.setIfInBounds_toArray, List.set_cons_zero, List.set_cons_succ]
            refine take_d 16 (some 41) (.bool false) rfl (by kernel_rfl) (by kernel_rfl) (by kernel_rfl) (fun _ _ _ h => h) (fun oi h => by cases h; exact Or.inl ⟨by rfl, fun w' hS' => by have t1 := HT1.out; go_simp⟩) hHeld ?_
            try simp only [Act.put, List.setIfInBounds_toArray, List.set_cons_zero, List.set_cons_succ]
            refine wpAnyH_done (by kernel_rfl) ?_ _
            try simp only [Act.put]
            have hb := hHeld.2.2
            go_wp2
            go_roundw
            case rel => exact ⟨i + 1, by omega, ⟨by omega, by go_num⟩, HALL2, hHeld.1, hHeld.2.1, hb⟩
            case measure => simp [intOf]; omega
          · have HT1 : Hid (¬ (t[a].toNat : Int) = (u[c].toNat : Int)) := fun hh => hb (UInt8.toNat_inj.1 (by omega))
            have HR : Hid (rb = false) := by
              show _ = _
              rw [← Bool.not_eq_true, HB.out]
              intro hh
              have := hh i hi1 hit hiu
              rw [← ha, ← hc, et, eu] at this
              exact hb this
            clear hb et eu HALL HB ha hc
            go_wp2
            refine wp_region_held_drew (S := fun w' => Row w' w.heap.size 29 [.int .u64 (f : Int), .string t] ∧ Row w' (w.heap.size + 1) 29 [.int .u64 (g : Int), .string u] ∧ Below w.heap.size w w') (by kernel_rfl) (⟨r.drew, q.drew, b.drew⟩) (fun hHeld => ?_)
            refine take_d 0 (some 25) (.pointer (some ⟨w.heap.size, 1, none⟩)) rfl (by kernel_rfl) (by kernel_rfl) (by kernel_rfl) (fun _ _ _ h => h) (fun oi h => by cases h; exact Or.inl ⟨by rfl, fun w' hS' => by go_simp⟩) hHeld ?_
            try simp only [Act.put, List.setIfInBounds_toArray, List.set_cons_zero, List.set_cons_succ]
            refine take_d 1 (some 26) (.string t) rfl (by kernel_rfl) (by kernel_rfl) (by kernel_rfl) (fun _ _ _ h => h) (fun oi h => by cases h; exact Or.inl ⟨by rfl, fun w' hS' => by have c : w'.cell? ⟨w.heap.size, 1, none⟩ = some (.string t) := hS'.1.cell 1; go_simp⟩) hHeld ?_
            try simp only [Act.put, List.setIfInBounds_toArray, List.set_cons_zero, List.set_cons_succ]
            refine take_d 2 (some 27) (.pointer (some ⟨w.heap.size, 1, none⟩)) rfl (by kernel_rfl) (by kernel_rfl) (by kernel_rfl) (fun _ _ _ h => h) (fun oi h => by cases h; exact Or.inl ⟨by rfl, fun w' hS' => by go_simp⟩) hHeld ?_
            try simp only [Act.put, List.setIfInBounds_toArray, List.set_cons_zero, List.set_cons_succ]
            refine take_d 3 (some 28) (.string t) rfl (by kernel_rfl) (by kernel_rfl) (by kernel_rfl) (fun _ _ _ h => h) (fun oi h => by cases h; exact Or.inl ⟨by rfl, fun w' hS' => by have c : w'.cell? ⟨w.heap.size, 1, none⟩ = some (.string t) := hS'.1.cell 1; go_simp⟩) hHeld ?_
            try simp only [Act.put, List.setIfInBounds_toArray, List.set_cons_zero, List.set_cons_succ]
            refine take_d 4 (some 29) (.int .i64 (t.size : Int)) rfl (by kernel_rfl) (by kernel_rfl) (by kernel_rfl) (fun _ _ _ h => h) (fun oi h => by cases h; exact Or.inl ⟨by rfl, fun w' hS' => by go_simp⟩) hHeld ?_
            try simp only [Act.put, List.setIfInBounds_toArray, List.set_cons_zero, List.set_cons_succ]
            refine take_d 5 (some 30) (.int .i64 (i : Int)) rfl (by kernel_rfl) (by kernel_rfl) (by kernel_rfl) (fun _ _ _ h => h) (fun oi h => by cases h; exact Or.inl ⟨by rfl, fun w' hS' => by go_simp⟩) hHeld ?_
            try simp only [Act.put, List.setIfInBounds_toArray, List.set_cons_zero, List.set_cons_succ]
            refine take_d 6 (some 31) (.int .i64 (a : Int)) rfl (by kernel_rfl) (by kernel_rfl) (by kernel_rfl) (fun _ _ _ h => h) (fun oi h => by cases h; exact Or.inl ⟨by rfl, fun w' hS' => by go_simp⟩) hHeld ?_
            try simp only [Act.put, List.setIfInBounds_toArray, List.set_cons_zero, List.set_cons_succ]
            refine take_d 7 (some 32) (.int .u8 (t[a].toNat : Int)) rfl (by kernel_rfl) (by kernel_rfl) (by kernel_rfl) (fun _ _ _ h => h) (fun oi h => by cases h; exact Or.inl ⟨by rfl, fun w' hS' => by go_simp⟩) hHeld ?_
            try simp only [Act.put, List.setIfInBounds_toArray, List.set_cons_zero, List.set_cons_succ]
            refine take_d 8 (some 33) (.pointer (some ⟨(w.heap.size + 1), 1, none⟩)) rfl (by kernel_rfl) (by kernel_rfl) (by kernel_rfl) (fun _ _ _ h => h) (fun oi h => by cases h; exact Or.inl ⟨by rfl, fun w' hS' => by go_simp⟩) hHeld ?_
            try simp only [Act.put, List.setIfInBounds_toArray, List.set_cons_zero, List.set_cons_succ]
            refine take_d 9 (some 34) (.string u) rfl (by kernel_rfl) (by kernel_rfl) (by kernel_rfl) (fun _ _ _ h => h) (fun oi h => by cases h; exact Or.inl ⟨by rfl, fun w' hS' => by have c : w'.cell? ⟨(w.heap.size + 1), 1, none⟩ = some (.string u) := hS'.2.1.cell 1; go_simp⟩) hHeld ?_
            try simp only [Act.put, List.setIfInBounds_toArray, List.set_cons_zero, List.set_cons_succ]
            refine take_d 10 (some 35) (.pointer (some ⟨(w.heap.size + 1), 1, none⟩)) rfl (by kernel_rfl) (by kernel_rfl) (by kernel_rfl) (fun _ _ _ h => h) (fun oi h => by cases h; exact Or.inl ⟨by rfl, fun w' hS' => by go_simp⟩) hHeld ?_
            try simp only [Act.put, List.setIfInBounds_toArray, List.set_cons_zero, List.set_cons_succ]
            refine take_d 11 (some 36) (.string u) rfl (by kernel_rfl) (by kernel_rfl) (by kernel_rfl) (fun _ _ _ h => h) (fun oi h => by cases h; exact Or.inl ⟨by rfl, fun w' hS' => by have c : w'.cell? ⟨(w.heap.size + 1), 1, none⟩ = some (.string u) := hS'.2.1.cell 1; go_simp⟩) hHeld ?_
            try simp only [Act.put, List.setIfInBounds_toArray, List.set_cons_zero, List.set_cons_succ]
            refine take_d 12 (some 37) (.int .i64 (u.size : Int)) rfl (by kernel_rfl) (by kernel_rfl) (by kernel_rfl) (fun _ _ _ h => h) (fun oi h => by cases h; exact Or.inl ⟨by rfl, fun w' hS' => by go_simp⟩) hHeld ?_
            try simp only [Act.put, List.setIfInBounds_toArray, List.set_cons_zero, List.set_cons_succ]
            refine take_d 13 (some 38) (.int .i64 (i : Int)) rfl (by kernel_rfl) (by kernel_rfl) (by kernel_rfl) (fun _ _ _ h => h) (fun oi h => by cases h; exact Or.inl ⟨by rfl, fun w' hS' => by go_simp⟩) hHeld ?_
            try simp only [Act.put, List.setIfInBounds_toArray, List.set_cons_zero, List.set_cons_succ]
            refine take_d 14 (some 39) (.int .i64 (c : Int)) rfl (by kernel_rfl) (by kernel_rfl) (by kernel_rfl) (fun _ _ _ h => h) (fun oi h => by cases h; exact Or.inl ⟨by rfl, fun w' hS' => by go_simp⟩) hHeld ?_
            try simp only [Act.put, List.setIfInBounds_toArray, List.set_cons_zero, List.set_cons_succ]
            refine take_d 15 (some 40) (.int .u8 (u[c].toNat : Int)) rfl (by kernel_rfl) (by kernel_rfl) (by kernel_rfl) (fun _ _ _ h => h) (fun oi h => by cases h; exact Or.inl ⟨by rfl, fun w' hS' => by go_simp⟩) hHeld ?_
            try simp only [Act.put, List.setIfInBounds_toArray, List.set_cons_zero, List.set_cons_succ]
            refine take_d 16 (some 41) (.bool true) rfl (by kernel_rfl) (by kernel_rfl) (by kernel_rfl) (fun _ _ _ h => h) (fun oi h => by cases h; exact Or.inl ⟨by rfl, fun w' hS' => by have t1 := HT1.out; go_simp⟩) hHeld ?_
            try simp only [Act.put, List.setIfInBounds_toArray, List.set_cons_zero, List.set_cons_succ]
            refine wpAnyH_done (by kernel_rfl) ?_ _
            try simp only [Act.put]
            have hb := hHeld.2.2
            go_wp2
            go_ret
            exact ⟨by rw [HR.out] <;> rfl, hb⟩
        · have k2 : ¬ (i : Int) ≤ (u.size : Int) := by omega
          have HR : Hid (rb = true) := HB.out.2 (fun j a b c => HALL.out j a (by omega) b c)
          go_wp2
          go_ret
          exact ⟨by rw [HR.out] <;> rfl, b⟩
      · have k1 : ¬ (i : Int) ≤ (t.size : Int) := by omega
        have HR : Hid (rb = true) := HB.out.2 (fun j a b c => HALL.out j a (by omega) b c)
        go_wp2
        go_ret
        exact ⟨by rw [HR.out] <;> rfl, b⟩
  · have HR : Hid (K13.sameB f t g u = false) := by
      show _ = _
      rw [← Bool.not_eq_true, K13.sameB_iff]
      intro hh
      exact hEF (by rw [hE, hF]; exact hh.1)
    rw [HR.out]
    have hn : ((E : Int) == (F : Int)) = false := by rw [beq_eq_false_iff_ne]; omega
    have hn2 : ((E : Int) != (F : Int)) = true := by rw [bne_iff_ne]; omega
    clear hE hF hEF h h2
    go_enter Try.func15, Try.ntmps15
    go_wp2
    generalize (w.alloc (.cells #[.int .u64 (f : Int), .string t] 29 (0, 0))).alloc (.cells #[.int .u64 (g : Int), .string u] 29 (0, 0)) = w1 at *
    refine wp_region_held_drew (S := fun w' => Row w' w.heap.size 29 [.int .u64 (f : Int), .string t] ∧ Row w' (w.heap.size + 1) 29 [.int .u64 (g : Int), .string u] ∧ Below w.heap.size w w') (by kernel_rfl) (⟨r1.drew, q1.drew, b1.drew⟩) (fun hHeld => ?_)
    refine take_d 0 (some 6) (.agg #[.int .u64 (f : Int), .string t]) rfl (by kernel_rfl) (by kernel_rfl) (by kernel_rfl) (fun _ _ _ h => h) (fun oi h => by cases h; exact yieldsIf_load_mid (by rfl) 29 (.tmp 2) rfl w.heap.size 0 rfl [.int .u64 (f : Int), .string t] _ (fun w' hS' => hS'.1.range) Try.underlying29 rfl infoRK) hHeld ?_
    try simp only [Act.put, List.setIfInBounds_toArray, List.set_cons_zero, List.set_cons_succ]
    refine take_d 2 (some 8) (.agg #[.int .u64 (g : Int), .string u]) rfl (by kernel_rfl) (by kernel_rfl) (by kernel_rfl) (fun _ _ _ h => h) (fun oi h => by cases h; exact yieldsIf_load_mid (by rfl) 29 (.tmp 3) rfl (w.heap.size + 1) 0 rfl [.int .u64 (g : Int), .string u] _ (fun w' hS' => hS'.2.1.range) Try.underlying29 rfl infoRK) hHeld ?_
    try simp only [Act.put, List.setIfInBounds_toArray, List.set_cons_zero, List.set_cons_succ]
    refine one_d 1 (some 7) rfl (by kernel_rfl) ?_
    intro o ho hd K hK
    cases ho
    go_simp
    refine (CE.out _).mono ?_
    rintro e v1 ⟨rfl, bb⟩
    have hHeld' := hHeld
    clear hHeld
    have hHeld := hHeld'
    clear hHeld'
    refine hK.out _ _ (⟨hHeld.1.below bb hHeld.1.lt, hHeld.2.1.below bb hHeld.2.1.lt, hHeld.2.2.trans (bb.mono hHeld.2.2.size)⟩) (fun hHeld => ?_)
    clear hK K hd bb
    try simp only [Act.put, List.setIfInBounds_toArray, List.set_cons_zero, List.set_cons_succ]
    refine one_d 3 (some 9) rfl (by kernel_rfl) ?_
    intro o ho hd K hK
    cases ho
    go_simp
    refine (CF.out _).mono ?_
    rintro e v2 ⟨rfl, bb⟩
    have hHeld' := hHeld
    clear hHeld
    have hHeld := hHeld'
    clear hHeld'
    refine hK.out _ _ (⟨hHeld.1.below bb hHeld.1.lt, hHeld.2.1.below bb hHeld.2.1.lt, hHeld.2.2.trans (bb.mono hHeld.2.2.size)⟩) (fun hHeld => ?_)
    clear hK K hd bb
    try simp only [Act.put, List.setIfInBounds_toArray, List.set_cons_zero, List.set_cons_succ]
    refine take_d 4 (some 10) (.bool true) rfl (by kernel_rfl) (by kernel_rfl) (by kernel_rfl) (fun _ _ _ h => h) (fun oi h => by cases h; exact Or.inl ⟨by rfl, fun w' hS' => by go_simp⟩) hHeld ?_
    try simp only [Act.put, List.setIfInBounds_toArray, List.set_cons_zero, List.set_cons_succ]
    refine wpAnyH_done (by kernel_rfl) ?_ _
    try simp only [Act.put]
    have hb := hHeld.2.2
    go_wp2
    go_ret
    exact ⟨rfl, hb⟩

end Go.Proofs.Ytggkkahifoccfaa
