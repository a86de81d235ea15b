/-
  Layer 9: the document's Read.
-/
import Derived.Test.YtbkeodgiflfakaaMod18
namespace Go.Proofs.Ytbkeodgiflfakaa
open Go.RowKit
set_option linter.unusedVariables false
set_option maxRecDepth 20000

theorem infoRPart : (Try.prog.info? 40).map (·.size) = some 6 := by kernel_rfl

set_option maxHeartbeats 2000000 in
theorem refRead_short (s : ByteArray) (hs : s.size < 14) (w : World) :
    Calls Try.prog 16 #[.string s] w fun e w' => e = .returned (.tuple #[.agg #[.int .u16 0, .int .u16 0, .int .u64 0, .int .i64 0, .bool false, .string ⟨#[]⟩], .int .i64 3]) ∧ Below w.heap.size w w' := by
  have r0 : Row (w.alloc (.cells #[.int .u16 0, .int .u16 0, .int .u64 0, .int .i64 0, .bool false, .string ⟨#[]⟩] 40 (0, 0))) w.heap.size 40 [.int .u16 0, .int .u16 0, .int .u64 0, .int .i64 0, .bool false, .string ⟨#[]⟩] := Row.new' rfl rfl
  have b0 : Below w.heap.size w (w.alloc (.cells #[.int .u16 0, .int .u16 0, .int .u64 0, .int .i64 0, .bool false, .string ⟨#[]⟩] 40 (0, 0))) := (Below.refl _ _).alloc (Nat.le_refl _) _
  have h1 : (s.size : Int) < 14 := by omega
  go_enter Try.func16, Try.ntmps16
  go_wp2_with fail
  exact bodyPost_ret (results_row_tmp rfl _ _ w.heap.size 40 [.int .u16 0, .int .u16 0, .int .u64 0, .int .i64 0, .bool false, .string ⟨#[]⟩] _ rfl r0 Try.underlying40 rfl infoRPart) rfl ⟨rfl, b0⟩

set_option maxHeartbeats 8000000 in
theorem refRead_long (s : ByteArray) (hs : 14 ≤ s.size) (hs' : s.size ≤ 281474976710656) (w : World) :
    Calls Try.prog 16 #[.string s] w fun e w' => e = .returned (.tuple #[.agg (readC s.data.toList).toArray, .int .i64 (pFaultE ((X9.fN s.data.toList % 32768 : Nat) : Int) (X9.fT s.data.toList).length)]) ∧ Below w.heap.size w w' := by
  have hl : s.data.toList.length = s.size := by simp
  have C0 : Hid (∀ wx, Calls Try.prog 11 #[.string ⟨(s.data.toList.take 2).toArray⟩] wx fun e w' => e = .returned (.int .u64 (X9.fSt s.data.toList : Int)) ∧ w' = wx) := fun wx => refGet_any ⟨(s.data.toList.take 2).toArray⟩ (by rw [X9.szL, List.length_take]; omega) wx
  have C1 : Hid (∀ wx, Calls Try.prog 11 #[.string ⟨((s.data.toList.drop 2).take 2).toArray⟩] wx fun e w' => e = .returned (.int .u64 (X9.fRe s.data.toList : Int)) ∧ w' = wx) := fun wx => refGet_any ⟨((s.data.toList.drop 2).take 2).toArray⟩ (by rw [X9.szL, List.length_take]; omega) wx
  have C2 : Hid (∀ wx, Calls Try.prog 11 #[.string ⟨(((s.data.toList.drop 2).drop 2).take 8).toArray⟩] wx fun e w' => e = .returned (.int .u64 (X9.fNm s.data.toList : Int)) ∧ w' = wx) := fun wx => refGet_any ⟨(((s.data.toList.drop 2).drop 2).take 8).toArray⟩ (by rw [X9.szL, List.length_take]; omega) wx
  have C3 : Hid (∀ wx, Calls Try.prog 11 #[.string ⟨((((s.data.toList.drop 2).drop 2).drop 8).take 2).toArray⟩] wx fun e w' => e = .returned (.int .u64 (X9.fN s.data.toList : Int)) ∧ w' = wx) := fun wx => refGet_any ⟨((((s.data.toList.drop 2).drop 2).drop 8).take 2).toArray⟩ (by rw [X9.szL, List.length_take]; omega) wx
  have ex0 : s.extract 0 2 = ⟨(s.data.toList.take 2).toArray⟩ := Go.WideShapes.bytes_inj (by simp [ByteArray.data_extract])
  have ex1 : s.extract 2 4 = ⟨((s.data.toList.drop 2).take 2).toArray⟩ := Go.WideShapes.bytes_inj (by simp [ByteArray.data_extract])
  have ex2 : s.extract 4 12 = ⟨(((s.data.toList.drop 2).drop 2).take 8).toArray⟩ := Go.WideShapes.bytes_inj (by simp [ByteArray.data_extract])
  have ex3 : s.extract 12 14 = ⟨((((s.data.toList.drop 2).drop 2).drop 8).take 2).toArray⟩ := Go.WideShapes.bytes_inj (by simp [ByteArray.data_extract])
  have ex4 : s.extract 14 s.size = ⟨(X9.fT s.data.toList).toArray⟩ := Go.WideShapes.bytes_inj (by simp [ByteArray.data_extract, X9.fT]; exact List.take_of_length_le (by simp))
  have h1 := X9.fSt_lt s.data.toList
  have h2 := X9.fRe_lt s.data.toList
  have h3 := X9.fNm_lt s.data.toList
  have h4 := X9.fN_lt s.data.toList
  have h5 : (⟨(X9.fT s.data.toList).toArray⟩ : ByteArray).size ≤ 9223372036854775807 := by rw [X9.szL, X9.fT_length]; omega
  have CF : Hid (∀ wx, Calls Try.prog 13 #[.agg #[.int .u16 (X9.fSt s.data.toList : Int), .int .u16 (X9.fRe s.data.toList : Int), .int .u64 (X9.fNm s.data.toList : Int), .int .i64 ((X9.fN s.data.toList % 32768 : Nat) : Int), .bool (decide (32768 ≤ X9.fN s.data.toList)), .string ⟨(X9.fT s.data.toList).toArray⟩]] wx fun e w' => e = .returned (.int .i64 (pFaultE ((X9.fN s.data.toList % 32768 : Nat) : Int) (X9.fT s.data.toList).length)) ∧ Below wx.heap.size wx w') := fun wx => by
    have := refCheck_any (X9.fSt s.data.toList) (X9.fRe s.data.toList) (X9.fNm s.data.toList) ((X9.fN s.data.toList % 32768 : Nat) : Int) (decide (32768 ≤ X9.fN s.data.toList)) ⟨(X9.fT s.data.toList).toArray⟩ h5 wx
    rwa [X9.szL] at this
  unfold readC
  generalize X9.fSt s.data.toList = st at *
  generalize X9.fRe s.data.toList = re at *
  generalize X9.fNm s.data.toList = nm at *
  generalize X9.fN s.data.toList = n at *
  generalize pFaultE ((n % 32768 : Nat) : Int) (X9.fT s.data.toList).length = E at *
  generalize (⟨(X9.fT s.data.toList).toArray⟩ : ByteArray) = f4 at *
  generalize (⟨(s.data.toList.take 2).toArray⟩ : ByteArray) = f0 at *
  generalize (⟨((s.data.toList.drop 2).take 2).toArray⟩ : ByteArray) = f1 at *
  generalize (⟨(((s.data.toList.drop 2).drop 2).take 8).toArray⟩ : ByteArray) = f2 at *
  generalize (⟨((((s.data.toList.drop 2).drop 2).drop 8).take 2).toArray⟩ : ByteArray) = f3 at *
  have hx1 : n % 32768 < 32768 := by omega
  have hmod : (n : Int) % 32768 = ((n % 32768 : Nat) : Int) := by omega
  have htm : (n : Int).tmod 32768 = ((n % 32768 : Nat) : Int) := by rw [Int.tmod_eq_emod_of_nonneg (by omega)]; omega
  obtain ⟨la, hla⟩ : ∃ la, la = decide (32768 ≤ n) := ⟨_, rfl⟩
  have hla2 : decide ((32768 : Int) ≤ (n : Int)) = la := by rw [hla]; apply decide_eq_decide.2; omega
  rw [← hla] at CF
  rw [← hla]
  have hla3 : decide (32768 ≤ n) = la := hla.symm
  clear hla hl
  have s1 : ¬ (s.size : Int) < 14 := by omega
  have r0 : Row (w.alloc (.cells #[.int .u16 0, .int .u16 0, .int .u64 0, .int .i64 0, .bool false, .string ⟨#[]⟩] 40 (0, 0))) w.heap.size 40 [.int .u16 0, .int .u16 0, .int .u64 0, .int .i64 0, .bool false, .string ⟨#[]⟩] := Row.new' rfl rfl
  have b0 : Below w.heap.size w (w.alloc (.cells #[.int .u16 0, .int .u16 0, .int .u64 0, .int .i64 0, .bool false, .string ⟨#[]⟩] 40 (0, 0))) := (Below.refl _ _).alloc (Nat.le_refl _) _
  obtain ⟨w1, hw1⟩ : ∃ w1, w1 = w.alloc (.cells #[.int .u16 0, .int .u16 0, .int .u64 0, .int .i64 0, .bool false, .string ⟨#[]⟩] 40 (0, 0)) := ⟨_, rfl⟩
  rw [← hw1] at r0 b0
  go_enter Try.func16, Try.ntmps16
  go_wp2_with fail
  rw [← hw1]
  clear hw1
  refine (C3.out _).mono ?_
  rintro e w2 ⟨rfl, rfl⟩
  go_wp2_with fail
  generalize hB : n % 32768 = ix at *
  refine wp_region_held_drew (S := fun w' => True) (by kernel_rfl) trivial (fun hHeld => ?_)
  refine take_d 0 (some 15) (.string s) rfl (by kernel_rfl) (by kernel_rfl) (by kernel_rfl) (fun _ _ _ h => h) (fun oi h => by cases h; exact Or.inl ⟨by rfl, fun w' hS' => by go_simp⟩) hHeld ?_
  try simp only [Act.put, List.setIfInBounds_toArray, List.set_cons_zero, List.set_cons_succ]
  refine take_d 1 (some 16) (.string f0) rfl (by kernel_rfl) (by kernel_rfl) (by kernel_rfl) (fun _ _ _ h => h) (fun oi h => by cases h; exact Or.inl ⟨by rfl, fun w' hS' => by have i2 : ¬ (s.size : Int) < 2 := (by omega); have i4 : ¬ (s.size : Int) < 4 := (by omega); have i12 : ¬ (s.size : Int) < 12 := (by omega); have i14 : ¬ (s.size : Int) < 14 := (by omega); have b2 : ¬ s.size < 2 := (by omega); have b4 : ¬ s.size < 4 := (by omega); have b12 : ¬ s.size < 12 := (by omega); have b14 : ¬ s.size < 14 := (by omega); go_simp⟩) hHeld ?_
  try simp only [Act.put, List.setIfInBounds_toArray, List.set_cons_zero, List.set_cons_succ]
  refine take_d 4 (some 19) (.string s) rfl (by kernel_rfl) (by kernel_rfl) (by kernel_rfl) (fun _ _ _ h => h) (fun oi h => by cases h; exact Or.inl ⟨by rfl, fun w' hS' => by go_simp⟩) hHeld ?_
  try simp only [Act.put, List.setIfInBounds_toArray, List.set_cons_zero, List.set_cons_succ]
  refine take_d 5 (some 20) (.string f1) rfl (by kernel_rfl) (by kernel_rfl) (by kernel_rfl) (fun _ _ _ h => h) (fun oi h => by cases h; exact Or.inl ⟨by rfl, fun w' hS' => by have i2 : ¬ (s.size : Int) < 2 := (by omega); have i4 : ¬ (s.size : Int) < 4 := (by omega); have i12 : ¬ (s.size : Int) < 12 := (by omega); have i14 : ¬ (s.size : Int) < 14 := (by omega); have b2 : ¬ s.size < 2 := (by omega); have b4 : ¬ s.size < 4 := (by omega); have b12 : ¬ s.size < 12 := (by omega); have b14 : ¬ s.size < 14 := (by omega); go_simp⟩) hHeld ?_
  try simp only [Act.put, List.setIfInBounds_toArray, List.set_cons_zero, List.set_cons_succ]
  refine take_d 8 (some 23) (.string s) rfl (by kernel_rfl) (by kernel_rfl) (by kernel_rfl) (fun _ _ _ h => h) (fun oi h => by cases h; exact Or.inl ⟨by rfl, fun w' hS' => by go_simp⟩) hHeld ?_
  try simp only [Act.put, List.setIfInBounds_toArray, List.set_cons_zero, List.set_cons_succ]
  refine take_d 9 (some 24) (.string f2) rfl (by kernel_rfl) (by kernel_rfl) (by kernel_rfl) (fun _ _ _ h => h) (fun oi h => by cases h; exact Or.inl ⟨by rfl, fun w' hS' => by have i2 : ¬ (s.size : Int) < 2 := (by omega); have i4 : ¬ (s.size : Int) < 4 := (by omega); have i12 : ¬ (s.size : Int) < 12 := (by omega); have i14 : ¬ (s.size : Int) < 14 := (by omega); have b2 : ¬ s.size < 2 := (by omega); have b4 : ¬ s.size < 4 := (by omega); have b12 : ¬ s.size < 12 := (by omega); have b14 : ¬ s.size < 14 := (by omega); go_simp⟩) hHeld ?_
  try simp only [Act.put, List.setIfInBounds_toArray, List.set_cons_zero, List.set_cons_succ]
  refine take_d 11 (some 26) (.int .i64 (n : Int)) rfl (by kernel_rfl) (by kernel_rfl) (by kernel_rfl) (fun _ _ _ h => h) (fun oi h => by cases h; exact Or.inl ⟨by rfl, fun w' hS' => by go_simp⟩) hHeld ?_
  try simp only [Act.put, List.setIfInBounds_toArray, List.set_cons_zero, List.set_cons_succ]
  refine take_d 12 (some 27) (.int .i64 (ix : Int)) rfl (by kernel_rfl) (by kernel_rfl) (by kernel_rfl) (fun _ _ _ h => h) (fun oi h => by cases h; exact Or.inl ⟨by rfl, fun w' hS' => by go_simp⟩) hHeld ?_
  try simp only [Act.put, List.setIfInBounds_toArray, List.set_cons_zero, List.set_cons_succ]
  refine take_d 13 (some 28) (.int .i64 (n : Int)) rfl (by kernel_rfl) (by kernel_rfl) (by kernel_rfl) (fun _ _ _ h => h) (fun oi h => by cases h; exact Or.inl ⟨by rfl, fun w' hS' => by go_simp⟩) hHeld ?_
  try simp only [Act.put, List.setIfInBounds_toArray, List.set_cons_zero, List.set_cons_succ]
  refine take_d 14 (some 29) (.bool la) rfl (by kernel_rfl) (by kernel_rfl) (by kernel_rfl) (fun _ _ _ h => h) (fun oi h => by cases h; exact Or.inl ⟨by rfl, fun w' hS' => by go_simp⟩) hHeld ?_
  try simp only [Act.put, List.setIfInBounds_toArray, List.set_cons_zero, List.set_cons_succ]
  refine take_d 15 (some 30) (.string s) rfl (by kernel_rfl) (by kernel_rfl) (by kernel_rfl) (fun _ _ _ h => h) (fun oi h => by cases h; exact Or.inl ⟨by rfl, fun w' hS' => by go_simp⟩) hHeld ?_
  try simp only [Act.put, List.setIfInBounds_toArray, List.set_cons_zero, List.set_cons_succ]
  refine take_d 16 (some 31) (.string f4) rfl (by kernel_rfl) (by kernel_rfl) (by kernel_rfl) (fun _ _ _ h => h) (fun oi h => by cases h; exact Or.inl ⟨by rfl, fun w' hS' => by have i2 : ¬ (s.size : Int) < 2 := (by omega); have i4 : ¬ (s.size : Int) < 4 := (by omega); have i12 : ¬ (s.size : Int) < 12 := (by omega); have i14 : ¬ (s.size : Int) < 14 := (by omega); have b2 : ¬ s.size < 2 := (by omega); have b4 : ¬ s.size < 4 := (by omega); have b12 : ¬ s.size < 12 := (by omega); have b14 : ¬ s.size < 14 := (by omega); go_simp⟩) hHeld ?_
  try simp only [Act.put, List.setIfInBounds_toArray, List.set_cons_zero, List.set_cons_succ]
  refine cut_here9 (G := ?G) ?tree ?lf
  case tree =>
    intro leaf
    refine two_d 2 18 rfl rfl (by kernel_rfl) ?_ ?_
    · intro K hK
      go_simp
      refine (C0.out _).mono ?_
      rintro e wq ⟨rfl, rfl⟩
      refine hK.out _ _ hHeld (fun hHeld => ?_)
      clear hK K
      try simp only [Act.put, List.setIfInBounds_toArray, List.set_cons_zero, List.set_cons_succ]
      refine take_d 3 (some 18) (.int .u16 (st : Int)) rfl (by kernel_rfl) (by kernel_rfl) (by kernel_rfl) (fun _ _ _ h => h) (fun oi h => by cases h; exact Or.inl ⟨by rfl, fun w' hS' => by have hq : IntKind.u16.wrap (st : Int) = (st : Int) := (by rw [IntKind.wrap_u16]; omega); go_simp⟩) hHeld ?_
      try simp only [Act.put, List.setIfInBounds_toArray, List.set_cons_zero, List.set_cons_succ]
      refine two_d 6 18 rfl rfl (by kernel_rfl) ?_ ?_
      · intro K hK
        go_simp
        refine (C1.out _).mono ?_
        rintro e wq ⟨rfl, rfl⟩
        refine hK.out _ _ hHeld (fun hHeld => ?_)
        clear hK K
        try simp only [Act.put, List.setIfInBounds_toArray, List.set_cons_zero, List.set_cons_succ]
        refine take_d 7 (some 22) (.int .u16 (re : Int)) rfl (by kernel_rfl) (by kernel_rfl) (by kernel_rfl) (fun _ _ _ h => h) (fun oi h => by cases h; exact Or.inl ⟨by rfl, fun w' hS' => by have hq : IntKind.u16.wrap (re : Int) = (re : Int) := (by rw [IntKind.wrap_u16]; omega); go_simp⟩) hHeld ?_
        try simp only [Act.put, List.setIfInBounds_toArray, List.set_cons_zero, List.set_cons_succ]
        refine two_d 10 18 rfl rfl (by kernel_rfl) ?_ ?_
        · intro K hK
          go_simp
          refine (C2.out _).mono ?_
          rintro e wq ⟨rfl, rfl⟩
          refine hK.out _ _ hHeld (fun hHeld => ?_)
          clear hK K
          try simp only [Act.put, List.setIfInBounds_toArray, List.set_cons_zero, List.set_cons_succ]
          refine take_d 17 (some 32) (.agg #[.int .u16 (st : Int), .int .u16 (re : Int), .int .u64 (nm : Int), .int .i64 (ix : Int), .bool la, .string f4]) rfl (by kernel_rfl) (by kernel_rfl) (by kernel_rfl) (fun _ _ _ h => h) (fun oi h => by cases h; exact Or.inl ⟨by rfl, fun w' hS' => by go_simp⟩) hHeld ?_
          try simp only [Act.put, List.setIfInBounds_toArray, List.set_cons_zero, List.set_cons_succ]
          refine one_d 18 (some 5) rfl (by kernel_rfl) ?_
          intro o ho hd
          cases ho
          clear hd
          intro K hK
          go_simp
          refine hK.out _ _ (trivial) (fun hHeld => ?_)
          clear hK K
          try simp only [Act.put, List.setIfInBounds_toArray, List.set_cons_zero, List.set_cons_succ]
          exact leaf.out
        · intro K hK
          go_simp
          refine hK.out _ _ (trivial) (fun hHeld => ?_)
          clear hK K
          try simp only [Act.put, List.setIfInBounds_toArray, List.set_cons_zero, List.set_cons_succ]
          refine one_d 10 (some 25) rfl (by kernel_rfl) ?_
          intro o ho hd
          cases ho
          clear hd
          intro K hK
          go_simp
          refine (C2.out _).mono ?_
          rintro e wq ⟨rfl, rfl⟩
          refine hK.out _ _ hHeld (fun hHeld => ?_)
          clear hK K
          try simp only [Act.put, List.setIfInBounds_toArray, List.set_cons_zero, List.set_cons_succ]
          refine take_d 17 (some 32) (.agg #[.int .u16 (st : Int), .int .u16 (re : Int), .int .u64 (nm : Int), .int .i64 (ix : Int), .bool la, .string f4]) rfl (by kernel_rfl) (by kernel_rfl) (by kernel_rfl) (fun _ _ _ h => h) (fun oi h => by cases h; exact Or.inl ⟨by rfl, fun w' hS' => by go_simp⟩) hHeld ?_
          try simp only [Act.put, List.setIfInBounds_toArray, List.set_cons_zero, List.set_cons_succ]
          exact leaf.out
      · intro K hK
        go_simp
        refine hK.out _ _ (trivial) (fun hHeld => ?_)
        clear hK K
        try simp only [Act.put, List.setIfInBounds_toArray, List.set_cons_zero, List.set_cons_succ]
        refine one_d 6 (some 21) rfl (by kernel_rfl) ?_
        intro o ho hd
        cases ho
        clear hd
        intro K hK
        go_simp
        refine (C1.out _).mono ?_
        rintro e wq ⟨rfl, rfl⟩
        refine hK.out _ _ hHeld (fun hHeld => ?_)
        clear hK K
        try simp only [Act.put, List.setIfInBounds_toArray, List.set_cons_zero, List.set_cons_succ]
        refine take_d 7 (some 22) (.int .u16 (re : Int)) rfl (by kernel_rfl) (by kernel_rfl) (by kernel_rfl) (fun _ _ _ h => h) (fun oi h => by cases h; exact Or.inl ⟨by rfl, fun w' hS' => by have hq : IntKind.u16.wrap (re : Int) = (re : Int) := (by rw [IntKind.wrap_u16]; omega); go_simp⟩) hHeld ?_
        try simp only [Act.put, List.setIfInBounds_toArray, List.set_cons_zero, List.set_cons_succ]
        refine one_d 10 (some 25) rfl (by kernel_rfl) ?_
        intro o ho hd
        cases ho
        clear hd
        intro K hK
        go_simp
        refine (C2.out _).mono ?_
        rintro e wq ⟨rfl, rfl⟩
        refine hK.out _ _ hHeld (fun hHeld => ?_)
        clear hK K
        try simp only [Act.put, List.setIfInBounds_toArray, List.set_cons_zero, List.set_cons_succ]
        refine take_d 17 (some 32) (.agg #[.int .u16 (st : Int), .int .u16 (re : Int), .int .u64 (nm : Int), .int .i64 (ix : Int), .bool la, .string f4]) rfl (by kernel_rfl) (by kernel_rfl) (by kernel_rfl) (fun _ _ _ h => h) (fun oi h => by cases h; exact Or.inl ⟨by rfl, fun w' hS' => by go_simp⟩) hHeld ?_
        try simp only [Act.put, List.setIfInBounds_toArray, List.set_cons_zero, List.set_cons_succ]
        exact leaf.out
    · intro K hK
      go_simp
      refine hK.out _ _ (trivial) (fun hHeld => ?_)
      clear hK K
      try simp only [Act.put, List.setIfInBounds_toArray, List.set_cons_zero, List.set_cons_succ]
      refine one_d 2 (some 17) rfl (by kernel_rfl) ?_
      intro o ho hd
      cases ho
      clear hd
      intro K hK
      go_simp
      refine (C0.out _).mono ?_
      rintro e wq ⟨rfl, rfl⟩
      refine hK.out _ _ hHeld (fun hHeld => ?_)
      clear hK K
      try simp only [Act.put, List.setIfInBounds_toArray, List.set_cons_zero, List.set_cons_succ]
      refine take_d 3 (some 18) (.int .u16 (st : Int)) rfl (by kernel_rfl) (by kernel_rfl) (by kernel_rfl) (fun _ _ _ h => h) (fun oi h => by cases h; exact Or.inl ⟨by rfl, fun w' hS' => by have hq : IntKind.u16.wrap (st : Int) = (st : Int) := (by rw [IntKind.wrap_u16]; omega); go_simp⟩) hHeld ?_
      try simp only [Act.put, List.setIfInBounds_toArray, List.set_cons_zero, List.set_cons_succ]
      refine one_d 6 (some 21) rfl (by kernel_rfl) ?_
      intro o ho hd
      cases ho
      clear hd
      intro K hK
      go_simp
      refine (C1.out _).mono ?_
      rintro e wq ⟨rfl, rfl⟩
      refine hK.out _ _ hHeld (fun hHeld => ?_)
      clear hK K
      try simp only [Act.put, List.setIfInBounds_toArray, List.set_cons_zero, List.set_cons_succ]
      refine take_d 7 (some 22) (.int .u16 (re : Int)) rfl (by kernel_rfl) (by kernel_rfl) (by kernel_rfl) (fun _ _ _ h => h) (fun oi h => by cases h; exact Or.inl ⟨by rfl, fun w' hS' => by have hq : IntKind.u16.wrap (re : Int) = (re : Int) := (by rw [IntKind.wrap_u16]; omega); go_simp⟩) hHeld ?_
      try simp only [Act.put, List.setIfInBounds_toArray, List.set_cons_zero, List.set_cons_succ]
      refine one_d 10 (some 25) rfl (by kernel_rfl) ?_
      intro o ho hd
      cases ho
      clear hd
      intro K hK
      go_simp
      refine (C2.out _).mono ?_
      rintro e wq ⟨rfl, rfl⟩
      refine hK.out _ _ hHeld (fun hHeld => ?_)
      clear hK K
      try simp only [Act.put, List.setIfInBounds_toArray, List.set_cons_zero, List.set_cons_succ]
      refine take_d 17 (some 32) (.agg #[.int .u16 (st : Int), .int .u16 (re : Int), .int .u64 (nm : Int), .int .i64 (ix : Int), .bool la, .string f4]) rfl (by kernel_rfl) (by kernel_rfl) (by kernel_rfl) (fun _ _ _ h => h) (fun oi h => by cases h; exact Or.inl ⟨by rfl, fun w' hS' => by go_simp⟩) hHeld ?_
      try simp only [Act.put, List.setIfInBounds_toArray, List.set_cons_zero, List.set_cons_succ]
      exact leaf.out
  case lf =>
    refine one_d 19 none rfl (by kernel_rfl) ?_
    intro o ho hd K hK
    cases ho
    rw [if_pos (by rfl)]
    have rp0 : Row (w2.alloc (.cells #[.int .u16 0, .int .u16 0, .int .u64 0, .int .i64 0, .bool false, .string ⟨#[]⟩] 40 (0, 0))).drew w2.heap.size 40 [.int .u16 0, .int .u16 0, .int .u64 0, .int .i64 0, .bool false, .string ⟨#[]⟩] := Row.drew (Row.new' rfl rfl)
    refine wp_store_row 40 (.tmp 5) (.tmp 32) rfl w2.heap.size _ rfl rfl _ _ rp0 infoRPart rfl (by simp [Value.oneCell']) ?_
    have rp := rp0.setRow [.int .u16 (st : Int), .int .u16 (re : Int), .int .u64 (nm : Int), .int .i64 (ix : Int), .bool la, .string f4]
    have hlt1 := r0.lt
    have rr := (r0.alloc (.cells #[.int .u16 0, .int .u16 0, .int .u64 0, .int .i64 0, .bool false, .string ⟨#[]⟩] 40 (0, 0))).drew.setRow_other (k := w2.heap.size) (by omega) #[.int .u16 (st : Int), .int .u16 (re : Int), .int .u64 (nm : Int), .int .i64 (ix : Int), .bool la, .string f4]
    have hbp := below_row (b0.alloc b0.size (.cells #[.int .u16 0, .int .u16 0, .int .u64 0, .int .i64 0, .bool false, .string ⟨#[]⟩] 40 (0, 0))).drew b0.size #[.int .u16 (st : Int), .int .u16 (re : Int), .int .u64 (nm : Int), .int .i64 (ix : Int), .bool la, .string f4]
    refine hK.out _ _ trivial (fun hHeld => ?_)
    clear hK K hd hHeld rp0 b0 r0
    generalize (w2.alloc (.cells #[.int .u16 0, .int .u16 0, .int .u64 0, .int .i64 0, .bool false, .string ⟨#[]⟩] 40 (0, 0))).drew.setRow w2.heap.size #[.int .u16 (st : Int), .int .u16 (re : Int), .int .u64 (nm : Int), .int .i64 (ix : Int), .bool la, .string f4] = w4 at *
    try simp only [Act.put]
    refine wpAnyH_done (by kernel_rfl) ?_ _
    try simp only [Act.put]
    go_wp2_with (first
      | refine wpList_load_row rfl 40 (.tmp 5) rfl w2.heap.size rfl _ _ _ _ rp Try.underlying40 rfl infoRPart ?_)
    refine (CF.out _).mono ?_
    rintro e w5 ⟨rfl, b5⟩
    have rp5 := rp.below b5 rp.lt
    have rr5 := rr.below b5 rr.lt
    have hb5 := hbp.trans (b5.mono hbp.size)
    clear b5 rp rr hbp
    by_cases hE : E = 0
    · subst hE
      go_wp2_with (first
        | refine wpList_load_row rfl 40 (.tmp 5) rfl w2.heap.size rfl _ _ _ _ rp5 Try.underlying40 rfl infoRPart ?_
        | refine wpList_store_row rfl 40 (.tmp 2) (.tmp 39) rfl w.heap.size _ rfl rfl _ _ rr5 infoRPart rfl (by simp [Value.oneCell']) ?_)
      exact bodyPost_ret (results_row_tmp rfl _ _ w.heap.size 40 [.int .u16 (st : Int), .int .u16 (re : Int), .int .u64 (nm : Int), .int .i64 (ix : Int), .bool la, .string f4] _ rfl (rr5.setRow _) Try.underlying40 rfl infoRPart) rfl ⟨rfl, below_row hb5 (Nat.le_refl _) _⟩
    · go_wp2_with (first
        | refine wpList_store_row rfl 40 (.tmp 2) (.tmp 37) rfl w.heap.size _ rfl rfl _ _ rr5 infoRPart rfl (by simp [Value.oneCell']) ?_)
      exact bodyPost_ret (results_row_tmp rfl _ _ w.heap.size 40 [.int .u16 0, .int .u16 0, .int .u64 0, .int .i64 0, .bool false, .string ⟨#[]⟩] _ rfl (rr5.setRow _) Try.underlying40 rfl infoRPart) rfl ⟨rfl, below_row hb5 (Nat.le_refl _) _⟩

end Go.Proofs.Ytbkeodgiflfakaa
