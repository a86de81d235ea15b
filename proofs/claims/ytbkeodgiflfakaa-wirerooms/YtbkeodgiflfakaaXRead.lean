/-
  Layer 9: the part that a body is.
-/
import Derived.Test.YtbkeodgiflfakaaXCut
import Derived.Test.YtbkeodgiflfakaaXPart
namespace Go.Proofs.Ytbkeodgiflfakaa
open Go.RowKit
set_option linter.unusedVariables false
set_option maxRecDepth 20000

set_option maxHeartbeats 2000000 in
theorem read_short (s : ByteArray) (hs : s.size < 14) (w : World) :
    Calls Try.prog 15 #[.string s] w fun e w' => e = .returned (.tuple #[.agg #[.int .u16 0, .int .u16 0, .int .u64 0, .int .i64 0, .bool false, .string ⟨#[]⟩], .int .i64 3]) ∧ Below w.heap.size w w' := by
  have CC : Hid (∀ (b : Nat) (wx : World), b < wx.heap.size → wx.cell? ⟨b, 0, none⟩ = some (.int .i64 2) → wx.cell? ⟨b, 1, none⟩ = some (.int .i64 2) → wx.cell? ⟨b, 2, none⟩ = some (.int .i64 8) → wx.cell? ⟨b, 3, none⟩ = some (.int .i64 2) → Calls Try.prog 30 #[.string s, .slice (some ⟨b, 0, none⟩) 4 4] wx fun e w' => e = .returned (.tuple #[.slice none 0 0, .int .i64 3]) ∧ Below wx.heap.size wx w') := fun b wx h h0 h1 h2 h3 => cutFour_no s hs b wx h h0 h1 h2 h3
  have r0 : Row (w.alloc (.cells #[.int .u16 0, .int .u16 0, .int .u64 0, .int .i64 0, .bool false, .string ⟨#[]⟩] 38 (0, 0))) w.heap.size 38 [.int .u16 0, .int .u16 0, .int .u64 0, .int .i64 0, .bool false, .string ⟨#[]⟩] := Row.new' rfl rfl
  have b0 : Below w.heap.size w (w.alloc (.cells #[.int .u16 0, .int .u16 0, .int .u64 0, .int .i64 0, .bool false, .string ⟨#[]⟩] 38 (0, 0))) := (Below.refl _ _).alloc (Nat.le_refl _) _
  go_enter Try.func15, Try.ntmps15
  go_wp2_with fail
  refine (CC.out _ _ ?c0 ?c1 ?c2 ?c3 ?c4).mono ?_
  case c0 => simp
  case c1 => simp
  case c2 => simp
  case c3 => simp
  case c4 => simp
  rintro e w1 ⟨rfl, hb⟩
  have r1 := (r0.alloc (.cells #[.int .i64 2, .int .i64 2, .int .i64 8, .int .i64 2] 3 (0, 0))).below hb (by simp; omega)
  have hb1 : Below w.heap.size w w1 := (b0.alloc b0.size (.cells #[.int .i64 2, .int .i64 2, .int .i64 8, .int .i64 2] 3 (0, 0))).trans (hb.mono (by simp; omega))
  clear hb r0 b0
  go_wp2_with (first
    | refine wpList_store_row rfl 38 (.tmp 2) (.tmp 17) rfl w.heap.size _ rfl rfl _ _ r1 infoPart rfl (by simp [Value.oneCell']) ?_)
  exact bodyPost_ret (results_row_tmp rfl _ _ w.heap.size 38 [.int .u16 0, .int .u16 0, .int .u64 0, .int .i64 0, .bool false, .string ⟨#[]⟩] _ rfl (r1.setRow _) Try.underlying38 rfl infoPart) rfl ⟨rfl, below_row hb1 (Nat.le_refl _) _⟩

/-- What Read answers of a body of 14 bytes or more. -/
def readC (s : List UInt8) : List Value := if pFaultE ((X9.fN s % 32768 : Nat) : Int) (X9.fT s).length ≠ 0 then [.int .u16 0, .int .u16 0, .int .u64 0, .int .i64 0, .bool false, .string ⟨#[]⟩] else
  [.int .u16 (X9.fSt s : Int), .int .u16 (X9.fRe s : Int), .int .u64 (X9.fNm s : Int), .int .i64 ((X9.fN s % 32768 : Nat) : Int), .bool (decide (32768 ≤ X9.fN s)), .string ⟨(X9.fT s).toArray⟩]

set_option maxHeartbeats 8000000 in
theorem read_long (s : ByteArray) (hs : 14 ≤ s.size) (hs' : s.size ≤ 281474976710656) (w : World) :
    Calls Try.prog 15 #[.string s] w fun e w' => e = .returned (.tuple #[.agg (readC s.data.toList).toArray, .int .i64 (pFaultE ((X9.fN s.data.toList % 32768 : Nat) : Int) (X9.fT s.data.toList).length)]) ∧ Below w.heap.size w w' := by
  have hl : s.data.toList.length = s.size := by simp
  have C0 : Hid (∀ wx, Calls Try.prog 31 #[.string ⟨(s.data.toList.take 2).toArray⟩] wx fun e w' => e = .returned (.int .u64 (X9.fSt s.data.toList : Int)) ∧ w' = wx) := fun wx => number9_any ⟨(s.data.toList.take 2).toArray⟩ (by rw [X9.szL, List.length_take]; omega) (by rw [X9.szL, List.length_take]; omega) wx
  have C1 : Hid (∀ wx, Calls Try.prog 31 #[.string ⟨((s.data.toList.drop 2).take 2).toArray⟩] wx fun e w' => e = .returned (.int .u64 (X9.fRe s.data.toList : Int)) ∧ w' = wx) := fun wx => number9_any ⟨((s.data.toList.drop 2).take 2).toArray⟩ (by rw [X9.szL]; simp only [List.length_take, List.length_drop]; omega) (by rw [X9.szL, List.length_take]; omega) wx
  have C2 : Hid (∀ wx, Calls Try.prog 31 #[.string ⟨(((s.data.toList.drop 2).drop 2).take 8).toArray⟩] wx fun e w' => e = .returned (.int .u64 (X9.fNm s.data.toList : Int)) ∧ w' = wx) := fun wx => number9_any ⟨(((s.data.toList.drop 2).drop 2).take 8).toArray⟩ (by rw [X9.szL]; simp only [List.length_take, List.length_drop]; omega) (by rw [X9.szL, List.length_take]; omega) wx
  have C3 : Hid (∀ wx, Calls Try.prog 31 #[.string ⟨((((s.data.toList.drop 2).drop 2).drop 8).take 2).toArray⟩] wx fun e w' => e = .returned (.int .u64 (X9.fN s.data.toList : Int)) ∧ w' = wx) := fun wx => number9_any ⟨((((s.data.toList.drop 2).drop 2).drop 8).take 2).toArray⟩ (by rw [X9.szL]; simp only [List.length_take, List.length_drop]; omega) (by rw [X9.szL, List.length_take]; omega) wx
  have CC : Hid (∀ (b : Nat) (wx : World), b < wx.heap.size → wx.cell? ⟨b, 0, none⟩ = some (.int .i64 2) → wx.cell? ⟨b, 1, none⟩ = some (.int .i64 2) → wx.cell? ⟨b, 2, none⟩ = some (.int .i64 8) → wx.cell? ⟨b, 3, none⟩ = some (.int .i64 2) → Calls Try.prog 30 #[.string s, .slice (some ⟨b, 0, none⟩) 4 4] wx fun e w' => e = .returned (.tuple #[.slice (some ⟨wx.heap.size, 0, none⟩) 5 5, .int .i64 0]) ∧
      (w'.cell? ⟨wx.heap.size, 0, none⟩ = some (.string ⟨(s.data.toList.take 2).toArray⟩) ∧ w'.cell? ⟨wx.heap.size, 1, none⟩ = some (.string ⟨((s.data.toList.drop 2).take 2).toArray⟩) ∧ w'.cell? ⟨wx.heap.size, 2, none⟩ = some (.string ⟨(((s.data.toList.drop 2).drop 2).take 8).toArray⟩) ∧ w'.cell? ⟨wx.heap.size, 3, none⟩ = some (.string ⟨((((s.data.toList.drop 2).drop 2).drop 8).take 2).toArray⟩) ∧ w'.cell? ⟨wx.heap.size, 4, none⟩ = some (.string ⟨(X9.fT s.data.toList).toArray⟩)) ∧ Below wx.heap.size wx w') := fun b wx h h0 h1 h2 h3 => (cutFour s (by omega) (by omega) b wx h h0 h1 h2 h3).mono fun e w' ⟨he, ho, hb⟩ => ⟨he, ⟨ownsAt ho 0 (by decide) _ rfl, ownsAt ho 1 (by decide) _ rfl, ownsAt ho 2 (by decide) _ rfl, ownsAt ho 3 (by decide) _ rfl, ownsAt ho 4 (by decide) _ rfl⟩, hb⟩
  have h1 := X9.fSt_lt s.data.toList
  have h2 := X9.fRe_lt s.data.toList
  have h3 := X9.fNm_lt s.data.toList
  have h4 := X9.fN_lt s.data.toList
  have h5 : (⟨(X9.fT s.data.toList).toArray⟩ : ByteArray).size ≤ 9223372036854775807 := by rw [X9.szL, X9.fT_length]; omega
  have CF : Hid (∀ wx, Calls Try.prog 32 #[.agg #[.int .u16 (X9.fSt s.data.toList : Int), .int .u16 (X9.fRe s.data.toList : Int), .int .u64 (X9.fNm s.data.toList : Int), .int .i64 ((X9.fN s.data.toList % 32768 : Nat) : Int), .bool (decide (32768 ≤ X9.fN s.data.toList)), .string ⟨(X9.fT s.data.toList).toArray⟩]] wx fun e w' => e = .returned (.int .i64 (pFaultE ((X9.fN s.data.toList % 32768 : Nat) : Int) (X9.fT s.data.toList).length)) ∧ Below wx.heap.size wx w') := fun wx => by
    have := pFault_any (X9.fSt s.data.toList) (X9.fRe s.data.toList) (X9.fNm s.data.toList) ((X9.fN s.data.toList % 32768 : Nat) : Int) (decide (32768 ≤ X9.fN s.data.toList)) ⟨(X9.fT s.data.toList).toArray⟩ h5 wx
    rwa [X9.szL] at this
  have hn1 := X9.ix_not (X9.fN s.data.toList) h4
  have hn2 := X9.ix_and (X9.fN s.data.toList) h4
  unfold readC
  generalize X9.fSt s.data.toList = st at *
  generalize X9.fRe s.data.toList = re at *
  generalize X9.fNm s.data.toList = nm at *
  generalize X9.fN s.data.toList = n at *
  generalize pFaultE ((n % 32768 : Nat) : Int) (X9.fT s.data.toList).length = E at *
  generalize (⟨(X9.fT s.data.toList).toArray⟩ : ByteArray) = f4 at *
  generalize (⟨(s.data.toList.take 2).toArray⟩ : ByteArray) = f0 at *
  generalize (⟨((s.data.toList.drop 2).take 2).toArray⟩ : ByteArray) = f1 at *
  generalize (⟨(((s.data.toList.drop 2).drop 2).take 8).toArray⟩ : ByteArray) = f2 at *
  generalize (⟨((((s.data.toList.drop 2).drop 2).drop 8).take 2).toArray⟩ : ByteArray) = f3 at *
  have hx1 : n % 32768 < 32768 := by omega
  obtain ⟨la, hla⟩ : ∃ la, la = decide (32768 ≤ n) := ⟨_, rfl⟩
  have hla2 : decide (¬ bits .and .u64 (n : Int) 32768 = 0) = la := by
    rw [hn2, hla]
    by_cases g : 32768 ≤ n
    · rw [if_pos g]; simp [g]
    · rw [if_neg g]; simp [g]
  have hla3 : (bits .and .u64 (n : Int) 32768 != 0) = la := by
    rw [← hla2]
    by_cases g : bits .and .u64 (n : Int) 32768 = 0
    · simp [g]
    · simp [g]
  rw [← hla] at CF
  rw [← hla]
  clear hla hl hn2
  generalize hA : bits .and .u64 (n : Int) 32768 = A at *
  generalize hB : n % 32768 = ix at *
  have r0 : Row (w.alloc (.cells #[.int .u16 0, .int .u16 0, .int .u64 0, .int .i64 0, .bool false, .string ⟨#[]⟩] 38 (0, 0))) w.heap.size 38 [.int .u16 0, .int .u16 0, .int .u64 0, .int .i64 0, .bool false, .string ⟨#[]⟩] := Row.new' rfl rfl
  have b0 : Below w.heap.size w (w.alloc (.cells #[.int .u16 0, .int .u16 0, .int .u64 0, .int .i64 0, .bool false, .string ⟨#[]⟩] 38 (0, 0))) := (Below.refl _ _).alloc (Nat.le_refl _) _
  go_enter Try.func15, Try.ntmps15
  go_wp2_with fail
  refine (CC.out _ _ ?c0 ?c1 ?c2 ?c3 ?c4).mono ?_
  case c0 => simp
  case c1 => simp
  case c2 => simp
  case c3 => simp
  case c4 => simp
  rintro e w1 ⟨rfl, hc, hb⟩
  have r1 := (r0.alloc (.cells #[.int .i64 2, .int .i64 2, .int .i64 8, .int .i64 2] 3 (0, 0))).below hb (by simp; omega)
  have hb1 : Below w.heap.size w w1 := (b0.alloc b0.size (.cells #[.int .i64 2, .int .i64 2, .int .i64 8, .int .i64 2] 3 (0, 0))).trans (hb.mono (by simp; omega))
  have hz1 : w.heap.size + 1 + 1 ≤ w1.heap.size := by have := hb.size; simpa using this
  simp only [World.size_alloc] at hc
  have k3 := hc.2.2.2.1
  clear hb r0 b0
  go_wp2_with fail
  refine (C3.out _).mono ?_
  rintro e w2 ⟨rfl, rfl⟩
  clear k3
  have hG2 := block_lt hc.1
  go_wp2_with fail
  refine wp_region_held_drew (S := fun w' => (w'.cell? ⟨(w.heap.size + 1 + 1), 0, none⟩ = some (.string f0) ∧ w'.cell? ⟨(w.heap.size + 1 + 1), 1, none⟩ = some (.string f1) ∧ w'.cell? ⟨(w.heap.size + 1 + 1), 2, none⟩ = some (.string f2) ∧ w'.cell? ⟨(w.heap.size + 1 + 1), 4, none⟩ = some (.string f4))) (by kernel_rfl) (⟨hc.1, hc.2.1, hc.2.2.1, hc.2.2.2.2⟩) (fun hHeld => ?_)
  refine take_d 0 (some 23) (.slice (some ⟨(w.heap.size + 1 + 1), 0, none⟩) 5 5) rfl (by kernel_rfl) (by kernel_rfl) (by kernel_rfl) (fun _ _ _ h => h) (fun oi h => by cases h; exact Or.inl ⟨by rfl, fun w' hS' => by go_simp⟩) hHeld ?_
  try simp only [Act.put, List.setIfInBounds_toArray, List.set_cons_zero, List.set_cons_succ]
  refine take_d 1 (some 24) (.pointer (some ⟨(w.heap.size + 1 + 1), 0, none⟩)) rfl (by kernel_rfl) (by kernel_rfl) (by kernel_rfl) (fun _ _ _ h => h) (fun oi h => by cases h; exact Or.inl ⟨by rfl, fun w' hS' => by go_simp⟩) hHeld ?_
  try simp only [Act.put, List.setIfInBounds_toArray, List.set_cons_zero, List.set_cons_succ]
  refine take_d 2 (some 25) (.string f0) rfl (by kernel_rfl) (by kernel_rfl) (by kernel_rfl) (fun _ _ _ h => h) (fun oi h => by cases h; exact Or.inl ⟨by rfl, fun w' hS' => by have c : w'.cell? ⟨(w.heap.size + 1 + 1), 0, none⟩ = some (.string f0) := hS'.1; go_simp⟩) hHeld ?_
  try simp only [Act.put, List.setIfInBounds_toArray, List.set_cons_zero, List.set_cons_succ]
  refine take_d 5 (some 28) (.slice (some ⟨(w.heap.size + 1 + 1), 0, none⟩) 5 5) rfl (by kernel_rfl) (by kernel_rfl) (by kernel_rfl) (fun _ _ _ h => h) (fun oi h => by cases h; exact Or.inl ⟨by rfl, fun w' hS' => by go_simp⟩) hHeld ?_
  try simp only [Act.put, List.setIfInBounds_toArray, List.set_cons_zero, List.set_cons_succ]
  refine take_d 6 (some 29) (.pointer (some ⟨(w.heap.size + 1 + 1), 1, none⟩)) rfl (by kernel_rfl) (by kernel_rfl) (by kernel_rfl) (fun _ _ _ h => h) (fun oi h => by cases h; exact Or.inl ⟨by rfl, fun w' hS' => by go_simp⟩) hHeld ?_
  try simp only [Act.put, List.setIfInBounds_toArray, List.set_cons_zero, List.set_cons_succ]
  refine take_d 7 (some 30) (.string f1) rfl (by kernel_rfl) (by kernel_rfl) (by kernel_rfl) (fun _ _ _ h => h) (fun oi h => by cases h; exact Or.inl ⟨by rfl, fun w' hS' => by have c : w'.cell? ⟨(w.heap.size + 1 + 1), 1, none⟩ = some (.string f1) := hS'.2.1; go_simp⟩) hHeld ?_
  try simp only [Act.put, List.setIfInBounds_toArray, List.set_cons_zero, List.set_cons_succ]
  refine take_d 10 (some 33) (.slice (some ⟨(w.heap.size + 1 + 1), 0, none⟩) 5 5) rfl (by kernel_rfl) (by kernel_rfl) (by kernel_rfl) (fun _ _ _ h => h) (fun oi h => by cases h; exact Or.inl ⟨by rfl, fun w' hS' => by go_simp⟩) hHeld ?_
  try simp only [Act.put, List.setIfInBounds_toArray, List.set_cons_zero, List.set_cons_succ]
  refine take_d 11 (some 34) (.pointer (some ⟨(w.heap.size + 1 + 1), 2, none⟩)) rfl (by kernel_rfl) (by kernel_rfl) (by kernel_rfl) (fun _ _ _ h => h) (fun oi h => by cases h; exact Or.inl ⟨by rfl, fun w' hS' => by go_simp⟩) hHeld ?_
  try simp only [Act.put, List.setIfInBounds_toArray, List.set_cons_zero, List.set_cons_succ]
  refine take_d 12 (some 35) (.string f2) rfl (by kernel_rfl) (by kernel_rfl) (by kernel_rfl) (fun _ _ _ h => h) (fun oi h => by cases h; exact Or.inl ⟨by rfl, fun w' hS' => by have c : w'.cell? ⟨(w.heap.size + 1 + 1), 2, none⟩ = some (.string f2) := hS'.2.2.1; go_simp⟩) hHeld ?_
  try simp only [Act.put, List.setIfInBounds_toArray, List.set_cons_zero, List.set_cons_succ]
  refine take_d 14 (some 37) (.int .u64 (n : Int)) rfl (by kernel_rfl) (by kernel_rfl) (by kernel_rfl) (fun _ _ _ h => h) (fun oi h => by cases h; exact Or.inl ⟨by rfl, fun w' hS' => by go_simp⟩) hHeld ?_
  try simp only [Act.put, List.setIfInBounds_toArray, List.set_cons_zero, List.set_cons_succ]
  refine take_d 15 (some 38) (.int .u64 (ix : Int)) rfl (by kernel_rfl) (by kernel_rfl) (by kernel_rfl) (fun _ _ _ h => h) (fun oi h => by cases h; exact Or.inl ⟨by rfl, fun w' hS' => by go_simp⟩) hHeld ?_
  try simp only [Act.put, List.setIfInBounds_toArray, List.set_cons_zero, List.set_cons_succ]
  refine take_d 16 (some 39) (.int .i64 (ix : Int)) rfl (by kernel_rfl) (by kernel_rfl) (by kernel_rfl) (fun _ _ _ h => h) (fun oi h => by cases h; exact Or.inl ⟨by rfl, fun w' hS' => by have hq : IntKind.i64.wrap (ix : Int) = (ix : Int) := (by rw [IntKind.wrap_i64]; omega); go_simp⟩) hHeld ?_
  try simp only [Act.put, List.setIfInBounds_toArray, List.set_cons_zero, List.set_cons_succ]
  refine take_d 17 (some 40) (.int .u64 (n : Int)) rfl (by kernel_rfl) (by kernel_rfl) (by kernel_rfl) (fun _ _ _ h => h) (fun oi h => by cases h; exact Or.inl ⟨by rfl, fun w' hS' => by go_simp⟩) hHeld ?_
  try simp only [Act.put, List.setIfInBounds_toArray, List.set_cons_zero, List.set_cons_succ]
  refine take_d 18 (some 41) (.int .u64 A) rfl (by kernel_rfl) (by kernel_rfl) (by kernel_rfl) (fun _ _ _ h => h) (fun oi h => by cases h; exact Or.inl ⟨by rfl, fun w' hS' => by go_simp⟩) hHeld ?_
  try simp only [Act.put, List.setIfInBounds_toArray, List.set_cons_zero, List.set_cons_succ]
  refine take_d 19 (some 42) (.bool la) rfl (by kernel_rfl) (by kernel_rfl) (by kernel_rfl) (fun _ _ _ h => h) (fun oi h => by cases h; exact Or.inl ⟨by rfl, fun w' hS' => by have hq := hla3; go_simp⟩) hHeld ?_
  try simp only [Act.put, List.setIfInBounds_toArray, List.set_cons_zero, List.set_cons_succ]
  refine take_d 20 (some 43) (.slice (some ⟨(w.heap.size + 1 + 1), 0, none⟩) 5 5) rfl (by kernel_rfl) (by kernel_rfl) (by kernel_rfl) (fun _ _ _ h => h) (fun oi h => by cases h; exact Or.inl ⟨by rfl, fun w' hS' => by go_simp⟩) hHeld ?_
  try simp only [Act.put, List.setIfInBounds_toArray, List.set_cons_zero, List.set_cons_succ]
  refine take_d 21 (some 44) (.pointer (some ⟨(w.heap.size + 1 + 1), 4, none⟩)) rfl (by kernel_rfl) (by kernel_rfl) (by kernel_rfl) (fun _ _ _ h => h) (fun oi h => by cases h; exact Or.inl ⟨by rfl, fun w' hS' => by go_simp⟩) hHeld ?_
  try simp only [Act.put, List.setIfInBounds_toArray, List.set_cons_zero, List.set_cons_succ]
  refine take_d 22 (some 45) (.string f4) rfl (by kernel_rfl) (by kernel_rfl) (by kernel_rfl) (fun _ _ _ h => h) (fun oi h => by cases h; exact Or.inl ⟨by rfl, fun w' hS' => by have c : w'.cell? ⟨(w.heap.size + 1 + 1), 4, none⟩ = some (.string f4) := hS'.2.2.2; go_simp⟩) hHeld ?_
  try simp only [Act.put, List.setIfInBounds_toArray, List.set_cons_zero, List.set_cons_succ]
  refine cut_here9 (G := ?G) ?tree ?lf
  case tree =>
    intro leaf
    refine two_d 3 24 rfl rfl (by kernel_rfl) ?_ ?_
    · intro K hK
      go_simp
      refine (C0.out _).mono ?_
      rintro e wq ⟨rfl, rfl⟩
      refine hK.out _ _ hHeld (fun hHeld => ?_)
      clear hK K
      try simp only [Act.put, List.setIfInBounds_toArray, List.set_cons_zero, List.set_cons_succ]
      refine take_d 4 (some 27) (.int .u16 (st : Int)) rfl (by kernel_rfl) (by kernel_rfl) (by kernel_rfl) (fun _ _ _ h => h) (fun oi h => by cases h; exact Or.inl ⟨by rfl, fun w' hS' => by have hq : IntKind.u16.wrap (st : Int) = (st : Int) := (by rw [IntKind.wrap_u16]; omega); go_simp⟩) hHeld ?_
      try simp only [Act.put, List.setIfInBounds_toArray, List.set_cons_zero, List.set_cons_succ]
      refine two_d 8 24 rfl rfl (by kernel_rfl) ?_ ?_
      · intro K hK
        go_simp
        refine (C1.out _).mono ?_
        rintro e wq ⟨rfl, rfl⟩
        refine hK.out _ _ hHeld (fun hHeld => ?_)
        clear hK K
        try simp only [Act.put, List.setIfInBounds_toArray, List.set_cons_zero, List.set_cons_succ]
        refine take_d 9 (some 32) (.int .u16 (re : Int)) rfl (by kernel_rfl) (by kernel_rfl) (by kernel_rfl) (fun _ _ _ h => h) (fun oi h => by cases h; exact Or.inl ⟨by rfl, fun w' hS' => by have hq : IntKind.u16.wrap (re : Int) = (re : Int) := (by rw [IntKind.wrap_u16]; omega); go_simp⟩) hHeld ?_
        try simp only [Act.put, List.setIfInBounds_toArray, List.set_cons_zero, List.set_cons_succ]
        refine two_d 13 24 rfl rfl (by kernel_rfl) ?_ ?_
        · intro K hK
          go_simp
          refine (C2.out _).mono ?_
          rintro e wq ⟨rfl, rfl⟩
          refine hK.out _ _ hHeld (fun hHeld => ?_)
          clear hK K
          try simp only [Act.put, List.setIfInBounds_toArray, List.set_cons_zero, List.set_cons_succ]
          refine take_d 23 (some 46) (.agg #[.int .u16 (st : Int), .int .u16 (re : Int), .int .u64 (nm : Int), .int .i64 (ix : Int), .bool la, .string f4]) rfl (by kernel_rfl) (by kernel_rfl) (by kernel_rfl) (fun _ _ _ h => h) (fun oi h => by cases h; exact Or.inl ⟨by rfl, fun w' hS' => by go_simp⟩) hHeld ?_
          try simp only [Act.put, List.setIfInBounds_toArray, List.set_cons_zero, List.set_cons_succ]
          refine one_d 24 (some 7) rfl (by kernel_rfl) ?_
          intro o ho hd
          cases ho
          clear hd
          intro K hK
          go_simp
          refine hK.out _ _ (⟨cell_alloc hHeld.1, cell_alloc hHeld.2.1, cell_alloc hHeld.2.2.1, cell_alloc hHeld.2.2.2⟩) (fun hHeld => ?_)
          clear hK K
          try simp only [Act.put, List.setIfInBounds_toArray, List.set_cons_zero, List.set_cons_succ]
          exact leaf.out
        · intro K hK
          go_simp
          refine hK.out _ _ (⟨cell_alloc hHeld.1, cell_alloc hHeld.2.1, cell_alloc hHeld.2.2.1, cell_alloc hHeld.2.2.2⟩) (fun hHeld => ?_)
          clear hK K
          try simp only [Act.put, List.setIfInBounds_toArray, List.set_cons_zero, List.set_cons_succ]
          refine one_d 13 (some 36) rfl (by kernel_rfl) ?_
          intro o ho hd
          cases ho
          clear hd
          intro K hK
          go_simp
          refine (C2.out _).mono ?_
          rintro e wq ⟨rfl, rfl⟩
          refine hK.out _ _ hHeld (fun hHeld => ?_)
          clear hK K
          try simp only [Act.put, List.setIfInBounds_toArray, List.set_cons_zero, List.set_cons_succ]
          refine take_d 23 (some 46) (.agg #[.int .u16 (st : Int), .int .u16 (re : Int), .int .u64 (nm : Int), .int .i64 (ix : Int), .bool la, .string f4]) rfl (by kernel_rfl) (by kernel_rfl) (by kernel_rfl) (fun _ _ _ h => h) (fun oi h => by cases h; exact Or.inl ⟨by rfl, fun w' hS' => by go_simp⟩) hHeld ?_
          try simp only [Act.put, List.setIfInBounds_toArray, List.set_cons_zero, List.set_cons_succ]
          exact leaf.out
      · intro K hK
        go_simp
        refine hK.out _ _ (⟨cell_alloc hHeld.1, cell_alloc hHeld.2.1, cell_alloc hHeld.2.2.1, cell_alloc hHeld.2.2.2⟩) (fun hHeld => ?_)
        clear hK K
        try simp only [Act.put, List.setIfInBounds_toArray, List.set_cons_zero, List.set_cons_succ]
        refine one_d 8 (some 31) rfl (by kernel_rfl) ?_
        intro o ho hd
        cases ho
        clear hd
        intro K hK
        go_simp
        refine (C1.out _).mono ?_
        rintro e wq ⟨rfl, rfl⟩
        refine hK.out _ _ hHeld (fun hHeld => ?_)
        clear hK K
        try simp only [Act.put, List.setIfInBounds_toArray, List.set_cons_zero, List.set_cons_succ]
        refine take_d 9 (some 32) (.int .u16 (re : Int)) rfl (by kernel_rfl) (by kernel_rfl) (by kernel_rfl) (fun _ _ _ h => h) (fun oi h => by cases h; exact Or.inl ⟨by rfl, fun w' hS' => by have hq : IntKind.u16.wrap (re : Int) = (re : Int) := (by rw [IntKind.wrap_u16]; omega); go_simp⟩) hHeld ?_
        try simp only [Act.put, List.setIfInBounds_toArray, List.set_cons_zero, List.set_cons_succ]
        refine one_d 13 (some 36) rfl (by kernel_rfl) ?_
        intro o ho hd
        cases ho
        clear hd
        intro K hK
        go_simp
        refine (C2.out _).mono ?_
        rintro e wq ⟨rfl, rfl⟩
        refine hK.out _ _ hHeld (fun hHeld => ?_)
        clear hK K
        try simp only [Act.put, List.setIfInBounds_toArray, List.set_cons_zero, List.set_cons_succ]
        refine take_d 23 (some 46) (.agg #[.int .u16 (st : Int), .int .u16 (re : Int), .int .u64 (nm : Int), .int .i64 (ix : Int), .bool la, .string f4]) rfl (by kernel_rfl) (by kernel_rfl) (by kernel_rfl) (fun _ _ _ h => h) (fun oi h => by cases h; exact Or.inl ⟨by rfl, fun w' hS' => by go_simp⟩) hHeld ?_
        try simp only [Act.put, List.setIfInBounds_toArray, List.set_cons_zero, List.set_cons_succ]
        exact leaf.out
    · intro K hK
      go_simp
      refine hK.out _ _ (⟨cell_alloc hHeld.1, cell_alloc hHeld.2.1, cell_alloc hHeld.2.2.1, cell_alloc hHeld.2.2.2⟩) (fun hHeld => ?_)
      clear hK K
      try simp only [Act.put, List.setIfInBounds_toArray, List.set_cons_zero, List.set_cons_succ]
      refine one_d 3 (some 26) rfl (by kernel_rfl) ?_
      intro o ho hd
      cases ho
      clear hd
      intro K hK
      go_simp
      refine (C0.out _).mono ?_
      rintro e wq ⟨rfl, rfl⟩
      refine hK.out _ _ hHeld (fun hHeld => ?_)
      clear hK K
      try simp only [Act.put, List.setIfInBounds_toArray, List.set_cons_zero, List.set_cons_succ]
      refine take_d 4 (some 27) (.int .u16 (st : Int)) rfl (by kernel_rfl) (by kernel_rfl) (by kernel_rfl) (fun _ _ _ h => h) (fun oi h => by cases h; exact Or.inl ⟨by rfl, fun w' hS' => by have hq : IntKind.u16.wrap (st : Int) = (st : Int) := (by rw [IntKind.wrap_u16]; omega); go_simp⟩) hHeld ?_
      try simp only [Act.put, List.setIfInBounds_toArray, List.set_cons_zero, List.set_cons_succ]
      refine one_d 8 (some 31) rfl (by kernel_rfl) ?_
      intro o ho hd
      cases ho
      clear hd
      intro K hK
      go_simp
      refine (C1.out _).mono ?_
      rintro e wq ⟨rfl, rfl⟩
      refine hK.out _ _ hHeld (fun hHeld => ?_)
      clear hK K
      try simp only [Act.put, List.setIfInBounds_toArray, List.set_cons_zero, List.set_cons_succ]
      refine take_d 9 (some 32) (.int .u16 (re : Int)) rfl (by kernel_rfl) (by kernel_rfl) (by kernel_rfl) (fun _ _ _ h => h) (fun oi h => by cases h; exact Or.inl ⟨by rfl, fun w' hS' => by have hq : IntKind.u16.wrap (re : Int) = (re : Int) := (by rw [IntKind.wrap_u16]; omega); go_simp⟩) hHeld ?_
      try simp only [Act.put, List.setIfInBounds_toArray, List.set_cons_zero, List.set_cons_succ]
      refine one_d 13 (some 36) rfl (by kernel_rfl) ?_
      intro o ho hd
      cases ho
      clear hd
      intro K hK
      go_simp
      refine (C2.out _).mono ?_
      rintro e wq ⟨rfl, rfl⟩
      refine hK.out _ _ hHeld (fun hHeld => ?_)
      clear hK K
      try simp only [Act.put, List.setIfInBounds_toArray, List.set_cons_zero, List.set_cons_succ]
      refine take_d 23 (some 46) (.agg #[.int .u16 (st : Int), .int .u16 (re : Int), .int .u64 (nm : Int), .int .i64 (ix : Int), .bool la, .string f4]) rfl (by kernel_rfl) (by kernel_rfl) (by kernel_rfl) (fun _ _ _ h => h) (fun oi h => by cases h; exact Or.inl ⟨by rfl, fun w' hS' => by go_simp⟩) hHeld ?_
      try simp only [Act.put, List.setIfInBounds_toArray, List.set_cons_zero, List.set_cons_succ]
      exact leaf.out
  case lf =>
    have ao := fun {p : Addr} {v : Value} (h : w2.drew.cell? p = some v) => cell_alloc (o := .cells #[.int .u16 0, .int .u16 0, .int .u64 0, .int .i64 0, .bool false, .string ⟨#[]⟩] 38 (0, 0)) h
    have hHeld := And.intro (ao hHeld.1) (And.intro (ao hHeld.2.1) (And.intro (ao hHeld.2.2.1) (ao hHeld.2.2.2)))
    clear ao
    refine one_d 25 none rfl (by kernel_rfl) ?_
    intro o ho hd K hK
    cases ho
    rw [if_pos (by rfl)]
    have rp0 : Row (w2.alloc (.cells #[.int .u16 0, .int .u16 0, .int .u64 0, .int .i64 0, .bool false, .string ⟨#[]⟩] 38 (0, 0))).drew w2.heap.size 38 [.int .u16 0, .int .u16 0, .int .u64 0, .int .i64 0, .bool false, .string ⟨#[]⟩] := Row.drew (Row.new' rfl rfl)
    refine wp_store_row 38 (.tmp 7) (.tmp 46) rfl w2.heap.size _ rfl rfl _ _ rp0 infoPart rfl (by simp [Value.oneCell']) ?_
    have rp := rp0.setRow [.int .u16 (st : Int), .int .u16 (re : Int), .int .u64 (nm : Int), .int .i64 (ix : Int), .bool la, .string f4]
    have hlt1 := r1.lt
    have rr := (r1.alloc (.cells #[.int .u16 0, .int .u16 0, .int .u64 0, .int .i64 0, .bool false, .string ⟨#[]⟩] 38 (0, 0))).drew.setRow_other (k := w2.heap.size) (by omega) #[.int .u16 (st : Int), .int .u16 (re : Int), .int .u64 (nm : Int), .int .i64 (ix : Int), .bool la, .string f4]
    have hbp := below_row (hb1.alloc hb1.size (.cells #[.int .u16 0, .int .u16 0, .int .u64 0, .int .i64 0, .bool false, .string ⟨#[]⟩] 38 (0, 0))).drew hb1.size #[.int .u16 (st : Int), .int .u16 (re : Int), .int .u64 (nm : Int), .int .i64 (ix : Int), .bool la, .string f4]
    refine hK.out _ _ ⟨cell_setRow hHeld.1 (by omega) _, cell_setRow hHeld.2.1 (by omega) _, cell_setRow hHeld.2.2.1 (by omega) _, cell_setRow hHeld.2.2.2 (by omega) _⟩ (fun hHeld => ?_)
    clear hK K hd hHeld rp0 hb1 r1
    generalize (w2.alloc (.cells #[.int .u16 0, .int .u16 0, .int .u64 0, .int .i64 0, .bool false, .string ⟨#[]⟩] 38 (0, 0))).drew.setRow w2.heap.size #[.int .u16 (st : Int), .int .u16 (re : Int), .int .u64 (nm : Int), .int .i64 (ix : Int), .bool la, .string f4] = w4 at *
    try simp only [Act.put]
    refine wpAnyH_done (by kernel_rfl) ?_ _
    try simp only [Act.put]
    go_wp2_with (first
      | refine wpList_load_row rfl 38 (.tmp 7) rfl w2.heap.size rfl _ _ _ _ rp Try.underlying38 rfl infoPart ?_)
    refine (CF.out _).mono ?_
    rintro e w5 ⟨rfl, b5⟩
    have rp5 := rp.below b5 rp.lt
    have rr5 := rr.below b5 rr.lt
    have hb5 := hbp.trans (b5.mono hbp.size)
    clear b5 rp rr hbp
    by_cases hE : E = 0
    · subst hE
      go_wp2_with (first
        | refine wpList_load_row rfl 38 (.tmp 7) rfl w2.heap.size rfl _ _ _ _ rp5 Try.underlying38 rfl infoPart ?_
        | refine wpList_store_row rfl 38 (.tmp 2) (.tmp 53) rfl w.heap.size _ rfl rfl _ _ rr5 infoPart rfl (by simp [Value.oneCell']) ?_)
      exact bodyPost_ret (results_row_tmp rfl _ _ w.heap.size 38 [.int .u16 (st : Int), .int .u16 (re : Int), .int .u64 (nm : Int), .int .i64 (ix : Int), .bool la, .string f4] _ rfl (rr5.setRow _) Try.underlying38 rfl infoPart) rfl ⟨rfl, below_row hb5 (Nat.le_refl _) _⟩
    · go_wp2_with (first
        | refine wpList_store_row rfl 38 (.tmp 2) (.tmp 51) rfl w.heap.size _ rfl rfl _ _ rr5 infoPart rfl (by simp [Value.oneCell']) ?_)
      exact bodyPost_ret (results_row_tmp rfl _ _ w.heap.size 38 [.int .u16 0, .int .u16 0, .int .u64 0, .int .i64 0, .bool false, .string ⟨#[]⟩] _ rfl (rr5.setRow _) Try.underlying38 rfl infoPart) rfl ⟨rfl, below_row hb5 (Nat.le_refl _) _⟩

end Go.Proofs.Ytbkeodgiflfakaa
