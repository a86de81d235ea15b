/-
  Several texts in one module: XPart, XDgram.
-/
import Derived.Test.YtbkeodgiflfakaaMod3
import Derived.Test.YtbkeodgiflfakaaMod8
/-
  Layer 9: what is wrong with a part; its bytes.
-/
namespace Go.Proofs.Ytbkeodgiflfakaa
open Go.RowKit
set_option linter.unusedVariables false
set_option maxRecDepth 20000

def pFaultE (ix : Int) (n : Nat) : Int := if ix < 0 ∨ 31 < ix then 7 else if 466 < n then 5 else 0

set_option maxHeartbeats 2000000 in
theorem pFault_range (st re nm : Nat) (ix : Int) (la : Bool) (tx : ByteArray) (h : ix < 0 ∨ 31 < ix) (w : World) :
    Calls Try.prog 32 #[.agg #[.int .u16 (st : Int), .int .u16 (re : Int), .int .u64 (nm : Int), .int .i64 ix, .bool la, .string tx]] w fun e w' => e = .returned (.int .i64 7) ∧ Below w.heap.size w w' := by
  have b0 : Below w.heap.size w (w.alloc (.cells #[.int .u16 (st : Int), .int .u16 (re : Int), .int .u64 (nm : Int), .int .i64 ix, .bool la, .string tx] 38 (0, 0))) := (Below.refl _ _).alloc (Nat.le_refl _) _
  go_enter Try.func32, Try.ntmps32
  by_cases a : ix < 0
  · go_wp2
    go_ret
    exact ⟨rfl, b0⟩
  · have h1 : 32 ≤ ix := by omega
    go_wp2
    go_ret
    exact ⟨rfl, b0⟩

set_option maxHeartbeats 2000000 in
theorem pFault_in (st re nm : Nat) (ix : Int) (la : Bool) (tx : ByteArray) (h0 : 0 ≤ ix) (h1 : ix ≤ 31) (hm : tx.size ≤ 9223372036854775807) (w : World) :
    Calls Try.prog 32 #[.agg #[.int .u16 (st : Int), .int .u16 (re : Int), .int .u64 (nm : Int), .int .i64 ix, .bool la, .string tx]] w fun e w' => e = .returned (.int .i64 (if 466 < tx.size then 5 else 0)) ∧ Below w.heap.size w w' := by
  have r0 : Row (w.alloc (.cells #[.int .u16 (st : Int), .int .u16 (re : Int), .int .u64 (nm : Int), .int .i64 ix, .bool la, .string tx] 38 (0, 0))) w.heap.size 38 [.int .u16 (st : Int), .int .u16 (re : Int), .int .u64 (nm : Int), .int .i64 ix, .bool la, .string tx] := Row.new' rfl rfl
  have b0 : Below w.heap.size w (w.alloc (.cells #[.int .u16 (st : Int), .int .u16 (re : Int), .int .u64 (nm : Int), .int .i64 ix, .bool la, .string tx] 38 (0, 0))) := (Below.refl _ _).alloc (Nat.le_refl _) _
  obtain ⟨wa, hwa⟩ : ∃ wa, wa = w.alloc (.cells #[.int .u16 (st : Int), .int .u16 (re : Int), .int .u64 (nm : Int), .int .i64 ix, .bool la, .string tx] 38 (0, 0)) := ⟨_, rfl⟩
  rw [← hwa] at r0 b0
  have g0 : ¬ ix < 0 := by omega
  have g1 : ¬ 32 ≤ ix := by omega
  go_enter Try.func32, Try.ntmps32
  go_wp2_with fail
  rw [← hwa]
  clear hwa
  refine wp_region_held_drew (S := fun w' => Row w' w.heap.size 38 [.int .u16 (st : Int), .int .u16 (re : Int), .int .u64 (nm : Int), .int .i64 ix, .bool la, .string tx] ∧ Below w.heap.size w w') (by kernel_rfl) (⟨r0.drew, b0.drew⟩) (fun hHeld => ?_)
  refine take_d 0 (some 11) (.pointer (some ⟨w.heap.size, 5, none⟩)) rfl (by kernel_rfl) (by kernel_rfl) (by kernel_rfl) (fun _ _ _ h => h) (fun oi h => by cases h; exact Or.inl ⟨by rfl, fun w' hS' => by go_simp⟩) hHeld ?_
  try simp only [Act.put, List.setIfInBounds_toArray, List.set_cons_zero, List.set_cons_succ]
  refine take_d 1 (some 12) (.string tx) rfl (by kernel_rfl) (by kernel_rfl) (by kernel_rfl) (fun _ _ _ h => h) (fun oi h => by cases h; exact Or.inl ⟨by rfl, fun w' hS' => by have c : w'.cell? ⟨w.heap.size, 5, none⟩ = some (.string tx) := hS'.1.cell 5; go_simp⟩) hHeld ?_
  try simp only [Act.put, List.setIfInBounds_toArray, List.set_cons_zero, List.set_cons_succ]
  refine take_d 2 (some 13) (.int .i64 (tx.size : Int)) rfl (by kernel_rfl) (by kernel_rfl) (by kernel_rfl) (fun _ _ _ h => h) (fun oi h => by cases h; exact Or.inl ⟨by rfl, fun w' hS' => by go_simp⟩) hHeld ?_
  try simp only [Act.put, List.setIfInBounds_toArray, List.set_cons_zero, List.set_cons_succ]
  refine one_d 3 (some 14) rfl (by kernel_rfl) ?_
  intro o ho hd K hK
  cases ho
  go_simp
  refine (room_any _).mono ?_
  rintro e wq ⟨rfl, rfl⟩
  refine hK.out _ _ hHeld (fun hHeld => ?_)
  clear hK K hd
  try simp only [Act.put, List.setIfInBounds_toArray, List.set_cons_zero, List.set_cons_succ]
  refine take_d 4 (some 15) (.bool (decide (466 < (tx.size : Int)))) rfl (by kernel_rfl) (by kernel_rfl) (by kernel_rfl) (fun _ _ _ h => h) (fun oi h => by cases h; exact Or.inl ⟨by rfl, fun w' hS' => by go_simp⟩) hHeld ?_
  try simp only [Act.put, List.setIfInBounds_toArray, List.set_cons_zero, List.set_cons_succ]
  refine wpAnyH_done (by kernel_rfl) ?_ _
  try simp only [Act.put]
  have hb := hHeld.2
  by_cases a : 466 < tx.size
  · have a' : (466 : Int) < (tx.size : Int) := by omega
    go_wp2
    go_ret
    exact ⟨rfl, hb⟩
  · have a' : ¬ (466 : Int) < (tx.size : Int) := by omega
    go_wp2
    go_ret
    exact ⟨rfl, hb⟩

theorem pFault_any (st re nm : Nat) (ix : Int) (la : Bool) (tx : ByteArray) (hm : tx.size ≤ 9223372036854775807) (w : World) :
    Calls Try.prog 32 #[.agg #[.int .u16 (st : Int), .int .u16 (re : Int), .int .u64 (nm : Int), .int .i64 ix, .bool la, .string tx]] w fun e w' => e = .returned (.int .i64 (pFaultE ix tx.size)) ∧ Below w.heap.size w w' := by
  unfold pFaultE
  by_cases a : ix < 0 ∨ 31 < ix
  · rw [if_pos a]; exact pFault_range st re nm ix la tx a w
  · rw [if_neg a]; exact pFault_in st re nm ix la tx (by omega) (by omega) hm w

theorem infoPart : (Try.prog.info? 38).map (·.size) = some 6 := by kernel_rfl

set_option maxHeartbeats 2000000 in
theorem pBytes_no (st re nm : Nat) (ix : Int) (la : Bool) (tx : ByteArray) (h : pFaultE ix tx.size ≠ 0) (hm : tx.size ≤ 9223372036854775807) (w : World) :
    Calls Try.prog 12 #[.agg #[.int .u16 (st : Int), .int .u16 (re : Int), .int .u64 (nm : Int), .int .i64 ix, .bool la, .string tx]] w fun e w' => e = .returned (.tuple #[.string ⟨#[]⟩, .int .i64 (pFaultE ix tx.size)]) ∧ Below w.heap.size w w' := by
  have CF : Hid (∀ wx, Calls Try.prog 32 #[.agg #[.int .u16 (st : Int), .int .u16 (re : Int), .int .u64 (nm : Int), .int .i64 ix, .bool la, .string tx]] wx fun e w' => e = .returned (.int .i64 (pFaultE ix tx.size)) ∧ Below wx.heap.size wx w') := fun wx => pFault_any st re nm ix la tx hm wx
  generalize pFaultE ix tx.size = E at *
  have r0 : Row (w.alloc (.cells #[.int .u16 (st : Int), .int .u16 (re : Int), .int .u64 (nm : Int), .int .i64 ix, .bool la, .string tx] 38 (0, 0))) w.heap.size 38 [.int .u16 (st : Int), .int .u16 (re : Int), .int .u64 (nm : Int), .int .i64 ix, .bool la, .string tx] := Row.new' rfl rfl
  have b0 : Below w.heap.size w (w.alloc (.cells #[.int .u16 (st : Int), .int .u16 (re : Int), .int .u64 (nm : Int), .int .i64 ix, .bool la, .string tx] 38 (0, 0))) := (Below.refl _ _).alloc (Nat.le_refl _) _
  obtain ⟨wa, hwa⟩ : ∃ wa, wa = w.alloc (.cells #[.int .u16 (st : Int), .int .u16 (re : Int), .int .u64 (nm : Int), .int .i64 ix, .bool la, .string tx] 38 (0, 0)) := ⟨_, rfl⟩
  rw [← hwa] at r0 b0
  go_enter Try.func12, Try.ntmps12
  go_wp2_with (first
    | refine wpList_load_row rfl 38 (.tmp 1) rfl w.heap.size rfl _ _ _ _ (hwa ▸ r0) Try.underlying38 rfl infoPart ?_)
  rw [← hwa]
  clear hwa
  refine (CF.out _).mono ?_
  rintro e w1 ⟨rfl, b1⟩
  have hb := b0.trans (b1.mono b0.size)
  clear b0 b1
  go_wp2
  go_ret2
  exact ⟨rfl, hb⟩

set_option maxHeartbeats 4000000 in
theorem pBytes_mid (st re nm ix : Nat) (tx : ByteArray) (hst : st < 65536) (hre : re < 65536) (hnm : nm < 18446744073709551616) (hix : ix ≤ 31) (ht : tx.size ≤ 466) (w : World) :
    Calls Try.prog 12 #[.agg #[.int .u16 (st : Int), .int .u16 (re : Int), .int .u64 (nm : Int), .int .i64 (ix : Int), .bool false, .string tx]] w fun e w' => e = .returned (.tuple #[.string ⟨(X9.partL st re nm ix tx.data.toList).toArray⟩, .int .i64 0]) ∧ Below w.heap.size w w' := by
  have CF : Hid (∀ wx, Calls Try.prog 32 #[.agg #[.int .u16 (st : Int), .int .u16 (re : Int), .int .u64 (nm : Int), .int .i64 (ix : Int), .bool false, .string tx]] wx fun e w' => e = .returned (.int .i64 0) ∧ Below wx.heap.size wx w') := fun wx => by
    have := pFault_in st re nm ix false tx (by omega) (by omega) (by omega) wx
    rwa [if_neg (by omega)] at this
  have C1 : Hid (∀ wx, Calls Try.prog 33 #[.int .u64 (st : Int), .int .i64 2] wx fun e w' => e = .returned (.string ⟨(W.putL st 2).toArray⟩) ∧ Below wx.heap.size wx w') := fun wx => put_mid st 2 (by omega) (by decide) wx
  have C2 : Hid (∀ wx, Calls Try.prog 33 #[.int .u64 (re : Int), .int .i64 2] wx fun e w' => e = .returned (.string ⟨(W.putL re 2).toArray⟩) ∧ Below wx.heap.size wx w') := fun wx => put_mid re 2 (by omega) (by decide) wx
  have C3 : Hid (∀ wx, Calls Try.prog 33 #[.int .u64 (nm : Int), .int .i64 8] wx fun e w' => e = .returned (.string ⟨(W.putL nm 8).toArray⟩) ∧ Below wx.heap.size wx w') := fun wx => put_mid nm 8 (by omega) (by decide) wx
  have C4 : Hid (∀ wx, Calls Try.prog 33 #[.int .u64 ((ix : Nat) : Int), .int .i64 2] wx fun e w' => e = .returned (.string ⟨(W.putL ix 2).toArray⟩) ∧ Below wx.heap.size wx w') := fun wx => put_mid ix 2 (by omega) (by decide) wx
  have s1 : (⟨(W.putL st 2).toArray⟩ : ByteArray).size = 2 := by simp [ByteArray.size, W.putL_length]
  have s2 : (⟨(W.putL re 2).toArray⟩ : ByteArray).size = 2 := by simp [ByteArray.size, W.putL_length]
  have s3 : (⟨(W.putL nm 8).toArray⟩ : ByteArray).size = 8 := by simp [ByteArray.size, W.putL_length]
  have s4 : (⟨(W.putL ix 2).toArray⟩ : ByteArray).size = 2 := by simp [ByteArray.size, W.putL_length]
  have HR : Hid ((⟨(X9.partL st re nm ix tx.data.toList).toArray⟩ : ByteArray) = ⟨(W.putL st 2).toArray⟩ ++ ⟨(W.putL re 2).toArray⟩ ++ ⟨(W.putL nm 8).toArray⟩ ++ ⟨(W.putL ix 2).toArray⟩ ++ tx) := Go.WideShapes.bytes_inj (by simp [X9.partL, X9.headL])
  have hor := X9.ix_or ix (by omega)
  generalize (⟨(X9.partL st re nm ix tx.data.toList).toArray⟩ : ByteArray) = R at *
  generalize (⟨(W.putL st 2).toArray⟩ : ByteArray) = x1 at *
  generalize (⟨(W.putL re 2).toArray⟩ : ByteArray) = x2 at *
  generalize (⟨(W.putL nm 8).toArray⟩ : ByteArray) = x3 at *
  generalize (⟨(W.putL ix 2).toArray⟩ : ByteArray) = x4 at *
  have z12 : (x1 ++ x2).size = 4 := by rw [ByteArray.size_append]; omega
  have z13 : (x1 ++ x2 ++ x3).size = 12 := by rw [ByteArray.size_append]; omega
  have z14 : (x1 ++ x2 ++ x3 ++ x4).size = 14 := by rw [ByteArray.size_append]; omega
  have r0 : Row (w.alloc (.cells #[.int .u16 (st : Int), .int .u16 (re : Int), .int .u64 (nm : Int), .int .i64 (ix : Int), .bool false, .string tx] 38 (0, 0))) w.heap.size 38 [.int .u16 (st : Int), .int .u16 (re : Int), .int .u64 (nm : Int), .int .i64 (ix : Int), .bool false, .string tx] := Row.new' rfl rfl
  have b0 : Below w.heap.size w (w.alloc (.cells #[.int .u16 (st : Int), .int .u16 (re : Int), .int .u64 (nm : Int), .int .i64 (ix : Int), .bool false, .string tx] 38 (0, 0))) := (Below.refl _ _).alloc (Nat.le_refl _) _
  obtain ⟨wa, hwa⟩ : ∃ wa, wa = w.alloc (.cells #[.int .u16 (st : Int), .int .u16 (re : Int), .int .u64 (nm : Int), .int .i64 (ix : Int), .bool false, .string tx] 38 (0, 0)) := ⟨_, rfl⟩
  rw [← hwa] at r0 b0
  go_enter Try.func12, Try.ntmps12
  go_wp2_with (first
    | refine wpList_load_row rfl 38 (.tmp 1) rfl w.heap.size rfl _ _ _ _ (hwa ▸ r0) Try.underlying38 rfl infoPart ?_)
  rw [← hwa]
  clear hwa
  refine (CF.out _).mono ?_
  rintro e w1 ⟨rfl, b1⟩
  have r1 := r0.below b1 r0.lt
  have hb := b0.trans (b1.mono b0.size)
  clear b0 b1 r0
  have c3 : w1.cell? ⟨w.heap.size, 3, none⟩ = some (.int .i64 (ix : Int)) := r1.cell 3
  have c4 : w1.cell? ⟨w.heap.size, 4, none⟩ = some (.bool false) := r1.cell 4
  go_wp2_with fail
  clear c3 c4
  refine wp_region_held_drew (S := fun w' => Row w' w.heap.size 38 [.int .u16 (st : Int), .int .u16 (re : Int), .int .u64 (nm : Int), .int .i64 (ix : Int), .bool false, .string tx] ∧ Below w.heap.size w w') (by kernel_rfl) (⟨r1.drew, hb.drew⟩) (fun hHeld => ?_)
  refine take_d 0 (some 19) (.pointer (some ⟨w.heap.size, 0, none⟩)) rfl (by kernel_rfl) (by kernel_rfl) (by kernel_rfl) (fun _ _ _ h => h) (fun oi h => by cases h; exact Or.inl ⟨by rfl, fun w' hS' => by go_simp⟩) hHeld ?_
  try simp only [Act.put, List.setIfInBounds_toArray, List.set_cons_zero, List.set_cons_succ]
  refine take_d 1 (some 20) (.int .u16 (st : Int)) rfl (by kernel_rfl) (by kernel_rfl) (by kernel_rfl) (fun _ _ _ h => h) (fun oi h => by cases h; exact Or.inl ⟨by rfl, fun w' hS' => by have c : w'.cell? ⟨w.heap.size, 0, none⟩ = some (.int .u16 (st : Int)) := hS'.1.cell 0; go_simp⟩) hHeld ?_
  try simp only [Act.put, List.setIfInBounds_toArray, List.set_cons_zero, List.set_cons_succ]
  refine take_d 2 (some 21) (.int .u64 (st : Int)) rfl (by kernel_rfl) (by kernel_rfl) (by kernel_rfl) (fun _ _ _ h => h) (fun oi h => by cases h; exact Or.inl ⟨by rfl, fun w' hS' => by have hq : IntKind.u64.wrap (st : Int) = (st : Int) := (by rw [IntKind.wrap_u64]; omega); go_simp⟩) hHeld ?_
  try simp only [Act.put, List.setIfInBounds_toArray, List.set_cons_zero, List.set_cons_succ]
  refine take_d 4 (some 23) (.pointer (some ⟨w.heap.size, 1, none⟩)) rfl (by kernel_rfl) (by kernel_rfl) (by kernel_rfl) (fun _ _ _ h => h) (fun oi h => by cases h; exact Or.inl ⟨by rfl, fun w' hS' => by go_simp⟩) hHeld ?_
  try simp only [Act.put, List.setIfInBounds_toArray, List.set_cons_zero, List.set_cons_succ]
  refine take_d 5 (some 24) (.int .u16 (re : Int)) rfl (by kernel_rfl) (by kernel_rfl) (by kernel_rfl) (fun _ _ _ h => h) (fun oi h => by cases h; exact Or.inl ⟨by rfl, fun w' hS' => by have c : w'.cell? ⟨w.heap.size, 1, none⟩ = some (.int .u16 (re : Int)) := hS'.1.cell 1; go_simp⟩) hHeld ?_
  try simp only [Act.put, List.setIfInBounds_toArray, List.set_cons_zero, List.set_cons_succ]
  refine take_d 6 (some 25) (.int .u64 (re : Int)) rfl (by kernel_rfl) (by kernel_rfl) (by kernel_rfl) (fun _ _ _ h => h) (fun oi h => by cases h; exact Or.inl ⟨by rfl, fun w' hS' => by have hq : IntKind.u64.wrap (re : Int) = (re : Int) := (by rw [IntKind.wrap_u64]; omega); go_simp⟩) hHeld ?_
  try simp only [Act.put, List.setIfInBounds_toArray, List.set_cons_zero, List.set_cons_succ]
  refine one_d 3 (some 22) rfl (by kernel_rfl) ?_
  intro o ho hd K hK
  cases ho
  go_simp
  refine (C1.out _).mono ?_
  rintro e w2 ⟨rfl, bb⟩
  have hHeld' := hHeld
  clear hHeld
  have hHeld := hHeld'
  clear hHeld'
  refine hK.out _ _ (⟨hHeld.1.below bb hHeld.1.lt, hHeld.2.trans (bb.mono hHeld.2.size)⟩) (fun hHeld => ?_)
  clear hK K hd bb
  try simp only [Act.put, List.setIfInBounds_toArray, List.set_cons_zero, List.set_cons_succ]
  refine one_d 7 (some 26) rfl (by kernel_rfl) ?_
  intro o ho hd K hK
  cases ho
  go_simp
  refine (C2.out _).mono ?_
  rintro e w3 ⟨rfl, bb⟩
  have hHeld' := hHeld
  clear hHeld
  have hHeld := hHeld'
  clear hHeld'
  refine hK.out _ _ (⟨hHeld.1.below bb hHeld.1.lt, hHeld.2.trans (bb.mono hHeld.2.size)⟩) (fun hHeld => ?_)
  clear hK K hd bb
  try simp only [Act.put, List.setIfInBounds_toArray, List.set_cons_zero, List.set_cons_succ]
  refine take_d 8 (some 27) (.string (x1 ++ x2)) rfl (by kernel_rfl) (by kernel_rfl) (by kernel_rfl) (fun _ _ _ h => h) (fun oi h => by cases h; exact Or.inl ⟨by rfl, fun w' hS' => by have hq : x1.size + x2.size ≤ 9223372036854775807 := (by omega); go_simp⟩) hHeld ?_
  try simp only [Act.put, List.setIfInBounds_toArray, List.set_cons_zero, List.set_cons_succ]
  refine take_d 9 (some 6) (.string (x1 ++ x2)) rfl (by kernel_rfl) (by kernel_rfl) (by kernel_rfl) (fun _ _ _ h => h) (fun oi h => by cases h; exact Or.inl ⟨by rfl, fun w' hS' => by go_simp⟩) hHeld ?_
  try simp only [Act.put, List.setIfInBounds_toArray, List.set_cons_zero, List.set_cons_succ]
  refine wpAnyH_done (by kernel_rfl) ?_ _
  try simp only [Act.put]
  obtain ⟨r3, hb3⟩ := hHeld
  clear r1 hb
  go_wp2_with fail
  refine wp_region_held_drew (S := fun w' => Row w' w.heap.size 38 [.int .u16 (st : Int), .int .u16 (re : Int), .int .u64 (nm : Int), .int .i64 (ix : Int), .bool false, .string tx] ∧ Below w.heap.size w w') (by kernel_rfl) (⟨r3.drew, hb3.drew⟩) (fun hHeld => ?_)
  refine take_d 0 (some 28) (.string (x1 ++ x2)) rfl (by kernel_rfl) (by kernel_rfl) (by kernel_rfl) (fun _ _ _ h => h) (fun oi h => by cases h; exact Or.inl ⟨by rfl, fun w' hS' => by go_simp⟩) hHeld ?_
  try simp only [Act.put, List.setIfInBounds_toArray, List.set_cons_zero, List.set_cons_succ]
  refine take_d 1 (some 29) (.pointer (some ⟨w.heap.size, 2, none⟩)) rfl (by kernel_rfl) (by kernel_rfl) (by kernel_rfl) (fun _ _ _ h => h) (fun oi h => by cases h; exact Or.inl ⟨by rfl, fun w' hS' => by go_simp⟩) hHeld ?_
  try simp only [Act.put, List.setIfInBounds_toArray, List.set_cons_zero, List.set_cons_succ]
  refine take_d 2 (some 30) (.int .u64 (nm : Int)) rfl (by kernel_rfl) (by kernel_rfl) (by kernel_rfl) (fun _ _ _ h => h) (fun oi h => by cases h; exact Or.inl ⟨by rfl, fun w' hS' => by have c : w'.cell? ⟨w.heap.size, 2, none⟩ = some (.int .u64 (nm : Int)) := hS'.1.cell 2; go_simp⟩) hHeld ?_
  try simp only [Act.put, List.setIfInBounds_toArray, List.set_cons_zero, List.set_cons_succ]
  refine take_d 5 (some 33) (.int .u64 ((ix : Nat) : Int)) rfl (by kernel_rfl) (by kernel_rfl) (by kernel_rfl) (fun _ _ _ h => h) (fun oi h => by cases h; exact Or.inl ⟨by rfl, fun w' hS' => by go_simp⟩) hHeld ?_
  try simp only [Act.put, List.setIfInBounds_toArray, List.set_cons_zero, List.set_cons_succ]
  refine take_d 8 (some 36) (.pointer (some ⟨w.heap.size, 5, none⟩)) rfl (by kernel_rfl) (by kernel_rfl) (by kernel_rfl) (fun _ _ _ h => h) (fun oi h => by cases h; exact Or.inl ⟨by rfl, fun w' hS' => by go_simp⟩) hHeld ?_
  try simp only [Act.put, List.setIfInBounds_toArray, List.set_cons_zero, List.set_cons_succ]
  refine take_d 9 (some 37) (.string tx) rfl (by kernel_rfl) (by kernel_rfl) (by kernel_rfl) (fun _ _ _ h => h) (fun oi h => by cases h; exact Or.inl ⟨by rfl, fun w' hS' => by have c : w'.cell? ⟨w.heap.size, 5, none⟩ = some (.string tx) := hS'.1.cell 5; go_simp⟩) hHeld ?_
  try simp only [Act.put, List.setIfInBounds_toArray, List.set_cons_zero, List.set_cons_succ]
  refine one_d 3 (some 31) rfl (by kernel_rfl) ?_
  intro o ho hd K hK
  cases ho
  go_simp
  refine (C3.out _).mono ?_
  rintro e w4 ⟨rfl, bb⟩
  have hHeld' := hHeld
  clear hHeld
  have hHeld := hHeld'
  clear hHeld'
  refine hK.out _ _ (⟨hHeld.1.below bb hHeld.1.lt, hHeld.2.trans (bb.mono hHeld.2.size)⟩) (fun hHeld => ?_)
  clear hK K hd bb
  try simp only [Act.put, List.setIfInBounds_toArray, List.set_cons_zero, List.set_cons_succ]
  refine take_d 4 (some 32) (.string (x1 ++ x2 ++ x3)) rfl (by kernel_rfl) (by kernel_rfl) (by kernel_rfl) (fun _ _ _ h => h) (fun oi h => by cases h; exact Or.inl ⟨by rfl, fun w' hS' => by have hq : (x1 ++ x2).size + x3.size ≤ 9223372036854775807 := (by omega); go_simp⟩) hHeld ?_
  try simp only [Act.put, List.setIfInBounds_toArray, List.set_cons_zero, List.set_cons_succ]
  refine one_d 6 (some 34) rfl (by kernel_rfl) ?_
  intro o ho hd K hK
  cases ho
  go_simp
  refine (C4.out _).mono ?_
  rintro e w5 ⟨rfl, bb⟩
  have hHeld' := hHeld
  clear hHeld
  have hHeld := hHeld'
  clear hHeld'
  refine hK.out _ _ (⟨hHeld.1.below bb hHeld.1.lt, hHeld.2.trans (bb.mono hHeld.2.size)⟩) (fun hHeld => ?_)
  clear hK K hd bb
  try simp only [Act.put, List.setIfInBounds_toArray, List.set_cons_zero, List.set_cons_succ]
  refine take_d 7 (some 35) (.string (x1 ++ x2 ++ x3 ++ x4)) rfl (by kernel_rfl) (by kernel_rfl) (by kernel_rfl) (fun _ _ _ h => h) (fun oi h => by cases h; exact Or.inl ⟨by rfl, fun w' hS' => by have hq : (x1 ++ x2 ++ x3).size + x4.size ≤ 9223372036854775807 := (by omega); go_simp⟩) hHeld ?_
  try simp only [Act.put, List.setIfInBounds_toArray, List.set_cons_zero, List.set_cons_succ]
  refine take_d 10 (some 38) (.string (x1 ++ x2 ++ x3 ++ x4 ++ tx)) rfl (by kernel_rfl) (by kernel_rfl) (by kernel_rfl) (fun _ _ _ h => h) (fun oi h => by cases h; exact Or.inl ⟨by rfl, fun w' hS' => by have hq : 14 + tx.size ≤ 9223372036854775807 := (by omega); go_simp⟩) hHeld ?_
  try simp only [Act.put, List.setIfInBounds_toArray, List.set_cons_zero, List.set_cons_succ]
  refine take_d 11 (some 2) (.string (x1 ++ x2 ++ x3 ++ x4 ++ tx)) rfl (by kernel_rfl) (by kernel_rfl) (by kernel_rfl) (fun _ _ _ h => h) (fun oi h => by cases h; exact Or.inl ⟨by rfl, fun w' hS' => by go_simp⟩) hHeld ?_
  try simp only [Act.put, List.setIfInBounds_toArray, List.set_cons_zero, List.set_cons_succ]
  refine take_d 12 (some 3) (.int .i64 0) rfl (by kernel_rfl) (by kernel_rfl) (by kernel_rfl) (fun _ _ _ h => h) (fun oi h => by cases h; exact Or.inl ⟨by rfl, fun w' hS' => by go_simp⟩) hHeld ?_
  try simp only [Act.put, List.setIfInBounds_toArray, List.set_cons_zero, List.set_cons_succ]
  refine wpAnyH_done (by kernel_rfl) ?_ _
  try simp only [Act.put]
  have hb5 := hHeld.2
  go_wp2
  go_ret2
  exact ⟨by rw [HR.out]; rfl, hb5⟩

set_option maxHeartbeats 4000000 in
theorem pBytes_last (st re nm ix : Nat) (tx : ByteArray) (hst : st < 65536) (hre : re < 65536) (hnm : nm < 18446744073709551616) (hix : ix ≤ 31) (ht : tx.size ≤ 466) (w : World) :
    Calls Try.prog 12 #[.agg #[.int .u16 (st : Int), .int .u16 (re : Int), .int .u64 (nm : Int), .int .i64 (ix : Int), .bool true, .string tx]] w fun e w' => e = .returned (.tuple #[.string ⟨(X9.partL st re nm (ix + 32768) tx.data.toList).toArray⟩, .int .i64 0]) ∧ Below w.heap.size w w' := by
  have CF : Hid (∀ wx, Calls Try.prog 32 #[.agg #[.int .u16 (st : Int), .int .u16 (re : Int), .int .u64 (nm : Int), .int .i64 (ix : Int), .bool true, .string tx]] wx fun e w' => e = .returned (.int .i64 0) ∧ Below wx.heap.size wx w') := fun wx => by
    have := pFault_in st re nm ix true tx (by omega) (by omega) (by omega) wx
    rwa [if_neg (by omega)] at this
  have C1 : Hid (∀ wx, Calls Try.prog 33 #[.int .u64 (st : Int), .int .i64 2] wx fun e w' => e = .returned (.string ⟨(W.putL st 2).toArray⟩) ∧ Below wx.heap.size wx w') := fun wx => put_mid st 2 (by omega) (by decide) wx
  have C2 : Hid (∀ wx, Calls Try.prog 33 #[.int .u64 (re : Int), .int .i64 2] wx fun e w' => e = .returned (.string ⟨(W.putL re 2).toArray⟩) ∧ Below wx.heap.size wx w') := fun wx => put_mid re 2 (by omega) (by decide) wx
  have C3 : Hid (∀ wx, Calls Try.prog 33 #[.int .u64 (nm : Int), .int .i64 8] wx fun e w' => e = .returned (.string ⟨(W.putL nm 8).toArray⟩) ∧ Below wx.heap.size wx w') := fun wx => put_mid nm 8 (by omega) (by decide) wx
  have C4 : Hid (∀ wx, Calls Try.prog 33 #[.int .u64 (((ix + 32768) : Nat) : Int), .int .i64 2] wx fun e w' => e = .returned (.string ⟨(W.putL (ix + 32768) 2).toArray⟩) ∧ Below wx.heap.size wx w') := fun wx => put_mid (ix + 32768) 2 (by omega) (by decide) wx
  have s1 : (⟨(W.putL st 2).toArray⟩ : ByteArray).size = 2 := by simp [ByteArray.size, W.putL_length]
  have s2 : (⟨(W.putL re 2).toArray⟩ : ByteArray).size = 2 := by simp [ByteArray.size, W.putL_length]
  have s3 : (⟨(W.putL nm 8).toArray⟩ : ByteArray).size = 8 := by simp [ByteArray.size, W.putL_length]
  have s4 : (⟨(W.putL (ix + 32768) 2).toArray⟩ : ByteArray).size = 2 := by simp [ByteArray.size, W.putL_length]
  have HR : Hid ((⟨(X9.partL st re nm (ix + 32768) tx.data.toList).toArray⟩ : ByteArray) = ⟨(W.putL st 2).toArray⟩ ++ ⟨(W.putL re 2).toArray⟩ ++ ⟨(W.putL nm 8).toArray⟩ ++ ⟨(W.putL (ix + 32768) 2).toArray⟩ ++ tx) := Go.WideShapes.bytes_inj (by simp [X9.partL, X9.headL])
  have hor := X9.ix_or ix (by omega)
  generalize (⟨(X9.partL st re nm (ix + 32768) tx.data.toList).toArray⟩ : ByteArray) = R at *
  generalize (⟨(W.putL st 2).toArray⟩ : ByteArray) = x1 at *
  generalize (⟨(W.putL re 2).toArray⟩ : ByteArray) = x2 at *
  generalize (⟨(W.putL nm 8).toArray⟩ : ByteArray) = x3 at *
  generalize (⟨(W.putL (ix + 32768) 2).toArray⟩ : ByteArray) = x4 at *
  have z12 : (x1 ++ x2).size = 4 := by rw [ByteArray.size_append]; omega
  have z13 : (x1 ++ x2 ++ x3).size = 12 := by rw [ByteArray.size_append]; omega
  have z14 : (x1 ++ x2 ++ x3 ++ x4).size = 14 := by rw [ByteArray.size_append]; omega
  have r0 : Row (w.alloc (.cells #[.int .u16 (st : Int), .int .u16 (re : Int), .int .u64 (nm : Int), .int .i64 (ix : Int), .bool true, .string tx] 38 (0, 0))) w.heap.size 38 [.int .u16 (st : Int), .int .u16 (re : Int), .int .u64 (nm : Int), .int .i64 (ix : Int), .bool true, .string tx] := Row.new' rfl rfl
  have b0 : Below w.heap.size w (w.alloc (.cells #[.int .u16 (st : Int), .int .u16 (re : Int), .int .u64 (nm : Int), .int .i64 (ix : Int), .bool true, .string tx] 38 (0, 0))) := (Below.refl _ _).alloc (Nat.le_refl _) _
  obtain ⟨wa, hwa⟩ : ∃ wa, wa = w.alloc (.cells #[.int .u16 (st : Int), .int .u16 (re : Int), .int .u64 (nm : Int), .int .i64 (ix : Int), .bool true, .string tx] 38 (0, 0)) := ⟨_, rfl⟩
  rw [← hwa] at r0 b0
  go_enter Try.func12, Try.ntmps12
  go_wp2_with (first
    | refine wpList_load_row rfl 38 (.tmp 1) rfl w.heap.size rfl _ _ _ _ (hwa ▸ r0) Try.underlying38 rfl infoPart ?_)
  rw [← hwa]
  clear hwa
  refine (CF.out _).mono ?_
  rintro e w1 ⟨rfl, b1⟩
  have r1 := r0.below b1 r0.lt
  have hb := b0.trans (b1.mono b0.size)
  clear b0 b1 r0
  have c3 : w1.cell? ⟨w.heap.size, 3, none⟩ = some (.int .i64 (ix : Int)) := r1.cell 3
  have c4 : w1.cell? ⟨w.heap.size, 4, none⟩ = some (.bool true) := r1.cell 4
  go_wp2_with fail
  clear c3 c4
  refine wp_region_held_drew (S := fun w' => Row w' w.heap.size 38 [.int .u16 (st : Int), .int .u16 (re : Int), .int .u64 (nm : Int), .int .i64 (ix : Int), .bool true, .string tx] ∧ Below w.heap.size w w') (by kernel_rfl) (⟨r1.drew, hb.drew⟩) (fun hHeld => ?_)
  refine take_d 0 (some 19) (.pointer (some ⟨w.heap.size, 0, none⟩)) rfl (by kernel_rfl) (by kernel_rfl) (by kernel_rfl) (fun _ _ _ h => h) (fun oi h => by cases h; exact Or.inl ⟨by rfl, fun w' hS' => by go_simp⟩) hHeld ?_
  try simp only [Act.put, List.setIfInBounds_toArray, List.set_cons_zero, List.set_cons_succ]
  refine take_d 1 (some 20) (.int .u16 (st : Int)) rfl (by kernel_rfl) (by kernel_rfl) (by kernel_rfl) (fun _ _ _ h => h) (fun oi h => by cases h; exact Or.inl ⟨by rfl, fun w' hS' => by have c : w'.cell? ⟨w.heap.size, 0, none⟩ = some (.int .u16 (st : Int)) := hS'.1.cell 0; go_simp⟩) hHeld ?_
  try simp only [Act.put, List.setIfInBounds_toArray, List.set_cons_zero, List.set_cons_succ]
  refine take_d 2 (some 21) (.int .u64 (st : Int)) rfl (by kernel_rfl) (by kernel_rfl) (by kernel_rfl) (fun _ _ _ h => h) (fun oi h => by cases h; exact Or.inl ⟨by rfl, fun w' hS' => by have hq : IntKind.u64.wrap (st : Int) = (st : Int) := (by rw [IntKind.wrap_u64]; omega); go_simp⟩) hHeld ?_
  try simp only [Act.put, List.setIfInBounds_toArray, List.set_cons_zero, List.set_cons_succ]
  refine take_d 4 (some 23) (.pointer (some ⟨w.heap.size, 1, none⟩)) rfl (by kernel_rfl) (by kernel_rfl) (by kernel_rfl) (fun _ _ _ h => h) (fun oi h => by cases h; exact Or.inl ⟨by rfl, fun w' hS' => by go_simp⟩) hHeld ?_
  try simp only [Act.put, List.setIfInBounds_toArray, List.set_cons_zero, List.set_cons_succ]
  refine take_d 5 (some 24) (.int .u16 (re : Int)) rfl (by kernel_rfl) (by kernel_rfl) (by kernel_rfl) (fun _ _ _ h => h) (fun oi h => by cases h; exact Or.inl ⟨by rfl, fun w' hS' => by have c : w'.cell? ⟨w.heap.size, 1, none⟩ = some (.int .u16 (re : Int)) := hS'.1.cell 1; go_simp⟩) hHeld ?_
  try simp only [Act.put, List.setIfInBounds_toArray, List.set_cons_zero, List.set_cons_succ]
  refine take_d 6 (some 25) (.int .u64 (re : Int)) rfl (by kernel_rfl) (by kernel_rfl) (by kernel_rfl) (fun _ _ _ h => h) (fun oi h => by cases h; exact Or.inl ⟨by rfl, fun w' hS' => by have hq : IntKind.u64.wrap (re : Int) = (re : Int) := (by rw [IntKind.wrap_u64]; omega); go_simp⟩) hHeld ?_
  try simp only [Act.put, List.setIfInBounds_toArray, List.set_cons_zero, List.set_cons_succ]
  refine one_d 3 (some 22) rfl (by kernel_rfl) ?_
  intro o ho hd K hK
  cases ho
  go_simp
  refine (C1.out _).mono ?_
  rintro e w2 ⟨rfl, bb⟩
  have hHeld' := hHeld
  clear hHeld
  have hHeld := hHeld'
  clear hHeld'
  refine hK.out _ _ (⟨hHeld.1.below bb hHeld.1.lt, hHeld.2.trans (bb.mono hHeld.2.size)⟩) (fun hHeld => ?_)
  clear hK K hd bb
  try simp only [Act.put, List.setIfInBounds_toArray, List.set_cons_zero, List.set_cons_succ]
  refine one_d 7 (some 26) rfl (by kernel_rfl) ?_
  intro o ho hd K hK
  cases ho
  go_simp
  refine (C2.out _).mono ?_
  rintro e w3 ⟨rfl, bb⟩
  have hHeld' := hHeld
  clear hHeld
  have hHeld := hHeld'
  clear hHeld'
  refine hK.out _ _ (⟨hHeld.1.below bb hHeld.1.lt, hHeld.2.trans (bb.mono hHeld.2.size)⟩) (fun hHeld => ?_)
  clear hK K hd bb
  try simp only [Act.put, List.setIfInBounds_toArray, List.set_cons_zero, List.set_cons_succ]
  refine take_d 8 (some 27) (.string (x1 ++ x2)) rfl (by kernel_rfl) (by kernel_rfl) (by kernel_rfl) (fun _ _ _ h => h) (fun oi h => by cases h; exact Or.inl ⟨by rfl, fun w' hS' => by have hq : x1.size + x2.size ≤ 9223372036854775807 := (by omega); go_simp⟩) hHeld ?_
  try simp only [Act.put, List.setIfInBounds_toArray, List.set_cons_zero, List.set_cons_succ]
  refine take_d 9 (some 6) (.string (x1 ++ x2)) rfl (by kernel_rfl) (by kernel_rfl) (by kernel_rfl) (fun _ _ _ h => h) (fun oi h => by cases h; exact Or.inl ⟨by rfl, fun w' hS' => by go_simp⟩) hHeld ?_
  try simp only [Act.put, List.setIfInBounds_toArray, List.set_cons_zero, List.set_cons_succ]
  refine wpAnyH_done (by kernel_rfl) ?_ _
  try simp only [Act.put]
  obtain ⟨r3, hb3⟩ := hHeld
  clear r1 hb
  go_wp2_with fail
  refine wp_region_held_drew (S := fun w' => Row w' w.heap.size 38 [.int .u16 (st : Int), .int .u16 (re : Int), .int .u64 (nm : Int), .int .i64 (ix : Int), .bool true, .string tx] ∧ Below w.heap.size w w') (by kernel_rfl) (⟨r3.drew, hb3.drew⟩) (fun hHeld => ?_)
  refine take_d 0 (some 28) (.string (x1 ++ x2)) rfl (by kernel_rfl) (by kernel_rfl) (by kernel_rfl) (fun _ _ _ h => h) (fun oi h => by cases h; exact Or.inl ⟨by rfl, fun w' hS' => by go_simp⟩) hHeld ?_
  try simp only [Act.put, List.setIfInBounds_toArray, List.set_cons_zero, List.set_cons_succ]
  refine take_d 1 (some 29) (.pointer (some ⟨w.heap.size, 2, none⟩)) rfl (by kernel_rfl) (by kernel_rfl) (by kernel_rfl) (fun _ _ _ h => h) (fun oi h => by cases h; exact Or.inl ⟨by rfl, fun w' hS' => by go_simp⟩) hHeld ?_
  try simp only [Act.put, List.setIfInBounds_toArray, List.set_cons_zero, List.set_cons_succ]
  refine take_d 2 (some 30) (.int .u64 (nm : Int)) rfl (by kernel_rfl) (by kernel_rfl) (by kernel_rfl) (fun _ _ _ h => h) (fun oi h => by cases h; exact Or.inl ⟨by rfl, fun w' hS' => by have c : w'.cell? ⟨w.heap.size, 2, none⟩ = some (.int .u64 (nm : Int)) := hS'.1.cell 2; go_simp⟩) hHeld ?_
  try simp only [Act.put, List.setIfInBounds_toArray, List.set_cons_zero, List.set_cons_succ]
  refine take_d 5 (some 33) (.int .u64 (((ix + 32768) : Nat) : Int)) rfl (by kernel_rfl) (by kernel_rfl) (by kernel_rfl) (fun _ _ _ h => h) (fun oi h => by cases h; exact Or.inl ⟨by rfl, fun w' hS' => by go_simp⟩) hHeld ?_
  try simp only [Act.put, List.setIfInBounds_toArray, List.set_cons_zero, List.set_cons_succ]
  refine take_d 8 (some 36) (.pointer (some ⟨w.heap.size, 5, none⟩)) rfl (by kernel_rfl) (by kernel_rfl) (by kernel_rfl) (fun _ _ _ h => h) (fun oi h => by cases h; exact Or.inl ⟨by rfl, fun w' hS' => by go_simp⟩) hHeld ?_
  try simp only [Act.put, List.setIfInBounds_toArray, List.set_cons_zero, List.set_cons_succ]
  refine take_d 9 (some 37) (.string tx) rfl (by kernel_rfl) (by kernel_rfl) (by kernel_rfl) (fun _ _ _ h => h) (fun oi h => by cases h; exact Or.inl ⟨by rfl, fun w' hS' => by have c : w'.cell? ⟨w.heap.size, 5, none⟩ = some (.string tx) := hS'.1.cell 5; go_simp⟩) hHeld ?_
  try simp only [Act.put, List.setIfInBounds_toArray, List.set_cons_zero, List.set_cons_succ]
  refine one_d 3 (some 31) rfl (by kernel_rfl) ?_
  intro o ho hd K hK
  cases ho
  go_simp
  refine (C3.out _).mono ?_
  rintro e w4 ⟨rfl, bb⟩
  have hHeld' := hHeld
  clear hHeld
  have hHeld := hHeld'
  clear hHeld'
  refine hK.out _ _ (⟨hHeld.1.below bb hHeld.1.lt, hHeld.2.trans (bb.mono hHeld.2.size)⟩) (fun hHeld => ?_)
  clear hK K hd bb
  try simp only [Act.put, List.setIfInBounds_toArray, List.set_cons_zero, List.set_cons_succ]
  refine take_d 4 (some 32) (.string (x1 ++ x2 ++ x3)) rfl (by kernel_rfl) (by kernel_rfl) (by kernel_rfl) (fun _ _ _ h => h) (fun oi h => by cases h; exact Or.inl ⟨by rfl, fun w' hS' => by have hq : (x1 ++ x2).size + x3.size ≤ 9223372036854775807 := (by omega); go_simp⟩) hHeld ?_
  try simp only [Act.put, List.setIfInBounds_toArray, List.set_cons_zero, List.set_cons_succ]
  refine one_d 6 (some 34) rfl (by kernel_rfl) ?_
  intro o ho hd K hK
  cases ho
  go_simp
  refine (C4.out _).mono ?_
  rintro e w5 ⟨rfl, bb⟩
  have hHeld' := hHeld
  clear hHeld
  have hHeld := hHeld'
  clear hHeld'
  refine hK.out _ _ (⟨hHeld.1.below bb hHeld.1.lt, hHeld.2.trans (bb.mono hHeld.2.size)⟩) (fun hHeld => ?_)
  clear hK K hd bb
  try simp only [Act.put, List.setIfInBounds_toArray, List.set_cons_zero, List.set_cons_succ]
  refine take_d 7 (some 35) (.string (x1 ++ x2 ++ x3 ++ x4)) rfl (by kernel_rfl) (by kernel_rfl) (by kernel_rfl) (fun _ _ _ h => h) (fun oi h => by cases h; exact Or.inl ⟨by rfl, fun w' hS' => by have hq : (x1 ++ x2 ++ x3).size + x4.size ≤ 9223372036854775807 := (by omega); go_simp⟩) hHeld ?_
  try simp only [Act.put, List.setIfInBounds_toArray, List.set_cons_zero, List.set_cons_succ]
  refine take_d 10 (some 38) (.string (x1 ++ x2 ++ x3 ++ x4 ++ tx)) rfl (by kernel_rfl) (by kernel_rfl) (by kernel_rfl) (fun _ _ _ h => h) (fun oi h => by cases h; exact Or.inl ⟨by rfl, fun w' hS' => by have hq : 14 + tx.size ≤ 9223372036854775807 := (by omega); go_simp⟩) hHeld ?_
  try simp only [Act.put, List.setIfInBounds_toArray, List.set_cons_zero, List.set_cons_succ]
  refine take_d 11 (some 2) (.string (x1 ++ x2 ++ x3 ++ x4 ++ tx)) rfl (by kernel_rfl) (by kernel_rfl) (by kernel_rfl) (fun _ _ _ h => h) (fun oi h => by cases h; exact Or.inl ⟨by rfl, fun w' hS' => by go_simp⟩) hHeld ?_
  try simp only [Act.put, List.setIfInBounds_toArray, List.set_cons_zero, List.set_cons_succ]
  refine take_d 12 (some 3) (.int .i64 0) rfl (by kernel_rfl) (by kernel_rfl) (by kernel_rfl) (fun _ _ _ h => h) (fun oi h => by cases h; exact Or.inl ⟨by rfl, fun w' hS' => by go_simp⟩) hHeld ?_
  try simp only [Act.put, List.setIfInBounds_toArray, List.set_cons_zero, List.set_cons_succ]
  refine wpAnyH_done (by kernel_rfl) ?_ _
  try simp only [Act.put]
  have hb5 := hHeld.2
  go_wp2
  go_ret2
  exact ⟨by rw [HR.out]; rfl, hb5⟩

/-- The bytes of a part that may be. -/
theorem pBytes_yes (st re nm ix : Nat) (la : Bool) (tx : ByteArray) (hst : st < 65536) (hre : re < 65536) (hnm : nm < 18446744073709551616) (hix : ix ≤ 31) (ht : tx.size ≤ 466) (w : World) :
    Calls Try.prog 12 #[.agg #[.int .u16 (st : Int), .int .u16 (re : Int), .int .u64 (nm : Int), .int .i64 (ix : Int), .bool la, .string tx]] w fun e w' => e = .returned (.tuple #[.string ⟨(X9.partL st re nm (X9.ixN ix la) tx.data.toList).toArray⟩, .int .i64 0]) ∧ Below w.heap.size w w' := by
  cases la with
  | false => exact pBytes_mid st re nm ix tx hst hre hnm hix ht w
  | true => exact pBytes_last st re nm ix tx hst hre hnm hix ht w

end Go.Proofs.Ytbkeodgiflfakaa

/-
  Layer 9: the bytes of a datagram.
-/
namespace Go.Proofs.Ytbkeodgiflfakaa
open Go.RowKit
set_option linter.unusedVariables false
set_option maxRecDepth 20000

set_option maxHeartbeats 2000000 in
theorem dBytes_yes (id n : Nat) (s : ByteArray) (h1 : id ≤ 18446744073709551615) (h2 : n ≤ 18446744073709551615) (hs : 16 ≤ s.size) (hs' : s.size ≤ 496) (w : World) :
    Calls Try.prog 8 #[.agg #[.int .u64 (id : Int), .int .u64 (n : Int), .string s]] w fun e w' => e = .returned (.tuple #[.string ⟨(C.blk id n ++ s.data.toList).toArray⟩, .int .i64 0]) ∧ Below w.heap.size w w' := by
  have CF : Hid (∀ wx, Calls Try.prog 28 #[.int .i64 (16 + (s.size : Int))] wx fun e w' => e = .returned (.int .i64 0) ∧ w' = wx) := fun wx => dFault_ok _ (by omega) (by omega) wx
  have CH : Hid (∀ wx, Calls Try.prog 23 #[.int .u64 (id : Int), .int .u64 (n : Int)] wx fun e w' => e = .returned (.string ⟨(C.blk id n).toArray⟩) ∧ Below wx.heap.size wx w') := fun wx => head_any id n h1 h2 wx
  have HR : Hid ((⟨(C.blk id n ++ s.data.toList).toArray⟩ : ByteArray) = ⟨(C.blk id n).toArray⟩ ++ s) := Go.WideShapes.bytes_inj (by simp)
  have hsz : (⟨(C.blk id n).toArray⟩ : ByteArray).size = 16 := by simp [ByteArray.size, C.blk_length]
  generalize (⟨(C.blk id n ++ s.data.toList).toArray⟩ : ByteArray) = R at *
  generalize (⟨(C.blk id n).toArray⟩ : ByteArray) = hd0 at *
  have r0 : Row (w.alloc (.cells #[.int .u64 (id : Int), .int .u64 (n : Int), .string s] 25 (0, 0))) w.heap.size 25 [.int .u64 (id : Int), .int .u64 (n : Int), .string s] := Row.new' rfl rfl
  have b0 : Below w.heap.size w (w.alloc (.cells #[.int .u64 (id : Int), .int .u64 (n : Int), .string s] 25 (0, 0))) := (Below.refl _ _).alloc (Nat.le_refl _) _
  obtain ⟨wa, hwa⟩ : ∃ wa, wa = w.alloc (.cells #[.int .u64 (id : Int), .int .u64 (n : Int), .string s] 25 (0, 0)) := ⟨_, rfl⟩
  rw [← hwa] at r0 b0
  go_enter Try.func8, Try.ntmps8
  go_wp2_with fail
  refine (CF.out _).mono ?_
  rintro e w1 ⟨rfl, rfl⟩
  rw [← hwa]
  clear hwa
  go_wp2_with fail
  refine wp_region_held_drew (S := fun w' => Row w' w.heap.size 25 [.int .u64 (id : Int), .int .u64 (n : Int), .string s] ∧ Below w.heap.size w w') (by kernel_rfl) (⟨r0.drew, b0.drew⟩) (fun hHeld => ?_)
  refine take_d 0 (some 13) (.pointer (some ⟨w.heap.size, 0, none⟩)) rfl (by kernel_rfl) (by kernel_rfl) (by kernel_rfl) (fun _ _ _ h => h) (fun oi h => by cases h; exact Or.inl ⟨by rfl, fun w' hS' => by go_simp⟩) hHeld ?_
  try simp only [Act.put, List.setIfInBounds_toArray, List.set_cons_zero, List.set_cons_succ]
  refine take_d 1 (some 14) (.int .u64 (id : Int)) rfl (by kernel_rfl) (by kernel_rfl) (by kernel_rfl) (fun _ _ _ h => h) (fun oi h => by cases h; exact Or.inl ⟨by rfl, fun w' hS' => by have c : w'.cell? ⟨w.heap.size, 0, none⟩ = some (.int .u64 (id : Int)) := hS'.1.cell 0; go_simp⟩) hHeld ?_
  try simp only [Act.put, List.setIfInBounds_toArray, List.set_cons_zero, List.set_cons_succ]
  refine take_d 2 (some 15) (.pointer (some ⟨w.heap.size, 1, none⟩)) rfl (by kernel_rfl) (by kernel_rfl) (by kernel_rfl) (fun _ _ _ h => h) (fun oi h => by cases h; exact Or.inl ⟨by rfl, fun w' hS' => by go_simp⟩) hHeld ?_
  try simp only [Act.put, List.setIfInBounds_toArray, List.set_cons_zero, List.set_cons_succ]
  refine take_d 3 (some 16) (.int .u64 (n : Int)) rfl (by kernel_rfl) (by kernel_rfl) (by kernel_rfl) (fun _ _ _ h => h) (fun oi h => by cases h; exact Or.inl ⟨by rfl, fun w' hS' => by have c : w'.cell? ⟨w.heap.size, 1, none⟩ = some (.int .u64 (n : Int)) := hS'.1.cell 1; go_simp⟩) hHeld ?_
  try simp only [Act.put, List.setIfInBounds_toArray, List.set_cons_zero, List.set_cons_succ]
  refine take_d 5 (some 18) (.pointer (some ⟨w.heap.size, 2, none⟩)) rfl (by kernel_rfl) (by kernel_rfl) (by kernel_rfl) (fun _ _ _ h => h) (fun oi h => by cases h; exact Or.inl ⟨by rfl, fun w' hS' => by go_simp⟩) hHeld ?_
  try simp only [Act.put, List.setIfInBounds_toArray, List.set_cons_zero, List.set_cons_succ]
  refine take_d 6 (some 19) (.string s) rfl (by kernel_rfl) (by kernel_rfl) (by kernel_rfl) (fun _ _ _ h => h) (fun oi h => by cases h; exact Or.inl ⟨by rfl, fun w' hS' => by have c : w'.cell? ⟨w.heap.size, 2, none⟩ = some (.string s) := hS'.1.cell 2; go_simp⟩) hHeld ?_
  try simp only [Act.put, List.setIfInBounds_toArray, List.set_cons_zero, List.set_cons_succ]
  refine one_d 4 (some 17) rfl (by kernel_rfl) ?_
  intro o ho hd K hK
  cases ho
  go_simp
  refine (CH.out _).mono ?_
  rintro e w2 ⟨rfl, bb⟩
  have hHeld' := hHeld
  clear hHeld
  have hHeld := hHeld'
  clear hHeld'
  refine hK.out _ _ (⟨hHeld.1.below bb hHeld.1.lt, hHeld.2.trans (bb.mono hHeld.2.size)⟩) (fun hHeld => ?_)
  clear hK K hd bb
  try simp only [Act.put, List.setIfInBounds_toArray, List.set_cons_zero, List.set_cons_succ]
  refine take_d 7 (some 20) (.string (hd0 ++ s)) rfl (by kernel_rfl) (by kernel_rfl) (by kernel_rfl) (fun _ _ _ h => h) (fun oi h => by cases h; exact Or.inl ⟨by rfl, fun w' hS' => by have hq : 16 + s.size ≤ 9223372036854775807 := (by omega); go_simp⟩) hHeld ?_
  try simp only [Act.put, List.setIfInBounds_toArray, List.set_cons_zero, List.set_cons_succ]
  refine take_d 8 (some 2) (.string (hd0 ++ s)) rfl (by kernel_rfl) (by kernel_rfl) (by kernel_rfl) (fun _ _ _ h => h) (fun oi h => by cases h; exact Or.inl ⟨by rfl, fun w' hS' => by go_simp⟩) hHeld ?_
  try simp only [Act.put, List.setIfInBounds_toArray, List.set_cons_zero, List.set_cons_succ]
  refine take_d 9 (some 3) (.int .i64 0) rfl (by kernel_rfl) (by kernel_rfl) (by kernel_rfl) (fun _ _ _ h => h) (fun oi h => by cases h; exact Or.inl ⟨by rfl, fun w' hS' => by go_simp⟩) hHeld ?_
  try simp only [Act.put, List.setIfInBounds_toArray, List.set_cons_zero, List.set_cons_succ]
  refine wpAnyH_done (by kernel_rfl) ?_ _
  try simp only [Act.put]
  have hb := hHeld.2
  go_wp2
  go_ret2
  exact ⟨by rw [HR.out]; rfl, hb⟩

end Go.Proofs.Ytbkeodgiflfakaa
