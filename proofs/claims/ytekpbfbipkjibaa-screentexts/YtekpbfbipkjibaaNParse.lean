/-
  Layer 11: Parse.
-/
import Derived.Test.YtekpbfbipkjibaaNWhole
import Derived.Test.YtekpbfbipkjibaaSTake
namespace Go.Proofs.Ytekpbfbipkjibaa
open Go.RowKit
set_option linter.unusedVariables false
set_option maxRecDepth 20000

theorem drop4 (t : ByteArray) : (t.extract 4 t.size).data.toList = t.data.toList.drop 4 := by
  rw [ByteArray.data_extract, Array.toList_extract, List.extract_eq_take_drop]
  exact List.take_of_length_le (by rw [List.length_drop, show t.data.toList.length = t.size from by simp]; exact Nat.le_refl _)

set_option maxHeartbeats 2000000 in
theorem parse_short (t : ByteArray) (h : t.size < 4) (w : World) :
    Calls Try.prog 16 #[.string t] w fun e w' => e = .returned (.tuple #[.agg #[.int .i64 0, .int .i64 0, .int .i64 0, .int .i64 0, .string ⟨#[]⟩], .int .i64 4]) ∧ Below w.heap.size w w' := by
  have h' : (t.size : Int) < 4 := by omega
  go_enter Try.func16, Try.ntmps16
  go_wp2
  exact bodyPost_ret (results_row_tmp rfl _ _ w.heap.size 25 [.int .i64 0, .int .i64 0, .int .i64 0, .int .i64 0, .string ⟨#[]⟩] _ rfl (Row.new' rfl rfl) Try.underlying25 rfl infoScr) rfl ⟨rfl, (Below.refl _ _).alloc (Nat.le_refl _) _⟩

set_option maxHeartbeats 8000000 in
theorem parse_yes (t : ByteArray) (h : 4 ≤ t.size) (hs : t.size ≤ 100000) (wd ht x y : Nat) (e0 : (t[0]'(by omega)).toNat = wd) (e1 : (t[1]'(by omega)).toNat = ht) (e2 : (t[2]'(by omega)).toNat = x) (e3 : (t[3]'(by omega)).toNat = y) (hok : okB wd ht x y (t.data.toList.drop 4) = true) (w : World) :
    Calls Try.prog 16 #[.string t] w fun e w' => e = .returned (.tuple #[.agg #[.int .i64 wd, .int .i64 ht, .int .i64 x, .int .i64 y, .string (t.extract 4 t.size)], .int .i64 0]) ∧ Below w.heap.size w w' := by
  have l0 : wd < 256 := by rw [← e0]; exact UInt8.toNat_lt _
  have l1 : ht < 256 := by rw [← e1]; exact UInt8.toNat_lt _
  have l2 : x < 256 := by rw [← e2]; exact UInt8.toNat_lt _
  have l3 : y < 256 := by rw [← e3]; exact UInt8.toNat_lt _
  obtain ⟨C, hC⟩ : ∃ C, C = t.extract 4 t.size := ⟨_, rfl⟩
  have hCs : C.size ≤ 100000 := by rw [hC, ByteArray.size_extract]; omega
  have CC : Hid (∀ wx, Calls Try.prog 40 #[.string C] wx fun e w' => e = .returned (.string C) ∧ Below wx.heap.size wx w') := fun wx => cloneN C wx (by omega)
  have CW : Hid (∀ wx, Calls Try.prog 41 #[.agg #[.int .i64 wd, .int .i64 ht, .int .i64 x, .int .i64 y, .string C]] wx fun e w' => e = .returned (.bool true) ∧ Below wx.heap.size wx w') := fun wx => by
    have := whole_any wd ht x y C wx l0 l1 l2 l3 hCs
    rw [hC, drop4, hok] at this
    rw [hC]; exact this
  have hX : t.extract 4 t.size = C := hC.symm
  try rw [hX]
  have g0 : ¬ (t.size : Int) < 4 := by omega
  have m0 : (0 : Nat) < t.size := by omega
  have m1 : 1 < t.size := by omega
  have m2 : 2 < t.size := by omega
  have m3 : 3 < t.size := by omega
  have i1 : (1 : Int) < (t.size : Int) := by omega
  have i2 : (2 : Int) < (t.size : Int) := by omega
  have i3 : (3 : Int) < (t.size : Int) := by omega
  have i4 : (4 : Int) ≤ (t.size : Int) := by omega
  have tb : t.size ≤ 9223372036854775807 := by omega
  have w0 : IntKind.i64.wrap (wd : Int) = (wd : Int) := by rw [IntKind.wrap_i64]; omega
  have w1 : IntKind.i64.wrap (ht : Int) = (ht : Int) := by rw [IntKind.wrap_i64]; omega
  have w2 : IntKind.i64.wrap (x : Int) = (x : Int) := by rw [IntKind.wrap_i64]; omega
  have w3 : IntKind.i64.wrap (y : Int) = (y : Int) := by rw [IntKind.wrap_i64]; omega
  have rz : Row (w.alloc (.cells #[.int .i64 0, .int .i64 0, .int .i64 0, .int .i64 0, .string ⟨#[]⟩] 25 (0, 0))) w.heap.size 25 [.int .i64 0, .int .i64 0, .int .i64 0, .int .i64 0, .string ⟨#[]⟩] := Row.new' rfl rfl
  have bz : Below w.heap.size w (w.alloc (.cells #[.int .i64 0, .int .i64 0, .int .i64 0, .int .i64 0, .string ⟨#[]⟩] 25 (0, 0))) := (Below.refl _ _).alloc (Nat.le_refl _) _
  clear hok hC
  go_enter Try.func16, Try.ntmps16
  go_wp2
  generalize w.alloc (.cells #[.int .i64 0, .int .i64 0, .int .i64 0, .int .i64 0, .string ⟨#[]⟩] 25 (0, 0)) = w5 at *
  refine wp_region_held_drew (S := fun w' => Row w' w.heap.size 25 [.int .i64 0, .int .i64 0, .int .i64 0, .int .i64 0, .string ⟨#[]⟩] ∧ Below w.heap.size w w') (by kernel_rfl) (⟨rz.drew, bz.drew⟩) (fun hHeld => ?_)
  refine take_d 0 (some 9) (.string t) rfl (by kernel_rfl) (by kernel_rfl) (by kernel_rfl) (fun _ _ _ h => h) (fun oi h => by cases h; exact Or.inl ⟨by rfl, fun w' hS' => by go_simp⟩) hHeld ?_
  try simp only [Act.put, List.setIfInBounds_toArray, List.set_cons_zero, List.set_cons_succ]
  refine take_d 1 (some 10) (.int .u8 (wd : Int)) rfl (by kernel_rfl) (by kernel_rfl) (by kernel_rfl) (fun _ _ _ h => h) (fun oi h => by cases h; exact Or.inl ⟨by rfl, fun w' hS' => by go_simp⟩) hHeld ?_
  try simp only [Act.put, List.setIfInBounds_toArray, List.set_cons_zero, List.set_cons_succ]
  refine take_d 2 (some 11) (.int .i64 (wd : Int)) rfl (by kernel_rfl) (by kernel_rfl) (by kernel_rfl) (fun _ _ _ h => h) (fun oi h => by cases h; exact Or.inl ⟨by rfl, fun w' hS' => by go_simp⟩) hHeld ?_
  try simp only [Act.put, List.setIfInBounds_toArray, List.set_cons_zero, List.set_cons_succ]
  refine take_d 3 (some 12) (.string t) rfl (by kernel_rfl) (by kernel_rfl) (by kernel_rfl) (fun _ _ _ h => h) (fun oi h => by cases h; exact Or.inl ⟨by rfl, fun w' hS' => by go_simp⟩) hHeld ?_
  try simp only [Act.put, List.setIfInBounds_toArray, List.set_cons_zero, List.set_cons_succ]
  refine take_d 4 (some 13) (.int .u8 (ht : Int)) rfl (by kernel_rfl) (by kernel_rfl) (by kernel_rfl) (fun _ _ _ h => h) (fun oi h => by cases h; exact Or.inl ⟨by rfl, fun w' hS' => by go_simp⟩) hHeld ?_
  try simp only [Act.put, List.setIfInBounds_toArray, List.set_cons_zero, List.set_cons_succ]
  refine take_d 5 (some 14) (.int .i64 (ht : Int)) rfl (by kernel_rfl) (by kernel_rfl) (by kernel_rfl) (fun _ _ _ h => h) (fun oi h => by cases h; exact Or.inl ⟨by rfl, fun w' hS' => by go_simp⟩) hHeld ?_
  try simp only [Act.put, List.setIfInBounds_toArray, List.set_cons_zero, List.set_cons_succ]
  refine take_d 6 (some 15) (.string t) rfl (by kernel_rfl) (by kernel_rfl) (by kernel_rfl) (fun _ _ _ h => h) (fun oi h => by cases h; exact Or.inl ⟨by rfl, fun w' hS' => by go_simp⟩) hHeld ?_
  try simp only [Act.put, List.setIfInBounds_toArray, List.set_cons_zero, List.set_cons_succ]
  refine take_d 7 (some 16) (.int .u8 (x : Int)) rfl (by kernel_rfl) (by kernel_rfl) (by kernel_rfl) (fun _ _ _ h => h) (fun oi h => by cases h; exact Or.inl ⟨by rfl, fun w' hS' => by go_simp⟩) hHeld ?_
  try simp only [Act.put, List.setIfInBounds_toArray, List.set_cons_zero, List.set_cons_succ]
  refine take_d 8 (some 17) (.int .i64 (x : Int)) rfl (by kernel_rfl) (by kernel_rfl) (by kernel_rfl) (fun _ _ _ h => h) (fun oi h => by cases h; exact Or.inl ⟨by rfl, fun w' hS' => by go_simp⟩) hHeld ?_
  try simp only [Act.put, List.setIfInBounds_toArray, List.set_cons_zero, List.set_cons_succ]
  refine take_d 9 (some 18) (.string t) rfl (by kernel_rfl) (by kernel_rfl) (by kernel_rfl) (fun _ _ _ h => h) (fun oi h => by cases h; exact Or.inl ⟨by rfl, fun w' hS' => by go_simp⟩) hHeld ?_
  try simp only [Act.put, List.setIfInBounds_toArray, List.set_cons_zero, List.set_cons_succ]
  refine take_d 10 (some 19) (.int .u8 (y : Int)) rfl (by kernel_rfl) (by kernel_rfl) (by kernel_rfl) (fun _ _ _ h => h) (fun oi h => by cases h; exact Or.inl ⟨by rfl, fun w' hS' => by go_simp⟩) hHeld ?_
  try simp only [Act.put, List.setIfInBounds_toArray, List.set_cons_zero, List.set_cons_succ]
  refine take_d 11 (some 20) (.int .i64 (y : Int)) rfl (by kernel_rfl) (by kernel_rfl) (by kernel_rfl) (fun _ _ _ h => h) (fun oi h => by cases h; exact Or.inl ⟨by rfl, fun w' hS' => by go_simp⟩) hHeld ?_
  try simp only [Act.put, List.setIfInBounds_toArray, List.set_cons_zero, List.set_cons_succ]
  refine take_d 12 (some 21) (.string t) rfl (by kernel_rfl) (by kernel_rfl) (by kernel_rfl) (fun _ _ _ h => h) (fun oi h => by cases h; exact Or.inl ⟨by rfl, fun w' hS' => by go_simp⟩) hHeld ?_
  try simp only [Act.put, List.setIfInBounds_toArray, List.set_cons_zero, List.set_cons_succ]
  refine take_d 13 (some 22) (.string C) rfl (by kernel_rfl) (by kernel_rfl) (by kernel_rfl) (fun _ _ _ h => h) (fun oi h => by cases h; exact Or.inl ⟨by rfl, fun w' hS' => by go_simp⟩) hHeld ?_
  try simp only [Act.put, List.setIfInBounds_toArray, List.set_cons_zero, List.set_cons_succ]
  refine two_d 14 16 rfl rfl (by kernel_rfl) ?_ ?_
  · intro K hK
    go_simp
    refine (CC.out _).mono ?_
    rintro e v1 ⟨rfl, bb⟩
    have hHeld2 := (⟨hHeld.1.below bb hHeld.1.lt, hHeld.2.trans (bb.mono hHeld.2.size)⟩ : _ ∧ _)
    refine hK.out _ _ hHeld2 (fun hHeld => ?_)
    clear hK K bb hHeld2
    try simp only [Act.put, List.setIfInBounds_toArray, List.set_cons_zero, List.set_cons_succ]
    refine take_d 15 (some 24) (.agg #[.int .i64 wd, .int .i64 ht, .int .i64 x, .int .i64 y, .string C]) rfl (by kernel_rfl) (by kernel_rfl) (by kernel_rfl) (fun _ _ _ h => h) (fun oi h => by cases h; exact Or.inl ⟨by rfl, fun w' hS' => by go_simp⟩) hHeld ?_
    try simp only [Act.put, List.setIfInBounds_toArray, List.set_cons_zero, List.set_cons_succ]
    refine one_d 16 (some 4) rfl (by kernel_rfl) ?_
    intro o ho1 hd
    cases ho1
    clear hd
    have lz : w.heap.size < v1.heap.size := hHeld.1.lt
    intro K hK
    go_simp
    refine hK.out _ _ ⟨hHeld.1.alloc _, hHeld.2.alloc hHeld.2.size _⟩ (fun hHeld => ?_)
    clear hK K
    try simp only [Act.put, List.setIfInBounds_toArray, List.set_cons_zero, List.set_cons_succ]
    have rp : Row (v1.alloc (.cells #[.int .i64 0, .int .i64 0, .int .i64 0, .int .i64 0, .string ⟨#[]⟩] 25 (0, 0))) v1.heap.size 25 [.int .i64 0, .int .i64 0, .int .i64 0, .int .i64 0, .string ⟨#[]⟩] := Row.new' rfl rfl
    generalize v1.heap.size = p at *
    generalize v1.alloc (.cells #[.int .i64 0, .int .i64 0, .int .i64 0, .int .i64 0, .string ⟨#[]⟩] 25 (0, 0)) = v2 at *
    refine one_d 17 none rfl (by kernel_rfl) ?_
    intro o ho1 hd K hK
    cases ho1
    refine step_store_row rfl 25 (.tmp 4) (.tmp 24) rfl p [.int .i64 wd, .int .i64 ht, .int .i64 x, .int .i64 y, .string C] rfl rfl _ _ rp infoScr rfl (by simp [Value.oneCell']) ?_
    rw [hd]
    have hz := hHeld.1.setRow_other (k := p) (by omega) (List.toArray [.int .i64 wd, .int .i64 ht, .int .i64 x, .int .i64 y, .string C])
    have rp2 := rp.setRow [.int .i64 wd, .int .i64 ht, .int .i64 x, .int .i64 y, .string C]
    have bl := below_row hHeld.2 (show w.heap.size ≤ p by omega) (List.toArray [.int .i64 wd, .int .i64 ht, .int .i64 x, .int .i64 y, .string C])
    refine hK.out _ _ ⟨hz, bl⟩ (fun hHeld => ?_)
    clear hK K hd hHeld rp
    try simp only [Act.put]
    refine wpAnyH_done (by kernel_rfl) ?_ _
    try simp only [Act.put]
    generalize v2.setRow p (List.toArray [.int .i64 wd, .int .i64 ht, .int .i64 x, .int .i64 y, .string C]) = w7 at *
    go_wp2_with (first | refine wpList_load_row rfl 25 (.tmp 4) rfl p rfl _ _ _ _ rp2 Try.underlying25 rfl infoScr ?_)
    refine (CW.out _).mono ?_
    rintro e w8 ⟨rfl, b8⟩
    have hz8 := hz.below b8 hz.lt
    have rp8 := rp2.below b8 rp2.lt
    have bl8 := bl.trans (b8.mono bl.size)
    clear hz rp2 bl b8
    go_wp2_with (first | refine wpList_load_row rfl 25 (.tmp 4) rfl p rfl _ _ _ _ rp8 Try.underlying25 rfl infoScr ?_ | refine wpList_store_row rfl 25 (.tmp 2) (.tmp 29) rfl w.heap.size _ rfl rfl _ _ hz8 infoScr rfl (by simp [Value.oneCell']) ?_)
    exact bodyPost_ret (results_row_tmp rfl _ _ w.heap.size 25 [.int .i64 wd, .int .i64 ht, .int .i64 x, .int .i64 y, .string C] _ rfl (hz8.setRow [.int .i64 wd, .int .i64 ht, .int .i64 x, .int .i64 y, .string C]) Try.underlying25 rfl infoScr) rfl ⟨rfl, below_row bl8 (Nat.le_refl _) _⟩
  · have lz : w.heap.size < w5.heap.size := hHeld.1.lt
    intro K hK
    go_simp
    refine hK.out _ _ ⟨hHeld.1.alloc _, hHeld.2.alloc hHeld.2.size _⟩ (fun hHeld => ?_)
    clear hK K
    try simp only [Act.put, List.setIfInBounds_toArray, List.set_cons_zero, List.set_cons_succ]
    have rp : Row (w5.alloc (.cells #[.int .i64 0, .int .i64 0, .int .i64 0, .int .i64 0, .string ⟨#[]⟩] 25 (0, 0))).drew w5.heap.size 25 [.int .i64 0, .int .i64 0, .int .i64 0, .int .i64 0, .string ⟨#[]⟩] := Row.new' rfl rfl
    generalize w5.heap.size = p at *
    generalize (w5.alloc (.cells #[.int .i64 0, .int .i64 0, .int .i64 0, .int .i64 0, .string ⟨#[]⟩] 25 (0, 0))).drew = v2 at *
    refine one_d 14 (some 23) rfl (by kernel_rfl) ?_
    intro o ho1 hd
    cases ho1
    clear hd
    intro K hK
    go_simp
    refine (CC.out _).mono ?_
    rintro e v1 ⟨rfl, bb⟩
    have rp := rp.below bb rp.lt
    have hHeld2 := (⟨hHeld.1.below bb hHeld.1.lt, hHeld.2.trans (bb.mono hHeld.2.size)⟩ : _ ∧ _)
    refine hK.out _ _ hHeld2 (fun hHeld => ?_)
    clear hK K bb hHeld2
    try simp only [Act.put, List.setIfInBounds_toArray, List.set_cons_zero, List.set_cons_succ]
    refine take_d 15 (some 24) (.agg #[.int .i64 wd, .int .i64 ht, .int .i64 x, .int .i64 y, .string C]) rfl (by kernel_rfl) (by kernel_rfl) (by kernel_rfl) (fun _ _ _ h => h) (fun oi h => by cases h; exact Or.inl ⟨by rfl, fun w' hS' => by go_simp⟩) hHeld ?_
    try simp only [Act.put, List.setIfInBounds_toArray, List.set_cons_zero, List.set_cons_succ]
    refine one_d 17 none rfl (by kernel_rfl) ?_
    intro o ho1 hd K hK
    cases ho1
    refine step_store_row rfl 25 (.tmp 4) (.tmp 24) rfl p [.int .i64 wd, .int .i64 ht, .int .i64 x, .int .i64 y, .string C] rfl rfl _ _ rp infoScr rfl (by simp [Value.oneCell']) ?_
    rw [hd]
    have hz := hHeld.1.setRow_other (k := p) (by omega) (List.toArray [.int .i64 wd, .int .i64 ht, .int .i64 x, .int .i64 y, .string C])
    have rp2 := rp.setRow [.int .i64 wd, .int .i64 ht, .int .i64 x, .int .i64 y, .string C]
    have bl := below_row hHeld.2 (show w.heap.size ≤ p by omega) (List.toArray [.int .i64 wd, .int .i64 ht, .int .i64 x, .int .i64 y, .string C])
    refine hK.out _ _ ⟨hz, bl⟩ (fun hHeld => ?_)
    clear hK K hd hHeld rp
    try simp only [Act.put]
    refine wpAnyH_done (by kernel_rfl) ?_ _
    try simp only [Act.put]
    generalize v1.setRow p (List.toArray [.int .i64 wd, .int .i64 ht, .int .i64 x, .int .i64 y, .string C]) = w7 at *
    go_wp2_with (first | refine wpList_load_row rfl 25 (.tmp 4) rfl p rfl _ _ _ _ rp2 Try.underlying25 rfl infoScr ?_)
    refine (CW.out _).mono ?_
    rintro e w8 ⟨rfl, b8⟩
    have hz8 := hz.below b8 hz.lt
    have rp8 := rp2.below b8 rp2.lt
    have bl8 := bl.trans (b8.mono bl.size)
    clear hz rp2 bl b8
    go_wp2_with (first | refine wpList_load_row rfl 25 (.tmp 4) rfl p rfl _ _ _ _ rp8 Try.underlying25 rfl infoScr ?_ | refine wpList_store_row rfl 25 (.tmp 2) (.tmp 29) rfl w.heap.size _ rfl rfl _ _ hz8 infoScr rfl (by simp [Value.oneCell']) ?_)
    exact bodyPost_ret (results_row_tmp rfl _ _ w.heap.size 25 [.int .i64 wd, .int .i64 ht, .int .i64 x, .int .i64 y, .string C] _ rfl (hz8.setRow [.int .i64 wd, .int .i64 ht, .int .i64 x, .int .i64 y, .string C]) Try.underlying25 rfl infoScr) rfl ⟨rfl, below_row bl8 (Nat.le_refl _) _⟩

set_option maxHeartbeats 8000000 in
theorem parse_no (t : ByteArray) (h : 4 ≤ t.size) (hs : t.size ≤ 100000) (wd ht x y : Nat) (e0 : (t[0]'(by omega)).toNat = wd) (e1 : (t[1]'(by omega)).toNat = ht) (e2 : (t[2]'(by omega)).toNat = x) (e3 : (t[3]'(by omega)).toNat = y) (hok : okB wd ht x y (t.data.toList.drop 4) = false) (w : World) :
    Calls Try.prog 16 #[.string t] w fun e w' => e = .returned (.tuple #[.agg #[.int .i64 0, .int .i64 0, .int .i64 0, .int .i64 0, .string ⟨#[]⟩], .int .i64 4]) ∧ Below w.heap.size w w' := by
  have l0 : wd < 256 := by rw [← e0]; exact UInt8.toNat_lt _
  have l1 : ht < 256 := by rw [← e1]; exact UInt8.toNat_lt _
  have l2 : x < 256 := by rw [← e2]; exact UInt8.toNat_lt _
  have l3 : y < 256 := by rw [← e3]; exact UInt8.toNat_lt _
  obtain ⟨C, hC⟩ : ∃ C, C = t.extract 4 t.size := ⟨_, rfl⟩
  have hCs : C.size ≤ 100000 := by rw [hC, ByteArray.size_extract]; omega
  have CC : Hid (∀ wx, Calls Try.prog 40 #[.string C] wx fun e w' => e = .returned (.string C) ∧ Below wx.heap.size wx w') := fun wx => cloneN C wx (by omega)
  have CW : Hid (∀ wx, Calls Try.prog 41 #[.agg #[.int .i64 wd, .int .i64 ht, .int .i64 x, .int .i64 y, .string C]] wx fun e w' => e = .returned (.bool false) ∧ Below wx.heap.size wx w') := fun wx => by
    have := whole_any wd ht x y C wx l0 l1 l2 l3 hCs
    rw [hC, drop4, hok] at this
    rw [hC]; exact this
  have hX : t.extract 4 t.size = C := hC.symm
  try rw [hX]
  have g0 : ¬ (t.size : Int) < 4 := by omega
  have m0 : (0 : Nat) < t.size := by omega
  have m1 : 1 < t.size := by omega
  have m2 : 2 < t.size := by omega
  have m3 : 3 < t.size := by omega
  have i1 : (1 : Int) < (t.size : Int) := by omega
  have i2 : (2 : Int) < (t.size : Int) := by omega
  have i3 : (3 : Int) < (t.size : Int) := by omega
  have i4 : (4 : Int) ≤ (t.size : Int) := by omega
  have tb : t.size ≤ 9223372036854775807 := by omega
  have w0 : IntKind.i64.wrap (wd : Int) = (wd : Int) := by rw [IntKind.wrap_i64]; omega
  have w1 : IntKind.i64.wrap (ht : Int) = (ht : Int) := by rw [IntKind.wrap_i64]; omega
  have w2 : IntKind.i64.wrap (x : Int) = (x : Int) := by rw [IntKind.wrap_i64]; omega
  have w3 : IntKind.i64.wrap (y : Int) = (y : Int) := by rw [IntKind.wrap_i64]; omega
  have rz : Row (w.alloc (.cells #[.int .i64 0, .int .i64 0, .int .i64 0, .int .i64 0, .string ⟨#[]⟩] 25 (0, 0))) w.heap.size 25 [.int .i64 0, .int .i64 0, .int .i64 0, .int .i64 0, .string ⟨#[]⟩] := Row.new' rfl rfl
  have bz : Below w.heap.size w (w.alloc (.cells #[.int .i64 0, .int .i64 0, .int .i64 0, .int .i64 0, .string ⟨#[]⟩] 25 (0, 0))) := (Below.refl _ _).alloc (Nat.le_refl _) _
  clear hok hC
  go_enter Try.func16, Try.ntmps16
  go_wp2
  generalize w.alloc (.cells #[.int .i64 0, .int .i64 0, .int .i64 0, .int .i64 0, .string ⟨#[]⟩] 25 (0, 0)) = w5 at *
  refine wp_region_held_drew (S := fun w' => Row w' w.heap.size 25 [.int .i64 0, .int .i64 0, .int .i64 0, .int .i64 0, .string ⟨#[]⟩] ∧ Below w.heap.size w w') (by kernel_rfl) (⟨rz.drew, bz.drew⟩) (fun hHeld => ?_)
  refine take_d 0 (some 9) (.string t) rfl (by kernel_rfl) (by kernel_rfl) (by kernel_rfl) (fun _ _ _ h => h) (fun oi h => by cases h; exact Or.inl ⟨by rfl, fun w' hS' => by go_simp⟩) hHeld ?_
  try simp only [Act.put, List.setIfInBounds_toArray, List.set_cons_zero, List.set_cons_succ]
  refine take_d 1 (some 10) (.int .u8 (wd : Int)) rfl (by kernel_rfl) (by kernel_rfl) (by kernel_rfl) (fun _ _ _ h => h) (fun oi h => by cases h; exact Or.inl ⟨by rfl, fun w' hS' => by go_simp⟩) hHeld ?_
  try simp only [Act.put, List.setIfInBounds_toArray, List.set_cons_zero, List.set_cons_succ]
  refine take_d 2 (some 11) (.int .i64 (wd : Int)) rfl (by kernel_rfl) (by kernel_rfl) (by kernel_rfl) (fun _ _ _ h => h) (fun oi h => by cases h; exact Or.inl ⟨by rfl, fun w' hS' => by go_simp⟩) hHeld ?_
  try simp only [Act.put, List.setIfInBounds_toArray, List.set_cons_zero, List.set_cons_succ]
  refine take_d 3 (some 12) (.string t) rfl (by kernel_rfl) (by kernel_rfl) (by kernel_rfl) (fun _ _ _ h => h) (fun oi h => by cases h; exact Or.inl ⟨by rfl, fun w' hS' => by go_simp⟩) hHeld ?_
  try simp only [Act.put, List.setIfInBounds_toArray, List.set_cons_zero, List.set_cons_succ]
  refine take_d 4 (some 13) (.int .u8 (ht : Int)) rfl (by kernel_rfl) (by kernel_rfl) (by kernel_rfl) (fun _ _ _ h => h) (fun oi h => by cases h; exact Or.inl ⟨by rfl, fun w' hS' => by go_simp⟩) hHeld ?_
  try simp only [Act.put, List.setIfInBounds_toArray, List.set_cons_zero, List.set_cons_succ]
  refine take_d 5 (some 14) (.int .i64 (ht : Int)) rfl (by kernel_rfl) (by kernel_rfl) (by kernel_rfl) (fun _ _ _ h => h) (fun oi h => by cases h; exact Or.inl ⟨by rfl, fun w' hS' => by go_simp⟩) hHeld ?_
  try simp only [Act.put, List.setIfInBounds_toArray, List.set_cons_zero, List.set_cons_succ]
  refine take_d 6 (some 15) (.string t) rfl (by kernel_rfl) (by kernel_rfl) (by kernel_rfl) (fun _ _ _ h => h) (fun oi h => by cases h; exact Or.inl ⟨by rfl, fun w' hS' => by go_simp⟩) hHeld ?_
  try simp only [Act.put, List.setIfInBounds_toArray, List.set_cons_zero, List.set_cons_succ]
  refine take_d 7 (some 16) (.int .u8 (x : Int)) rfl (by kernel_rfl) (by kernel_rfl) (by kernel_rfl) (fun _ _ _ h => h) (fun oi h => by cases h; exact Or.inl ⟨by rfl, fun w' hS' => by go_simp⟩) hHeld ?_
  try simp only [Act.put, List.setIfInBounds_toArray, List.set_cons_zero, List.set_cons_succ]
  refine take_d 8 (some 17) (.int .i64 (x : Int)) rfl (by kernel_rfl) (by kernel_rfl) (by kernel_rfl) (fun _ _ _ h => h) (fun oi h => by cases h; exact Or.inl ⟨by rfl, fun w' hS' => by go_simp⟩) hHeld ?_
  try simp only [Act.put, List.setIfInBounds_toArray, List.set_cons_zero, List.set_cons_succ]
  refine take_d 9 (some 18) (.string t) rfl (by kernel_rfl) (by kernel_rfl) (by kernel_rfl) (fun _ _ _ h => h) (fun oi h => by cases h; exact Or.inl ⟨by rfl, fun w' hS' => by go_simp⟩) hHeld ?_
  try simp only [Act.put, List.setIfInBounds_toArray, List.set_cons_zero, List.set_cons_succ]
  refine take_d 10 (some 19) (.int .u8 (y : Int)) rfl (by kernel_rfl) (by kernel_rfl) (by kernel_rfl) (fun _ _ _ h => h) (fun oi h => by cases h; exact Or.inl ⟨by rfl, fun w' hS' => by go_simp⟩) hHeld ?_
  try simp only [Act.put, List.setIfInBounds_toArray, List.set_cons_zero, List.set_cons_succ]
  refine take_d 11 (some 20) (.int .i64 (y : Int)) rfl (by kernel_rfl) (by kernel_rfl) (by kernel_rfl) (fun _ _ _ h => h) (fun oi h => by cases h; exact Or.inl ⟨by rfl, fun w' hS' => by go_simp⟩) hHeld ?_
  try simp only [Act.put, List.setIfInBounds_toArray, List.set_cons_zero, List.set_cons_succ]
  refine take_d 12 (some 21) (.string t) rfl (by kernel_rfl) (by kernel_rfl) (by kernel_rfl) (fun _ _ _ h => h) (fun oi h => by cases h; exact Or.inl ⟨by rfl, fun w' hS' => by go_simp⟩) hHeld ?_
  try simp only [Act.put, List.setIfInBounds_toArray, List.set_cons_zero, List.set_cons_succ]
  refine take_d 13 (some 22) (.string C) rfl (by kernel_rfl) (by kernel_rfl) (by kernel_rfl) (fun _ _ _ h => h) (fun oi h => by cases h; exact Or.inl ⟨by rfl, fun w' hS' => by go_simp⟩) hHeld ?_
  try simp only [Act.put, List.setIfInBounds_toArray, List.set_cons_zero, List.set_cons_succ]
  refine two_d 14 16 rfl rfl (by kernel_rfl) ?_ ?_
  · intro K hK
    go_simp
    refine (CC.out _).mono ?_
    rintro e v1 ⟨rfl, bb⟩
    have hHeld2 := (⟨hHeld.1.below bb hHeld.1.lt, hHeld.2.trans (bb.mono hHeld.2.size)⟩ : _ ∧ _)
    refine hK.out _ _ hHeld2 (fun hHeld => ?_)
    clear hK K bb hHeld2
    try simp only [Act.put, List.setIfInBounds_toArray, List.set_cons_zero, List.set_cons_succ]
    refine take_d 15 (some 24) (.agg #[.int .i64 wd, .int .i64 ht, .int .i64 x, .int .i64 y, .string C]) rfl (by kernel_rfl) (by kernel_rfl) (by kernel_rfl) (fun _ _ _ h => h) (fun oi h => by cases h; exact Or.inl ⟨by rfl, fun w' hS' => by go_simp⟩) hHeld ?_
    try simp only [Act.put, List.setIfInBounds_toArray, List.set_cons_zero, List.set_cons_succ]
    refine one_d 16 (some 4) rfl (by kernel_rfl) ?_
    intro o ho1 hd
    cases ho1
    clear hd
    have lz : w.heap.size < v1.heap.size := hHeld.1.lt
    intro K hK
    go_simp
    refine hK.out _ _ ⟨hHeld.1.alloc _, hHeld.2.alloc hHeld.2.size _⟩ (fun hHeld => ?_)
    clear hK K
    try simp only [Act.put, List.setIfInBounds_toArray, List.set_cons_zero, List.set_cons_succ]
    have rp : Row (v1.alloc (.cells #[.int .i64 0, .int .i64 0, .int .i64 0, .int .i64 0, .string ⟨#[]⟩] 25 (0, 0))) v1.heap.size 25 [.int .i64 0, .int .i64 0, .int .i64 0, .int .i64 0, .string ⟨#[]⟩] := Row.new' rfl rfl
    generalize v1.heap.size = p at *
    generalize v1.alloc (.cells #[.int .i64 0, .int .i64 0, .int .i64 0, .int .i64 0, .string ⟨#[]⟩] 25 (0, 0)) = v2 at *
    refine one_d 17 none rfl (by kernel_rfl) ?_
    intro o ho1 hd K hK
    cases ho1
    refine step_store_row rfl 25 (.tmp 4) (.tmp 24) rfl p [.int .i64 wd, .int .i64 ht, .int .i64 x, .int .i64 y, .string C] rfl rfl _ _ rp infoScr rfl (by simp [Value.oneCell']) ?_
    rw [hd]
    have hz := hHeld.1.setRow_other (k := p) (by omega) (List.toArray [.int .i64 wd, .int .i64 ht, .int .i64 x, .int .i64 y, .string C])
    have rp2 := rp.setRow [.int .i64 wd, .int .i64 ht, .int .i64 x, .int .i64 y, .string C]
    have bl := below_row hHeld.2 (show w.heap.size ≤ p by omega) (List.toArray [.int .i64 wd, .int .i64 ht, .int .i64 x, .int .i64 y, .string C])
    refine hK.out _ _ ⟨hz, bl⟩ (fun hHeld => ?_)
    clear hK K hd hHeld rp
    try simp only [Act.put]
    refine wpAnyH_done (by kernel_rfl) ?_ _
    try simp only [Act.put]
    generalize v2.setRow p (List.toArray [.int .i64 wd, .int .i64 ht, .int .i64 x, .int .i64 y, .string C]) = w7 at *
    go_wp2_with (first | refine wpList_load_row rfl 25 (.tmp 4) rfl p rfl _ _ _ _ rp2 Try.underlying25 rfl infoScr ?_)
    refine (CW.out _).mono ?_
    rintro e w8 ⟨rfl, b8⟩
    have hz8 := hz.below b8 hz.lt
    have rp8 := rp2.below b8 rp2.lt
    have bl8 := bl.trans (b8.mono bl.size)
    clear hz rp2 bl b8
    go_wp2_with (first | refine wpList_store_row rfl 25 (.tmp 2) (.tmp 28) rfl w.heap.size _ rfl rfl _ _ hz8 infoScr rfl (by simp [Value.oneCell']) ?_)
    exact bodyPost_ret (results_row_tmp rfl _ _ w.heap.size 25 [.int .i64 0, .int .i64 0, .int .i64 0, .int .i64 0, .string ⟨#[]⟩] _ rfl (hz8.setRow [.int .i64 0, .int .i64 0, .int .i64 0, .int .i64 0, .string ⟨#[]⟩]) Try.underlying25 rfl infoScr) rfl ⟨rfl, below_row bl8 (Nat.le_refl _) _⟩
  · have lz : w.heap.size < w5.heap.size := hHeld.1.lt
    intro K hK
    go_simp
    refine hK.out _ _ ⟨hHeld.1.alloc _, hHeld.2.alloc hHeld.2.size _⟩ (fun hHeld => ?_)
    clear hK K
    try simp only [Act.put, List.setIfInBounds_toArray, List.set_cons_zero, List.set_cons_succ]
    have rp : Row (w5.alloc (.cells #[.int .i64 0, .int .i64 0, .int .i64 0, .int .i64 0, .string ⟨#[]⟩] 25 (0, 0))).drew w5.heap.size 25 [.int .i64 0, .int .i64 0, .int .i64 0, .int .i64 0, .string ⟨#[]⟩] := Row.new' rfl rfl
    generalize w5.heap.size = p at *
    generalize (w5.alloc (.cells #[.int .i64 0, .int .i64 0, .int .i64 0, .int .i64 0, .string ⟨#[]⟩] 25 (0, 0))).drew = v2 at *
    refine one_d 14 (some 23) rfl (by kernel_rfl) ?_
    intro o ho1 hd
    cases ho1
    clear hd
    intro K hK
    go_simp
    refine (CC.out _).mono ?_
    rintro e v1 ⟨rfl, bb⟩
    have rp := rp.below bb rp.lt
    have hHeld2 := (⟨hHeld.1.below bb hHeld.1.lt, hHeld.2.trans (bb.mono hHeld.2.size)⟩ : _ ∧ _)
    refine hK.out _ _ hHeld2 (fun hHeld => ?_)
    clear hK K bb hHeld2
    try simp only [Act.put, List.setIfInBounds_toArray, List.set_cons_zero, List.set_cons_succ]
    refine take_d 15 (some 24) (.agg #[.int .i64 wd, .int .i64 ht, .int .i64 x, .int .i64 y, .string C]) rfl (by kernel_rfl) (by kernel_rfl) (by kernel_rfl) (fun _ _ _ h => h) (fun oi h => by cases h; exact Or.inl ⟨by rfl, fun w' hS' => by go_simp⟩) hHeld ?_
    try simp only [Act.put, List.setIfInBounds_toArray, List.set_cons_zero, List.set_cons_succ]
    refine one_d 17 none rfl (by kernel_rfl) ?_
    intro o ho1 hd K hK
    cases ho1
    refine step_store_row rfl 25 (.tmp 4) (.tmp 24) rfl p [.int .i64 wd, .int .i64 ht, .int .i64 x, .int .i64 y, .string C] rfl rfl _ _ rp infoScr rfl (by simp [Value.oneCell']) ?_
    rw [hd]
    have hz := hHeld.1.setRow_other (k := p) (by omega) (List.toArray [.int .i64 wd, .int .i64 ht, .int .i64 x, .int .i64 y, .string C])
    have rp2 := rp.setRow [.int .i64 wd, .int .i64 ht, .int .i64 x, .int .i64 y, .string C]
    have bl := below_row hHeld.2 (show w.heap.size ≤ p by omega) (List.toArray [.int .i64 wd, .int .i64 ht, .int .i64 x, .int .i64 y, .string C])
    refine hK.out _ _ ⟨hz, bl⟩ (fun hHeld => ?_)
    clear hK K hd hHeld rp
    try simp only [Act.put]
    refine wpAnyH_done (by kernel_rfl) ?_ _
    try simp only [Act.put]
    generalize v1.setRow p (List.toArray [.int .i64 wd, .int .i64 ht, .int .i64 x, .int .i64 y, .string C]) = w7 at *
    go_wp2_with (first | refine wpList_load_row rfl 25 (.tmp 4) rfl p rfl _ _ _ _ rp2 Try.underlying25 rfl infoScr ?_)
    refine (CW.out _).mono ?_
    rintro e w8 ⟨rfl, b8⟩
    have hz8 := hz.below b8 hz.lt
    have rp8 := rp2.below b8 rp2.lt
    have bl8 := bl.trans (b8.mono bl.size)
    clear hz rp2 bl b8
    go_wp2_with (first | refine wpList_store_row rfl 25 (.tmp 2) (.tmp 28) rfl w.heap.size _ rfl rfl _ _ hz8 infoScr rfl (by simp [Value.oneCell']) ?_)
    exact bodyPost_ret (results_row_tmp rfl _ _ w.heap.size 25 [.int .i64 0, .int .i64 0, .int .i64 0, .int .i64 0, .string ⟨#[]⟩] _ rfl (hz8.setRow [.int .i64 0, .int .i64 0, .int .i64 0, .int .i64 0, .string ⟨#[]⟩]) Try.underlying25 rfl infoScr) rfl ⟨rfl, below_row bl8 (Nat.le_refl _) _⟩

end Go.Proofs.Ytekpbfbipkjibaa
