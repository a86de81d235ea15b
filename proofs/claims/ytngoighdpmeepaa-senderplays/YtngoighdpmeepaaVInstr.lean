/-
  Layer 15: instr.
-/
import Derived.Test.YtngoighdpmeepaaVNew
import Derived.Test.YtngoighdpmeepaaCut
namespace Go.Proofs.Ytngoighdpmeepaa
open Go.RowKit
set_option linter.unusedVariables false
set_option linter.unusedSimpArgs false
set_option maxRecDepth 20000

set_option maxHeartbeats 4000000 in
/-- instr. -/
theorem instr_any (now : ByteArray) (g n cap last : Nat) (L : List S15.St) (p : S15.St) (w : World) (hn : L.length = n + 1) (h8 : n < 8) (hp : L[n]? = some p) (ha : S15.StAt w g 0 L) (b : S15.St) (hb : L[0]? = some b) (ack : Nat) (h1 : b.tx.size ≤ 1099511627776) (h2 : p.tx.size ≤ 1099511627776) :
    Calls Try.prog 41 #[.agg #[.func (.func 34) #[] #[], .func (.func 35) #[] #[], .string now, .slice (some ⟨g, 0, none⟩) (n + 1) cap, .int .u64 (last : Int)], .int .u64 (ack : Int)] w fun e w' => e = .returned (.agg #[.int .u64 (b.num : Int), .int .u64 (p.num : Int), .int .u64 (ack : Int), .int .u64 (b.num : Int), .string (b.tx ++ ⟨#[62]⟩ ++ p.tx)]) ∧ Below w.heap.size w w' := by
  have CN : Hid (∀ wx, S15.StAt wx g 0 L → Calls Try.prog 40 #[.agg #[.func (.func 34) #[] #[], .func (.func 35) #[] #[], .string now, .slice (some ⟨g, 0, none⟩) (n + 1) cap, .int .u64 (last : Int)]] wx fun e w' => e = .returned (.agg #[.int .u64 (p.num : Int), .int .u64 (p.tick : Int), .string p.tx]) ∧ Below wx.heap.size wx w') := fun wx hx => newest_any now g n cap last L p wx hn h8 hp hx
  obtain ⟨X, hX⟩ : ∃ X : ByteArray, X = b.tx ++ ⟨#[62]⟩ ++ p.tx := ⟨_, rfl⟩
  have hXs : X.size ≤ 281474976710656 := by rw [hX, ByteArray.size_append, ByteArray.size_append]; show _ + 1 + _ ≤ _; omega
  have CD : Hid (∀ wx, Calls Try.prog 34 #[.string b.tx, .string p.tx] wx fun e w' => e = .returned (.string X) ∧ w' = wx) := fun wx => by rw [hX]; exact fD_any b.tx p.tx h1 h2 wx
  have CC : Hid (∀ wx, Calls Try.prog 50 #[.string X] wx fun e w' => e = .returned (.string X) ∧ Below wx.heap.size wx w') := fun wx => clone_any X wx hXs
  rw [← hX]
  clear hX hXs h1 h2
  have hs1 : (0 : Int) < ((n + 1 : Nat) : Int) := by omega
  have la : g < w.heap.size := ha.lt
  have r1 : Row ((w.alloc (.cells #[.func (.func 34) #[] #[], .func (.func 35) #[] #[], .string now, .slice (some ⟨g, 0, none⟩) (n + 1) cap, .int .u64 (last : Int)] 42 (0, 0))).alloc (.cells #[.int .u64 0, .int .u64 0, .int .u64 0, .int .u64 0, .string ⟨#[]⟩] 24 (0, 0))) w.heap.size 42 [.func (.func 34) #[] #[], .func (.func 35) #[] #[], .string now, .slice (some ⟨g, 0, none⟩) (n + 1) cap, .int .u64 (last : Int)] := (Row.new' rfl rfl).alloc _
  have q1 : Row ((w.alloc (.cells #[.func (.func 34) #[] #[], .func (.func 35) #[] #[], .string now, .slice (some ⟨g, 0, none⟩) (n + 1) cap, .int .u64 (last : Int)] 42 (0, 0))).alloc (.cells #[.int .u64 0, .int .u64 0, .int .u64 0, .int .u64 0, .string ⟨#[]⟩] 24 (0, 0))) (w.heap.size + 1) 24 [.int .u64 0, .int .u64 0, .int .u64 0, .int .u64 0, .string ⟨#[]⟩] := Row.new' rfl (by simp)
  have ha1 := (ha.alloc (.cells #[.func (.func 34) #[] #[], .func (.func 35) #[] #[], .string now, .slice (some ⟨g, 0, none⟩) (n + 1) cap, .int .u64 (last : Int)] 42 (0, 0))).alloc (.cells #[.int .u64 0, .int .u64 0, .int .u64 0, .int .u64 0, .string ⟨#[]⟩] 24 (0, 0))
  have bb : Below w.heap.size w ((w.alloc (.cells #[.func (.func 34) #[] #[], .func (.func 35) #[] #[], .string now, .slice (some ⟨g, 0, none⟩) (n + 1) cap, .int .u64 (last : Int)] 42 (0, 0))).alloc (.cells #[.int .u64 0, .int .u64 0, .int .u64 0, .int .u64 0, .string ⟨#[]⟩] 24 (0, 0))) := ((Below.refl _ _).alloc (Nat.le_refl _) _).alloc (by simp) _
  clear ha hp hn
  go_enter Try.func41, Try.ntmps41
  go_wp2
  generalize (w.alloc (.cells #[.func (.func 34) #[] #[], .func (.func 35) #[] #[], .string now, .slice (some ⟨g, 0, none⟩) (n + 1) cap, .int .u64 (last : Int)] 42 (0, 0))).alloc (.cells #[.int .u64 0, .int .u64 0, .int .u64 0, .int .u64 0, .string ⟨#[]⟩] 24 (0, 0)) = w1 at *
  refine wp_region_held_drew (S := fun w' => Row w' w.heap.size 42 [.func (.func 34) #[] #[], .func (.func 35) #[] #[], .string now, .slice (some ⟨g, 0, none⟩) (n + 1) cap, .int .u64 (last : Int)] ∧ Row w' (w.heap.size + 1) 24 [.int .u64 0, .int .u64 0, .int .u64 0, .int .u64 0, .string ⟨#[]⟩] ∧ S15.StAt w' g 0 L ∧ Below w.heap.size w w') (by kernel_rfl) (⟨r1.drew, q1.drew, ha1.drew, bb.drew⟩) (fun hHeld => ?_)
  generalize w1.drew = wd2 at *
  obtain ⟨Bz, hBz⟩ : ∃ B, B = wd2.heap.size := ⟨_, rfl⟩
  have lB0 : w.heap.size < Bz := by rw [hBz]; exact (hHeld.1).lt
  have lB1 : (w.heap.size + 1) < Bz := by rw [hBz]; exact (hHeld.2.1).lt
  have lB2 : g < Bz := by rw [hBz]; exact (hHeld.2.2.1).lt
  have lBw : w.heap.size ≤ Bz := by rw [hBz]; exact (hHeld.2.2.2).size
  have lw : Bz ≤ wd2.heap.size := by rw [hBz]; exact Nat.le_refl _
  clear hBz
  refine cut_hereT (G := ∀ (p5 p6 : Nat) (wz : World), (Bz ≤ p5 ∧ Bz ≤ p6 ∧ p5 ≠ p6) → Row wz p5 75 ([.int .u64 0, .int .u64 0, .string ⟨#[]⟩]) → Row wz p6 75 ([.int .u64 0, .int .u64 0, .string ⟨#[]⟩]) → (Row wz w.heap.size 42 [.func (.func 34) #[] #[], .func (.func 35) #[] #[], .string now, .slice (some ⟨g, 0, none⟩) (n + 1) cap, .int .u64 (last : Int)] ∧ Row wz (w.heap.size + 1) 24 [.int .u64 0, .int .u64 0, .int .u64 0, .int .u64 0, .string ⟨#[]⟩] ∧ S15.StAt wz g 0 L ∧ Below w.heap.size w wz) → (?B : Nat → Nat → World → Prop) p5 p6 wz) ?tree ?lf
  case tree =>
    intro leaf
    refine take_d 0 (some 8) (.pointer (some ⟨w.heap.size, 3, none⟩)) rfl (by kernel_rfl) (by kernel_rfl) (by kernel_rfl) (fun _ _ _ h => h) (fun oi h => by cases h; exact Or.inl ⟨by rfl, fun w' hS' => by go_simp⟩) hHeld ?_
    try simp only [Act.put, List.setIfInBounds_toArray, List.set_cons_zero, List.set_cons_succ]
    refine take_d 1 (some 9) (.slice (some ⟨g, 0, none⟩) (n + 1) cap) rfl (by kernel_rfl) (by kernel_rfl) (by kernel_rfl) (fun _ _ _ h => h) (fun oi h => by cases h; exact Or.inl ⟨by rfl, fun w' hS' => by have c : w'.cell? ⟨w.heap.size, 3, none⟩ = some (.slice (some ⟨g, 0, none⟩) (n + 1) cap) := hS'.1.cell 3; go_simp⟩) hHeld ?_
    try simp only [Act.put, List.setIfInBounds_toArray, List.set_cons_zero, List.set_cons_succ]
    refine take_d 2 (some 10) (.pointer (some ⟨g, 0, none⟩)) rfl (by kernel_rfl) (by kernel_rfl) (by kernel_rfl) (fun _ _ _ h => h) (fun oi h => by cases h; exact Or.inl ⟨by rfl, fun w' hS' => by go_simp⟩) hHeld ?_
    try simp only [Act.put, List.setIfInBounds_toArray, List.set_cons_zero, List.set_cons_succ]
    refine take_d 3 (some 11) (.agg #[.int .u64 (b.num : Int), .int .u64 (b.tick : Int), .string b.tx]) rfl (by kernel_rfl) (by kernel_rfl) (by kernel_rfl) (fun _ _ _ h => h) (fun oi h => by cases h; exact yieldsIf_load_mid (by rfl) 75 (.tmp 10) rfl g 0 rfl [.int .u64 (b.num : Int), .int .u64 (b.tick : Int), .string b.tx] _ (fun w' hS' => (hS'.2.2.1).load hb) Try.underlying75 rfl infoSt) hHeld ?_
    try simp only [Act.put, List.setIfInBounds_toArray, List.set_cons_zero, List.set_cons_succ]
    refine take_d 4 (some 12) (.agg #[.func (.func 34) #[] #[], .func (.func 35) #[] #[], .string now, .slice (some ⟨g, 0, none⟩) (n + 1) cap, .int .u64 (last : Int)]) rfl (by kernel_rfl) (by kernel_rfl) (by kernel_rfl) (fun _ _ _ h => h) (fun oi h => by cases h; exact yieldsIf_load_mid (by rfl) 42 (.tmp 2) rfl w.heap.size 0 rfl ([.func (.func 34) #[] #[], .func (.func 35) #[] #[], .string now, .slice (some ⟨g, 0, none⟩) (n + 1) cap, .int .u64 (last : Int)]) _ (fun w' hS' => hS'.1.range) Try.underlying42 rfl infoSn) hHeld ?_
    try simp only [Act.put, List.setIfInBounds_toArray, List.set_cons_zero, List.set_cons_succ]
    refine three_dT 5 6 7 rfl rfl rfl (by kernel_rfl) ?_ ?_ ?_
    · intro K hK
      go_simp
      refine (CN.out _ hHeld.2.2.1).mono ?_
      rintro e v3 ⟨rfl, bb0⟩
      replace lw := Nat.le_trans lw bb0.size
      refine hK.out _ _ (⟨hHeld.1.below bb0 hHeld.1.lt, hHeld.2.1.below bb0 hHeld.2.1.lt, hHeld.2.2.1.keep bb0, hHeld.2.2.2.trans (bb0.mono hHeld.2.2.2.size)⟩) (fun hHeld => ?_)
      clear bb0
      clear hK K
      try simp only [Act.put, List.setIfInBounds_toArray, List.set_cons_zero, List.set_cons_succ]
      refine two_d 6 7 rfl rfl (by kernel_rfl) ?_ ?_
      · intro K hK
        go_simp
        refine hK.out _ _ ⟨hHeld.1.alloc _, hHeld.2.1.alloc _, hHeld.2.2.1.alloc _, hHeld.2.2.2.alloc hHeld.2.2.2.size _⟩ (fun hHeld => ?_)
        clear hK K
        try simp only [Act.put, List.setIfInBounds_toArray, List.set_cons_zero, List.set_cons_succ]
        have lp5 : Bz ≤ v3.heap.size := lw
        have x5 : Row (v3.alloc (.cells #[.int .u64 0, .int .u64 0, .string ⟨#[]⟩] 75 (0, 0))) v3.heap.size 75 [.int .u64 0, .int .u64 0, .string ⟨#[]⟩] := Row.new' rfl rfl
        replace lw : Bz ≤ (v3.alloc (.cells #[.int .u64 0, .int .u64 0, .string ⟨#[]⟩] 75 (0, 0))).heap.size := Nat.le_trans lw (by simp)
        generalize v3.heap.size = p5 at *
        generalize v3.alloc (.cells #[.int .u64 0, .int .u64 0, .string ⟨#[]⟩] 75 (0, 0)) = v4 at *
        refine one_d 7 (some 6) rfl (by kernel_rfl) ?_
        intro o ho1 hd K hK
        cases ho1
        go_simp
        refine hK.out _ _ ⟨hHeld.1.alloc _, hHeld.2.1.alloc _, hHeld.2.2.1.alloc _, hHeld.2.2.2.alloc hHeld.2.2.2.size _⟩ (fun hHeld => ?_)
        clear hK K hd
        try simp only [Act.put, List.setIfInBounds_toArray, List.set_cons_zero, List.set_cons_succ]
        have lp6 : Bz ≤ v4.heap.size := lw
        have lp5p6 : p5 < v4.heap.size := x5.lt
        have x6 : Row (v4.alloc (.cells #[.int .u64 0, .int .u64 0, .string ⟨#[]⟩] 75 (0, 0))) v4.heap.size 75 [.int .u64 0, .int .u64 0, .string ⟨#[]⟩] := Row.new' rfl rfl
        replace x5 := x5.alloc (.cells #[.int .u64 0, .int .u64 0, .string ⟨#[]⟩] 75 (0, 0))
        replace lw : Bz ≤ (v4.alloc (.cells #[.int .u64 0, .int .u64 0, .string ⟨#[]⟩] 75 (0, 0))).heap.size := Nat.le_trans lw (by simp)
        generalize v4.heap.size = p6 at *
        generalize v4.alloc (.cells #[.int .u64 0, .int .u64 0, .string ⟨#[]⟩] 75 (0, 0)) = v5 at *
        exact leaf.out p5 p6 _ (by omega) x5 x6 hHeld
      · intro K hK
        go_simp
        refine hK.out _ _ ⟨hHeld.1.alloc _, hHeld.2.1.alloc _, hHeld.2.2.1.alloc _, hHeld.2.2.2.alloc hHeld.2.2.2.size _⟩ (fun hHeld => ?_)
        clear hK K
        try simp only [Act.put, List.setIfInBounds_toArray, List.set_cons_zero, List.set_cons_succ]
        have lp6 : Bz ≤ v3.heap.size := lw
        have x6 : Row (v3.alloc (.cells #[.int .u64 0, .int .u64 0, .string ⟨#[]⟩] 75 (0, 0))) v3.heap.size 75 [.int .u64 0, .int .u64 0, .string ⟨#[]⟩] := Row.new' rfl rfl
        replace lw : Bz ≤ (v3.alloc (.cells #[.int .u64 0, .int .u64 0, .string ⟨#[]⟩] 75 (0, 0))).heap.size := Nat.le_trans lw (by simp)
        generalize v3.heap.size = p6 at *
        generalize v3.alloc (.cells #[.int .u64 0, .int .u64 0, .string ⟨#[]⟩] 75 (0, 0)) = v4 at *
        refine one_d 6 (some 5) rfl (by kernel_rfl) ?_
        intro o ho1 hd K hK
        cases ho1
        go_simp
        refine hK.out _ _ ⟨hHeld.1.alloc _, hHeld.2.1.alloc _, hHeld.2.2.1.alloc _, hHeld.2.2.2.alloc hHeld.2.2.2.size _⟩ (fun hHeld => ?_)
        clear hK K hd
        try simp only [Act.put, List.setIfInBounds_toArray, List.set_cons_zero, List.set_cons_succ]
        have lp5 : Bz ≤ v4.heap.size := lw
        have lp6p5 : p6 < v4.heap.size := x6.lt
        have x5 : Row (v4.alloc (.cells #[.int .u64 0, .int .u64 0, .string ⟨#[]⟩] 75 (0, 0))) v4.heap.size 75 [.int .u64 0, .int .u64 0, .string ⟨#[]⟩] := Row.new' rfl rfl
        replace x6 := x6.alloc (.cells #[.int .u64 0, .int .u64 0, .string ⟨#[]⟩] 75 (0, 0))
        replace lw : Bz ≤ (v4.alloc (.cells #[.int .u64 0, .int .u64 0, .string ⟨#[]⟩] 75 (0, 0))).heap.size := Nat.le_trans lw (by simp)
        generalize v4.heap.size = p5 at *
        generalize v4.alloc (.cells #[.int .u64 0, .int .u64 0, .string ⟨#[]⟩] 75 (0, 0)) = v5 at *
        exact leaf.out p5 p6 _ (by omega) x5 x6 hHeld
    · intro K hK
      go_simp
      refine hK.out _ _ ⟨hHeld.1.alloc _, hHeld.2.1.alloc _, hHeld.2.2.1.alloc _, hHeld.2.2.2.alloc hHeld.2.2.2.size _⟩ (fun hHeld => ?_)
      clear hK K
      try simp only [Act.put, List.setIfInBounds_toArray, List.set_cons_zero, List.set_cons_succ]
      have lp5 : Bz ≤ wd2.heap.size := lw
      have x5 : Row (wd2.alloc (.cells #[.int .u64 0, .int .u64 0, .string ⟨#[]⟩] 75 (0, 0))) wd2.heap.size 75 [.int .u64 0, .int .u64 0, .string ⟨#[]⟩] := Row.new' rfl rfl
      replace lw : Bz ≤ (wd2.alloc (.cells #[.int .u64 0, .int .u64 0, .string ⟨#[]⟩] 75 (0, 0))).heap.size := Nat.le_trans lw (by simp)
      generalize wd2.heap.size = p5 at *
      generalize wd2.alloc (.cells #[.int .u64 0, .int .u64 0, .string ⟨#[]⟩] 75 (0, 0)) = v3 at *
      refine two_d 5 7 rfl rfl (by kernel_rfl) ?_ ?_
      · intro K hK
        go_simp
        refine (CN.out _ hHeld.2.2.1).mono ?_
        rintro e v4 ⟨rfl, bb0⟩
        replace x5 := x5.below bb0 x5.lt
        replace lw := Nat.le_trans lw bb0.size
        refine hK.out _ _ (⟨hHeld.1.below bb0 hHeld.1.lt, hHeld.2.1.below bb0 hHeld.2.1.lt, hHeld.2.2.1.keep bb0, hHeld.2.2.2.trans (bb0.mono hHeld.2.2.2.size)⟩) (fun hHeld => ?_)
        clear bb0
        clear hK K
        try simp only [Act.put, List.setIfInBounds_toArray, List.set_cons_zero, List.set_cons_succ]
        refine one_d 7 (some 6) rfl (by kernel_rfl) ?_
        intro o ho1 hd K hK
        cases ho1
        go_simp
        refine hK.out _ _ ⟨hHeld.1.alloc _, hHeld.2.1.alloc _, hHeld.2.2.1.alloc _, hHeld.2.2.2.alloc hHeld.2.2.2.size _⟩ (fun hHeld => ?_)
        clear hK K hd
        try simp only [Act.put, List.setIfInBounds_toArray, List.set_cons_zero, List.set_cons_succ]
        have lp6 : Bz ≤ v4.heap.size := lw
        have lp5p6 : p5 < v4.heap.size := x5.lt
        have x6 : Row (v4.alloc (.cells #[.int .u64 0, .int .u64 0, .string ⟨#[]⟩] 75 (0, 0))) v4.heap.size 75 [.int .u64 0, .int .u64 0, .string ⟨#[]⟩] := Row.new' rfl rfl
        replace x5 := x5.alloc (.cells #[.int .u64 0, .int .u64 0, .string ⟨#[]⟩] 75 (0, 0))
        replace lw : Bz ≤ (v4.alloc (.cells #[.int .u64 0, .int .u64 0, .string ⟨#[]⟩] 75 (0, 0))).heap.size := Nat.le_trans lw (by simp)
        generalize v4.heap.size = p6 at *
        generalize v4.alloc (.cells #[.int .u64 0, .int .u64 0, .string ⟨#[]⟩] 75 (0, 0)) = v5 at *
        exact leaf.out p5 p6 _ (by omega) x5 x6 hHeld
      · intro K hK
        go_simp
        refine hK.out _ _ ⟨hHeld.1.alloc _, hHeld.2.1.alloc _, hHeld.2.2.1.alloc _, hHeld.2.2.2.alloc hHeld.2.2.2.size _⟩ (fun hHeld => ?_)
        clear hK K
        try simp only [Act.put, List.setIfInBounds_toArray, List.set_cons_zero, List.set_cons_succ]
        have lp6 : Bz ≤ v3.heap.size := lw
        have lp5p6 : p5 < v3.heap.size := x5.lt
        have x6 : Row (v3.alloc (.cells #[.int .u64 0, .int .u64 0, .string ⟨#[]⟩] 75 (0, 0))) v3.heap.size 75 [.int .u64 0, .int .u64 0, .string ⟨#[]⟩] := Row.new' rfl rfl
        replace x5 := x5.alloc (.cells #[.int .u64 0, .int .u64 0, .string ⟨#[]⟩] 75 (0, 0))
        replace lw : Bz ≤ (v3.alloc (.cells #[.int .u64 0, .int .u64 0, .string ⟨#[]⟩] 75 (0, 0))).heap.size := Nat.le_trans lw (by simp)
        generalize v3.heap.size = p6 at *
        generalize v3.alloc (.cells #[.int .u64 0, .int .u64 0, .string ⟨#[]⟩] 75 (0, 0)) = v4 at *
        refine one_d 5 (some 13) rfl (by kernel_rfl) ?_
        intro o ho1 hd K hK
        cases ho1
        go_simp
        refine (CN.out _ hHeld.2.2.1).mono ?_
        rintro e v5 ⟨rfl, bb0⟩
        replace x5 := x5.below bb0 x5.lt
        replace x6 := x6.below bb0 x6.lt
        replace lw := Nat.le_trans lw bb0.size
        refine hK.out _ _ (⟨hHeld.1.below bb0 hHeld.1.lt, hHeld.2.1.below bb0 hHeld.2.1.lt, hHeld.2.2.1.keep bb0, hHeld.2.2.2.trans (bb0.mono hHeld.2.2.2.size)⟩) (fun hHeld => ?_)
        clear bb0
        clear hK K hd
        try simp only [Act.put, List.setIfInBounds_toArray, List.set_cons_zero, List.set_cons_succ]
        exact leaf.out p5 p6 _ (by omega) x5 x6 hHeld
    · intro K hK
      go_simp
      refine hK.out _ _ ⟨hHeld.1.alloc _, hHeld.2.1.alloc _, hHeld.2.2.1.alloc _, hHeld.2.2.2.alloc hHeld.2.2.2.size _⟩ (fun hHeld => ?_)
      clear hK K
      try simp only [Act.put, List.setIfInBounds_toArray, List.set_cons_zero, List.set_cons_succ]
      have lp6 : Bz ≤ wd2.heap.size := lw
      have x6 : Row (wd2.alloc (.cells #[.int .u64 0, .int .u64 0, .string ⟨#[]⟩] 75 (0, 0))) wd2.heap.size 75 [.int .u64 0, .int .u64 0, .string ⟨#[]⟩] := Row.new' rfl rfl
      replace lw : Bz ≤ (wd2.alloc (.cells #[.int .u64 0, .int .u64 0, .string ⟨#[]⟩] 75 (0, 0))).heap.size := Nat.le_trans lw (by simp)
      generalize wd2.heap.size = p6 at *
      generalize wd2.alloc (.cells #[.int .u64 0, .int .u64 0, .string ⟨#[]⟩] 75 (0, 0)) = v3 at *
      refine two_d 5 6 rfl rfl (by kernel_rfl) ?_ ?_
      · intro K hK
        go_simp
        refine (CN.out _ hHeld.2.2.1).mono ?_
        rintro e v4 ⟨rfl, bb0⟩
        replace x6 := x6.below bb0 x6.lt
        replace lw := Nat.le_trans lw bb0.size
        refine hK.out _ _ (⟨hHeld.1.below bb0 hHeld.1.lt, hHeld.2.1.below bb0 hHeld.2.1.lt, hHeld.2.2.1.keep bb0, hHeld.2.2.2.trans (bb0.mono hHeld.2.2.2.size)⟩) (fun hHeld => ?_)
        clear bb0
        clear hK K
        try simp only [Act.put, List.setIfInBounds_toArray, List.set_cons_zero, List.set_cons_succ]
        refine one_d 6 (some 5) rfl (by kernel_rfl) ?_
        intro o ho1 hd K hK
        cases ho1
        go_simp
        refine hK.out _ _ ⟨hHeld.1.alloc _, hHeld.2.1.alloc _, hHeld.2.2.1.alloc _, hHeld.2.2.2.alloc hHeld.2.2.2.size _⟩ (fun hHeld => ?_)
        clear hK K hd
        try simp only [Act.put, List.setIfInBounds_toArray, List.set_cons_zero, List.set_cons_succ]
        have lp5 : Bz ≤ v4.heap.size := lw
        have lp6p5 : p6 < v4.heap.size := x6.lt
        have x5 : Row (v4.alloc (.cells #[.int .u64 0, .int .u64 0, .string ⟨#[]⟩] 75 (0, 0))) v4.heap.size 75 [.int .u64 0, .int .u64 0, .string ⟨#[]⟩] := Row.new' rfl rfl
        replace x6 := x6.alloc (.cells #[.int .u64 0, .int .u64 0, .string ⟨#[]⟩] 75 (0, 0))
        replace lw : Bz ≤ (v4.alloc (.cells #[.int .u64 0, .int .u64 0, .string ⟨#[]⟩] 75 (0, 0))).heap.size := Nat.le_trans lw (by simp)
        generalize v4.heap.size = p5 at *
        generalize v4.alloc (.cells #[.int .u64 0, .int .u64 0, .string ⟨#[]⟩] 75 (0, 0)) = v5 at *
        exact leaf.out p5 p6 _ (by omega) x5 x6 hHeld
      · intro K hK
        go_simp
        refine hK.out _ _ ⟨hHeld.1.alloc _, hHeld.2.1.alloc _, hHeld.2.2.1.alloc _, hHeld.2.2.2.alloc hHeld.2.2.2.size _⟩ (fun hHeld => ?_)
        clear hK K
        try simp only [Act.put, List.setIfInBounds_toArray, List.set_cons_zero, List.set_cons_succ]
        have lp5 : Bz ≤ v3.heap.size := lw
        have lp6p5 : p6 < v3.heap.size := x6.lt
        have x5 : Row (v3.alloc (.cells #[.int .u64 0, .int .u64 0, .string ⟨#[]⟩] 75 (0, 0))) v3.heap.size 75 [.int .u64 0, .int .u64 0, .string ⟨#[]⟩] := Row.new' rfl rfl
        replace x6 := x6.alloc (.cells #[.int .u64 0, .int .u64 0, .string ⟨#[]⟩] 75 (0, 0))
        replace lw : Bz ≤ (v3.alloc (.cells #[.int .u64 0, .int .u64 0, .string ⟨#[]⟩] 75 (0, 0))).heap.size := Nat.le_trans lw (by simp)
        generalize v3.heap.size = p5 at *
        generalize v3.alloc (.cells #[.int .u64 0, .int .u64 0, .string ⟨#[]⟩] 75 (0, 0)) = v4 at *
        refine one_d 5 (some 13) rfl (by kernel_rfl) ?_
        intro o ho1 hd K hK
        cases ho1
        go_simp
        refine (CN.out _ hHeld.2.2.1).mono ?_
        rintro e v5 ⟨rfl, bb0⟩
        replace x6 := x6.below bb0 x6.lt
        replace x5 := x5.below bb0 x5.lt
        replace lw := Nat.le_trans lw bb0.size
        refine hK.out _ _ (⟨hHeld.1.below bb0 hHeld.1.lt, hHeld.2.1.below bb0 hHeld.2.1.lt, hHeld.2.2.1.keep bb0, hHeld.2.2.2.trans (bb0.mono hHeld.2.2.2.size)⟩) (fun hHeld => ?_)
        clear bb0
        clear hK K hd
        try simp only [Act.put, List.setIfInBounds_toArray, List.set_cons_zero, List.set_cons_succ]
        exact leaf.out p5 p6 _ (by omega) x5 x6 hHeld
  case lf =>
    intro p5 p6 wz hdis x5 x6 hHeld
    refine one_d 8 none rfl (by kernel_rfl) ?_
    intro o ho1 hd K hK
    cases ho1
    refine step_store_row rfl 75 (.tmp 5) (.tmp 11) rfl (p5) ([.int .u64 (b.num : Int), .int .u64 (b.tick : Int), .string b.tx]) rfl rfl _ _ x5 infoSt rfl (by simp [Value.oneCell']) ?_
    rw [hd]
    replace x6 := x6.setRow_other (k := p5) (by omega) (List.toArray ([.int .u64 (b.num : Int), .int .u64 (b.tick : Int), .string b.tx]))
    replace x5 := x5.setRow ([.int .u64 (b.num : Int), .int .u64 (b.tick : Int), .string b.tx])
    have hH : Row (wz.setRow p5 (List.toArray ([.int .u64 (b.num : Int), .int .u64 (b.tick : Int), .string b.tx]))) w.heap.size 42 [.func (.func 34) #[] #[], .func (.func 35) #[] #[], .string now, .slice (some ⟨g, 0, none⟩) (n + 1) cap, .int .u64 (last : Int)] ∧ Row (wz.setRow p5 (List.toArray ([.int .u64 (b.num : Int), .int .u64 (b.tick : Int), .string b.tx]))) (w.heap.size + 1) 24 [.int .u64 0, .int .u64 0, .int .u64 0, .int .u64 0, .string ⟨#[]⟩] ∧ S15.StAt (wz.setRow p5 (List.toArray ([.int .u64 (b.num : Int), .int .u64 (b.tick : Int), .string b.tx]))) g 0 L ∧ Below w.heap.size w (wz.setRow p5 (List.toArray ([.int .u64 (b.num : Int), .int .u64 (b.tick : Int), .string b.tx]))) := ⟨hHeld.1.setRow_other (k := p5) (by omega) (List.toArray ([.int .u64 (b.num : Int), .int .u64 (b.tick : Int), .string b.tx])), hHeld.2.1.setRow_other (k := p5) (by omega) (List.toArray ([.int .u64 (b.num : Int), .int .u64 (b.tick : Int), .string b.tx])), hHeld.2.2.1.setRow (k := (p5)) (by omega) (List.toArray ([.int .u64 (b.num : Int), .int .u64 (b.tick : Int), .string b.tx])), below_row hHeld.2.2.2 (show _ ≤ p5 by omega) (List.toArray ([.int .u64 (b.num : Int), .int .u64 (b.tick : Int), .string b.tx]))⟩
    clear hHeld
    generalize wz.setRow p5 (List.toArray ([.int .u64 (b.num : Int), .int .u64 (b.tick : Int), .string b.tx])) = v3 at *
    refine hK.out _ _ hH (fun hHeld => ?_)
    clear hH
    clear hK K hd
    try simp only [Act.put]
    refine one_d 9 none rfl (by kernel_rfl) ?_
    intro o ho1 hd K hK
    cases ho1
    refine step_store_row rfl 75 (.tmp 6) (.tmp 13) rfl (p6) ([.int .u64 (p.num : Int), .int .u64 (p.tick : Int), .string p.tx]) rfl rfl _ _ x6 infoSt rfl (by simp [Value.oneCell']) ?_
    rw [hd]
    replace x6 := x6.setRow ([.int .u64 (p.num : Int), .int .u64 (p.tick : Int), .string p.tx])
    replace x5 := x5.setRow_other (k := p6) (by omega) (List.toArray ([.int .u64 (p.num : Int), .int .u64 (p.tick : Int), .string p.tx]))
    have hH : Row (v3.setRow p6 (List.toArray ([.int .u64 (p.num : Int), .int .u64 (p.tick : Int), .string p.tx]))) w.heap.size 42 [.func (.func 34) #[] #[], .func (.func 35) #[] #[], .string now, .slice (some ⟨g, 0, none⟩) (n + 1) cap, .int .u64 (last : Int)] ∧ Row (v3.setRow p6 (List.toArray ([.int .u64 (p.num : Int), .int .u64 (p.tick : Int), .string p.tx]))) (w.heap.size + 1) 24 [.int .u64 0, .int .u64 0, .int .u64 0, .int .u64 0, .string ⟨#[]⟩] ∧ S15.StAt (v3.setRow p6 (List.toArray ([.int .u64 (p.num : Int), .int .u64 (p.tick : Int), .string p.tx]))) g 0 L ∧ Below w.heap.size w (v3.setRow p6 (List.toArray ([.int .u64 (p.num : Int), .int .u64 (p.tick : Int), .string p.tx]))) := ⟨hHeld.1.setRow_other (k := p6) (by omega) (List.toArray ([.int .u64 (p.num : Int), .int .u64 (p.tick : Int), .string p.tx])), hHeld.2.1.setRow_other (k := p6) (by omega) (List.toArray ([.int .u64 (p.num : Int), .int .u64 (p.tick : Int), .string p.tx])), hHeld.2.2.1.setRow (k := (p6)) (by omega) (List.toArray ([.int .u64 (p.num : Int), .int .u64 (p.tick : Int), .string p.tx])), below_row hHeld.2.2.2 (show _ ≤ p6 by omega) (List.toArray ([.int .u64 (p.num : Int), .int .u64 (p.tick : Int), .string p.tx]))⟩
    clear hHeld
    generalize v3.setRow p6 (List.toArray ([.int .u64 (p.num : Int), .int .u64 (p.tick : Int), .string p.tx])) = v4 at *
    refine hK.out _ _ hH (fun hHeld => ?_)
    clear hH
    clear hK K hd
    try simp only [Act.put]
    refine wpAnyH_done (by kernel_rfl) ?_ _
    try simp only [Act.put]
    replace r1 := hHeld.1
    replace q1 := hHeld.2.1
    replace ha1 := hHeld.2.2.1
    replace bb := hHeld.2.2.2
    clear hHeld
    have cx50 : v4.cell? ⟨p5, 0, none⟩ = some (.int .u64 (b.num : Int)) := x5.cell 0
    have cx52 : v4.cell? ⟨p5, 2, none⟩ = some (.string b.tx) := x5.cell 2
    have cx60 : v4.cell? ⟨p6, 0, none⟩ = some (.int .u64 (p.num : Int)) := x6.cell 0
    have cx62 : v4.cell? ⟨p6, 2, none⟩ = some (.string p.tx) := x6.cell 2
    have c0 := r1.cell 0
    simp only [List.getElem?_cons_succ, List.getElem?_cons_zero] at c0
    go_wp2_with fail
    refine (CD.out _).mono ?_
    rintro e _ ⟨rfl, rfl⟩
    go_wp2_with fail
    refine (CC.out _).mono ?_
    rintro e wa5 ⟨rfl, bwa5⟩
    replace r1 := r1.below bwa5 r1.lt
    replace q1 := q1.below bwa5 q1.lt
    replace ha1 := ha1.keep bwa5
    replace x6 := x6.below bwa5 x6.lt
    replace x5 := x5.below bwa5 x5.lt
    replace bb := bb.trans (bwa5.mono bb.size)
    clear bwa5
    clear cx50 cx52 cx60 cx62 c0
    have cx50 : wa5.cell? ⟨p5, 0, none⟩ = some (.int .u64 (b.num : Int)) := x5.cell 0
    have cx60 : wa5.cell? ⟨p6, 0, none⟩ = some (.int .u64 (p.num : Int)) := x6.cell 0
    go_wp2_with (first | refine wpList_store_row rfl 24 (.tmp 4) (.tmp 31) rfl ((w.heap.size + 1)) _ rfl rfl _ _ q1 infoIn rfl (by simp [Value.oneCell']) ?_)
    exact bodyPost_ret (results_cell_row rfl _ _ (w.heap.size + 1) _ _ _ _ rfl (q1.setRow [.int .u64 (b.num : Int), .int .u64 (p.num : Int), .int .u64 (ack : Int), .int .u64 (b.num : Int), .string X]) Try.underlying24 rfl infoIn) rfl ⟨rfl, below_row bb (by omega) _⟩

end Go.Proofs.Ytngoighdpmeepaa
