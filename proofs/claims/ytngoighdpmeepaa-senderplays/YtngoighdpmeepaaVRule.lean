/-
  Layer 15: Rule, its functions; newest, unsent, hasNew, Quiet, again, Due, First, Current, Set, New.
-/
import Derived.Test.YtngoighdpmeepaaVPlain
import Derived.Test.YtngoighdpmeepaaTLaws
import Derived.Test.YtngoighdpmeepaaRows
import Derived.Laws.IdiomStrings
import Derived.Lib.Hide
import Derived.Below
import Derived.Deep.MidRow
namespace Go.Proofs.Ytngoighdpmeepaa
open Go.RowKit
set_option linter.unusedVariables false
set_option maxRecDepth 20000

theorem infoSn : (Try.prog.info? 42).map (·.size) = some 5 := by kernel_rfl
theorem infoSt : (Try.prog.info? 75).map (·.size) = some 3 := by kernel_rfl
theorem infoIn : (Try.prog.info? 24).map (·.size) = some 5 := by kernel_rfl
theorem infoRu : (Try.prog.info? 39).map (·.size) = some 2 := by kernel_rfl
theorem beqS (a b : ByteArray) : (a.toList == b.toList) = decide (a = b) := by
  by_cases h : a = b
  · subst h; simp
  · rw [decide_eq_false h, beq_eq_false_iff_ne]
    intro hh; exact h (ByteArray.ext (by simpa [ByteArray.toList_eq] using hh))

theorem fS_any (a b : ByteArray) (w : World) : Calls Try.prog 35 #[.string a, .string b] w fun e w' => e = .returned (.bool (decide (a = b))) ∧ w' = w := by
  go_enter Try.func35, Try.ntmps35
  go_wp2
  go_ret
  exact ⟨by rw [← beqS]; rfl, rfl⟩
theorem fD_any (a b : ByteArray) (ha : a.size ≤ 1099511627776) (hb : b.size ≤ 1099511627776) (w : World) : Calls Try.prog 34 #[.string a, .string b] w fun e w' => e = .returned (.string (a ++ ⟨#[62]⟩ ++ b)) ∧ w' = w := by
  have h1 : (⟨#[62]⟩ : ByteArray).size = 1 := rfl
  have h2 : (a ++ ⟨#[62]⟩ : ByteArray).size = a.size + 1 := by rw [ByteArray.size_append]; rfl
  go_enter Try.func34, Try.ntmps34
  go_wp2
  go_ret
  exact ⟨rfl, rfl⟩
set_option maxHeartbeats 1000000 in
theorem rule_any (w : World) : Calls Try.prog 14 #[] w fun e w' => e = .returned (.agg #[.func (.func 34) #[] #[], .func (.func 35) #[] #[]]) ∧ Below w.heap.size w w' := by
  have r2 : Row (w.alloc (.cells #[.nilFunc, .nilFunc] 39 (0, 0))) w.heap.size 39 [.nilFunc, .nilFunc] := Row.new' rfl rfl
  have bb : Below w.heap.size w (w.alloc (.cells #[.nilFunc, .nilFunc] 39 (0, 0))) := (Below.refl _ _).alloc (Nat.le_refl _) _
  go_enter Try.func14, Try.ntmps14
  go_wp2_with (refine wpList_store_row rfl 39 (.tmp 0) (.tmp 1) rfl w.heap.size _ rfl rfl _ _ r2 infoRu rfl (by simp [Value.oneCell']) ?_)
  exact bodyPost_ret (results_cell_row rfl _ _ w.heap.size _ _ _ _ rfl (r2.setRow [.func (.func 34) #[] #[], .func (.func 35) #[] #[]]) Try.underlying39 rfl infoRu) rfl ⟨rfl, below_row bb (Nat.le_refl _) _⟩

set_option maxHeartbeats 1000000 in
/-- newest. -/
theorem newest_any (now : ByteArray) (g n cap last : Nat) (L : List S15.St) (p : S15.St) (w : World) (hn : L.length = n + 1) (h8 : n < 8) (hp : L[n]? = some p) (ha : S15.StAt w g 0 L) :
    Calls Try.prog 40 #[.agg #[.func (.func 34) #[] #[], .func (.func 35) #[] #[], .string now, .slice (some ⟨g, 0, none⟩) (n + 1) cap, .int .u64 (last : Int)]] w fun e w' => e = .returned (.agg #[.int .u64 (p.num : Int), .int .u64 (p.tick : Int), .string p.tx]) ∧ Below w.heap.size w w' := by
  have la : g < w.heap.size := ha.lt
  have e1 : ((n + 1 : Nat) : Int) - 1 = (n : Int) := by omega
  have e2 : (n : Int) < ((n + 1 : Nat) : Int) := by omega
  have e3 : (((n + 1 : Nat) : Int) - 1).toNat = n := by omega
  have e4 : ¬ ((n + 1 : Nat) : Int) - 1 < 0 := by omega
  have r2 : Row ((w.alloc (.cells #[.func (.func 34) #[] #[], .func (.func 35) #[] #[], .string now, .slice (some ⟨g, 0, none⟩) (n + 1) cap, .int .u64 (last : Int)] 42 (0, 0))).alloc (.cells #[.int .u64 0, .int .u64 0, .string ⟨#[]⟩] 75 (0, 0))) (w.heap.size + 1) 75 [.int .u64 0, .int .u64 0, .string ⟨#[]⟩] := Row.new' rfl (by simp)
  have bb : Below w.heap.size w ((w.alloc (.cells #[.func (.func 34) #[] #[], .func (.func 35) #[] #[], .string now, .slice (some ⟨g, 0, none⟩) (n + 1) cap, .int .u64 (last : Int)] 42 (0, 0))).alloc (.cells #[.int .u64 0, .int .u64 0, .string ⟨#[]⟩] 75 (0, 0))) := ((Below.refl _ _).alloc (Nat.le_refl _) _).alloc (by simp) _
  have hr := ((ha.alloc (.cells #[.func (.func 34) #[] #[], .func (.func 35) #[] #[], .string now, .slice (some ⟨g, 0, none⟩) (n + 1) cap, .int .u64 (last : Int)] 42 (0, 0))).alloc (.cells #[.int .u64 0, .int .u64 0, .string ⟨#[]⟩] 75 (0, 0))).load hp
  rw [Nat.zero_add] at hr
  clear ha hp hn
  go_enter Try.func40, Try.ntmps40
  go_wp2_with (first | refine wpList_load_mid rfl 75 (.tmp 9) rfl g (n * 3) rfl _ _ hr Try.underlying75 rfl infoSt ?_ | refine wpList_store_row rfl 75 (.tmp 2) (.tmp 10) rfl (w.heap.size + 1) _ rfl rfl _ _ r2 infoSt rfl (by simp [Value.oneCell', S15.St.c]) ?_)
  exact bodyPost_ret (results_cell_row rfl _ _ (w.heap.size + 1) _ _ _ _ rfl (r2.setRow p.c) Try.underlying75 rfl infoSt) rfl ⟨rfl, below_row bb (by omega) _⟩

set_option maxHeartbeats 2000000 in
/-- unsent. -/
theorem unsent_any (now : ByteArray) (g n cap last : Nat) (L : List S15.St) (p : S15.St) (w : World) (hn : L.length = n + 1) (h8 : n < 8) (hp : L[n]? = some p) (ha : S15.StAt w g 0 L) :
    Calls Try.prog 42 #[.agg #[.func (.func 34) #[] #[], .func (.func 35) #[] #[], .string now, .slice (some ⟨g, 0, none⟩) (n + 1) cap, .int .u64 (last : Int)]] w fun e w' => e = .returned (.bool (!decide (now = p.tx))) ∧ Below w.heap.size w w' := by
  have CN : Hid (∀ wx, S15.StAt wx g 0 L → Calls Try.prog 40 #[.agg #[.func (.func 34) #[] #[], .func (.func 35) #[] #[], .string now, .slice (some ⟨g, 0, none⟩) (n + 1) cap, .int .u64 (last : Int)]] wx fun e w' => e = .returned (.agg #[.int .u64 (p.num : Int), .int .u64 (p.tick : Int), .string p.tx]) ∧ Below wx.heap.size wx w') := fun wx hx => newest_any now g n cap last L p wx hn h8 hp hx
  have r1 : Row (w.alloc (.cells #[.func (.func 34) #[] #[], .func (.func 35) #[] #[], .string now, .slice (some ⟨g, 0, none⟩) (n + 1) cap, .int .u64 (last : Int)] 42 (0, 0))) w.heap.size 42 [.func (.func 34) #[] #[], .func (.func 35) #[] #[], .string now, .slice (some ⟨g, 0, none⟩) (n + 1) cap, .int .u64 (last : Int)] := Row.new' rfl rfl
  have bb : Below w.heap.size w (w.alloc (.cells #[.func (.func 34) #[] #[], .func (.func 35) #[] #[], .string now, .slice (some ⟨g, 0, none⟩) (n + 1) cap, .int .u64 (last : Int)] 42 (0, 0))) := (Below.refl _ _).alloc (Nat.le_refl _) _
  have la : g < w.heap.size := ha.lt
  have ha1 := ha.alloc (.cells #[.func (.func 34) #[] #[], .func (.func 35) #[] #[], .string now, .slice (some ⟨g, 0, none⟩) (n + 1) cap, .int .u64 (last : Int)] 42 (0, 0))
  clear ha
  go_enter Try.func42, Try.ntmps42
  clear hp hn
  go_wp2_with fail
  generalize w.alloc (.cells #[.func (.func 34) #[] #[], .func (.func 35) #[] #[], .string now, .slice (some ⟨g, 0, none⟩) (n + 1) cap, .int .u64 (last : Int)] 42 (0, 0)) = w1 at *
  refine wp_region_held_drew (S := fun w' => Row w' w.heap.size 42 [.func (.func 34) #[] #[], .func (.func 35) #[] #[], .string now, .slice (some ⟨g, 0, none⟩) (n + 1) cap, .int .u64 (last : Int)] ∧ S15.StAt w' g 0 L ∧ Below w.heap.size w w') (by kernel_rfl) (⟨r1.drew, ha1.drew, bb.drew⟩) (fun hHeld => ?_)
  refine take_d 0 (some 3) (.pointer (some ⟨w.heap.size, 0, none⟩)) rfl (by kernel_rfl) (by kernel_rfl) (by kernel_rfl) (fun _ _ _ h => h) (fun oi h => by cases h; exact Or.inl ⟨by rfl, fun w' hS' => by go_simp⟩) hHeld ?_
  try simp only [Act.put, List.setIfInBounds_toArray, List.set_cons_zero, List.set_cons_succ]
  refine take_d 1 (some 4) (.pointer (some ⟨w.heap.size, 1, none⟩)) rfl (by kernel_rfl) (by kernel_rfl) (by kernel_rfl) (fun _ _ _ h => h) (fun oi h => by cases h; exact Or.inl ⟨by rfl, fun w' hS' => by go_simp⟩) hHeld ?_
  try simp only [Act.put, List.setIfInBounds_toArray, List.set_cons_zero, List.set_cons_succ]
  refine take_d 2 (some 5) (.func (.func 35) #[] #[]) rfl (by kernel_rfl) (by kernel_rfl) (by kernel_rfl) (fun _ _ _ h => h) (fun oi h => by cases h; exact Or.inl ⟨by rfl, fun w' hS' => by have c : w'.cell? ⟨w.heap.size, 1, none⟩ = some (.func (.func 35) #[] #[]) := hS'.1.cell 1; go_simp⟩) hHeld ?_
  try simp only [Act.put, List.setIfInBounds_toArray, List.set_cons_zero, List.set_cons_succ]
  refine take_d 3 (some 6) (.pointer (some ⟨w.heap.size, 2, none⟩)) rfl (by kernel_rfl) (by kernel_rfl) (by kernel_rfl) (fun _ _ _ h => h) (fun oi h => by cases h; exact Or.inl ⟨by rfl, fun w' hS' => by go_simp⟩) hHeld ?_
  try simp only [Act.put, List.setIfInBounds_toArray, List.set_cons_zero, List.set_cons_succ]
  refine take_d 4 (some 7) (.string now) rfl (by kernel_rfl) (by kernel_rfl) (by kernel_rfl) (fun _ _ _ h => h) (fun oi h => by cases h; exact Or.inl ⟨by rfl, fun w' hS' => by have c : w'.cell? ⟨w.heap.size, 2, none⟩ = some (.string now) := hS'.1.cell 2; go_simp⟩) hHeld ?_
  try simp only [Act.put, List.setIfInBounds_toArray, List.set_cons_zero, List.set_cons_succ]
  refine take_d 5 (some 8) (.agg #[.func (.func 34) #[] #[], .func (.func 35) #[] #[], .string now, .slice (some ⟨g, 0, none⟩) (n + 1) cap, .int .u64 (last : Int)]) rfl (by kernel_rfl) (by kernel_rfl) (by kernel_rfl) (fun _ _ _ h => h) (fun oi h => by cases h; exact yieldsIf_load_mid (by rfl) 42 (.tmp 1) rfl w.heap.size 0 rfl [.func (.func 34) #[] #[], .func (.func 35) #[] #[], .string now, .slice (some ⟨g, 0, none⟩) (n + 1) cap, .int .u64 (last : Int)] _ (fun w' hS' => hS'.1.range) Try.underlying42 rfl infoSn) hHeld ?_
  try simp only [Act.put, List.setIfInBounds_toArray, List.set_cons_zero, List.set_cons_succ]
  refine one_d 6 (some 9) rfl (by kernel_rfl) ?_
  intro o ho hd K hK
  cases ho
  go_simp
  refine (CN.out _ hHeld.2.1).mono ?_
  rintro e v1 ⟨rfl, bb⟩
  have hHeld' := hHeld
  clear hHeld
  have hHeld := hHeld'
  clear hHeld'
  refine hK.out _ _ (⟨hHeld.1.below bb hHeld.1.lt, hHeld.2.1.keep bb, hHeld.2.2.trans (bb.mono hHeld.2.2.size)⟩) (fun hHeld => ?_)
  clear hK K hd bb
  try simp only [Act.put, List.setIfInBounds_toArray, List.set_cons_zero, List.set_cons_succ]
  refine take_d 7 (some 10) (.string p.tx) rfl (by kernel_rfl) (by kernel_rfl) (by kernel_rfl) (fun _ _ _ h => h) (fun oi h => by cases h; exact Or.inl ⟨by rfl, fun w' hS' => by have hfd : ∀ wx : World, (Instr.field 75 (.agg #[.int .u64 (p.num : Int), .int .u64 (p.tick : Int), .string p.tx]) 2).run Try.prog wx = .ok (.string p.tx) wx := fun _ => (by kernel_rfl); go_simp⟩) hHeld ?_
  try simp only [Act.put, List.setIfInBounds_toArray, List.set_cons_zero, List.set_cons_succ]
  refine one_d 8 (some 11) rfl (by kernel_rfl) ?_
  intro o ho hd K hK
  cases ho
  go_simp
  refine (fS_any now p.tx _).mono ?_
  rintro e wq ⟨rfl, rfl⟩
  refine hK.out _ _ hHeld (fun hHeld => ?_)
  clear hK K hd
  try simp only [Act.put, List.setIfInBounds_toArray, List.set_cons_zero, List.set_cons_succ]
  refine take_d 9 (some 12) (.bool (!decide (now = p.tx))) rfl (by kernel_rfl) (by kernel_rfl) (by kernel_rfl) (fun _ _ _ h => h) (fun oi h => by cases h; exact Or.inl ⟨by rfl, fun w' hS' => by go_simp⟩) hHeld ?_
  try simp only [Act.put, List.setIfInBounds_toArray, List.set_cons_zero, List.set_cons_succ]
  refine take_d 10 (some 2) (.bool (!decide (now = p.tx))) rfl (by kernel_rfl) (by kernel_rfl) (by kernel_rfl) (fun _ _ _ h => h) (fun oi h => by cases h; exact Or.inl ⟨by rfl, fun w' hS' => by go_simp⟩) hHeld ?_
  try simp only [Act.put, List.setIfInBounds_toArray, List.set_cons_zero, List.set_cons_succ]
  refine wpAnyH_done (by kernel_rfl) ?_ _
  try simp only [Act.put]
  have hb := hHeld.2.2
  go_wp2
  go_ret
  exact ⟨rfl, hb⟩

set_option maxHeartbeats 2000000 in
/-- hasNew. -/
theorem hasNew_any (now : ByteArray) (g n cap last : Nat) (L : List S15.St) (p : S15.St) (w : World) (hn : L.length = n + 1) (h8 : n < 8) (hp : L[n]? = some p) (ha : S15.StAt w g 0 L) :
    Calls Try.prog 38 #[.agg #[.func (.func 34) #[] #[], .func (.func 35) #[] #[], .string now, .slice (some ⟨g, 0, none⟩) (n + 1) cap, .int .u64 (last : Int)]] w fun e w' => e = .returned (.bool (decide (n < 7) && !decide (now = p.tx))) ∧ Below w.heap.size w w' := by
  have CU : Hid (∀ wx, S15.StAt wx g 0 L → Calls Try.prog 42 #[.agg #[.func (.func 34) #[] #[], .func (.func 35) #[] #[], .string now, .slice (some ⟨g, 0, none⟩) (n + 1) cap, .int .u64 (last : Int)]] wx fun e w' => e = .returned (.bool (!decide (now = p.tx))) ∧ Below wx.heap.size wx w') := fun wx hx => unsent_any now g n cap last L p wx hn h8 hp hx
  generalize decide (now = p.tx) = d at *
  by_cases hc : n < 7
  · rw [decide_eq_true hc, Bool.true_and]
    have e1 : ((n + 1 : Nat) : Int) < 8 := by omega
    have r1 : Row (w.alloc (.cells #[.func (.func 34) #[] #[], .func (.func 35) #[] #[], .string now, .slice (some ⟨g, 0, none⟩) (n + 1) cap, .int .u64 (last : Int)] 42 (0, 0))) w.heap.size 42 [.func (.func 34) #[] #[], .func (.func 35) #[] #[], .string now, .slice (some ⟨g, 0, none⟩) (n + 1) cap, .int .u64 (last : Int)] := Row.new' rfl rfl
    have bb : Below w.heap.size w (w.alloc (.cells #[.func (.func 34) #[] #[], .func (.func 35) #[] #[], .string now, .slice (some ⟨g, 0, none⟩) (n + 1) cap, .int .u64 (last : Int)] 42 (0, 0))) := (Below.refl _ _).alloc (Nat.le_refl _) _
    have la : g < w.heap.size := ha.lt
    have ha1 := ha.alloc (.cells #[.func (.func 34) #[] #[], .func (.func 35) #[] #[], .string now, .slice (some ⟨g, 0, none⟩) (n + 1) cap, .int .u64 (last : Int)] 42 (0, 0))
    clear ha
    go_enter Try.func38, Try.ntmps38
    clear hc hp hn
    go_wp2_with (first | (refine wpList_rowT (by rfl) 42 (.tmp 1) rfl (w.heap.size) rfl _ _ _ r1 Try.underlying42 rfl infoSn ?_; generalize w.alloc (.cells #[.func (.func 34) #[] #[], .func (.func 35) #[] #[], .string now, .slice (some ⟨g, 0, none⟩) (n + 1) cap, .int .u64 (last : Int)] 42 (0, 0)) = w1 at *))
    refine (CU.out _ ha1).mono ?_
    rintro e wa2 ⟨rfl, bwa2⟩
    replace r1 := r1.below bwa2 r1.lt
    replace ha1 := ha1.keep bwa2
    replace bb := bb.trans (bwa2.mono bb.size)
    clear bwa2
    go_wp2
    go_ret
    exact ⟨rfl, bb⟩
  · rw [decide_eq_false hc, Bool.false_and]
    have e1 : ¬ ((n + 1 : Nat) : Int) < 8 := by omega
    have r1 : Row (w.alloc (.cells #[.func (.func 34) #[] #[], .func (.func 35) #[] #[], .string now, .slice (some ⟨g, 0, none⟩) (n + 1) cap, .int .u64 (last : Int)] 42 (0, 0))) w.heap.size 42 [.func (.func 34) #[] #[], .func (.func 35) #[] #[], .string now, .slice (some ⟨g, 0, none⟩) (n + 1) cap, .int .u64 (last : Int)] := Row.new' rfl rfl
    have bb : Below w.heap.size w (w.alloc (.cells #[.func (.func 34) #[] #[], .func (.func 35) #[] #[], .string now, .slice (some ⟨g, 0, none⟩) (n + 1) cap, .int .u64 (last : Int)] 42 (0, 0))) := (Below.refl _ _).alloc (Nat.le_refl _) _
    have la : g < w.heap.size := ha.lt
    have ha1 := ha.alloc (.cells #[.func (.func 34) #[] #[], .func (.func 35) #[] #[], .string now, .slice (some ⟨g, 0, none⟩) (n + 1) cap, .int .u64 (last : Int)] 42 (0, 0))
    clear ha
    go_enter Try.func38, Try.ntmps38
    clear hc hp hn CU
    go_wp2
    go_ret
    exact ⟨rfl, bb⟩

set_option maxHeartbeats 2000000 in
/-- Quiet. -/
theorem quiet_any (now : ByteArray) (g n cap last : Nat) (L : List S15.St) (p : S15.St) (w : World) (hn : L.length = n + 1) (h8 : n < 8) (hp : L[n]? = some p) (ha : S15.StAt w g 0 L) :
    Calls Try.prog 26 #[.agg #[.func (.func 34) #[] #[], .func (.func 35) #[] #[], .string now, .slice (some ⟨g, 0, none⟩) (n + 1) cap, .int .u64 (last : Int)]] w fun e w' => e = .returned (.bool (decide (n = 0) && decide (now = p.tx))) ∧ Below w.heap.size w w' := by
  have CU : Hid (∀ wx, S15.StAt wx g 0 L → Calls Try.prog 42 #[.agg #[.func (.func 34) #[] #[], .func (.func 35) #[] #[], .string now, .slice (some ⟨g, 0, none⟩) (n + 1) cap, .int .u64 (last : Int)]] wx fun e w' => e = .returned (.bool (!decide (now = p.tx))) ∧ Below wx.heap.size wx w') := fun wx hx => unsent_any now g n cap last L p wx hn h8 hp hx
  generalize decide (now = p.tx) = d at *
  by_cases hc : n = 0
  · rw [decide_eq_true hc, Bool.true_and]
    have e1 : ((n : Int) + 1 == 1) = true := by rw [beq_iff_eq]; omega
    have r1 : Row (w.alloc (.cells #[.func (.func 34) #[] #[], .func (.func 35) #[] #[], .string now, .slice (some ⟨g, 0, none⟩) (n + 1) cap, .int .u64 (last : Int)] 42 (0, 0))) w.heap.size 42 [.func (.func 34) #[] #[], .func (.func 35) #[] #[], .string now, .slice (some ⟨g, 0, none⟩) (n + 1) cap, .int .u64 (last : Int)] := Row.new' rfl rfl
    have bb : Below w.heap.size w (w.alloc (.cells #[.func (.func 34) #[] #[], .func (.func 35) #[] #[], .string now, .slice (some ⟨g, 0, none⟩) (n + 1) cap, .int .u64 (last : Int)] 42 (0, 0))) := (Below.refl _ _).alloc (Nat.le_refl _) _
    have la : g < w.heap.size := ha.lt
    have ha1 := ha.alloc (.cells #[.func (.func 34) #[] #[], .func (.func 35) #[] #[], .string now, .slice (some ⟨g, 0, none⟩) (n + 1) cap, .int .u64 (last : Int)] 42 (0, 0))
    clear ha
    go_enter Try.func26, Try.ntmps26
    clear hc hp hn
    go_wp2_with (first | (refine wpList_rowT (by rfl) 42 (.tmp 1) rfl (w.heap.size) rfl _ _ _ r1 Try.underlying42 rfl infoSn ?_; generalize w.alloc (.cells #[.func (.func 34) #[] #[], .func (.func 35) #[] #[], .string now, .slice (some ⟨g, 0, none⟩) (n + 1) cap, .int .u64 (last : Int)] 42 (0, 0)) = w1 at *))
    refine (CU.out _ ha1).mono ?_
    rintro e wa2 ⟨rfl, bwa2⟩
    replace r1 := r1.below bwa2 r1.lt
    replace ha1 := ha1.keep bwa2
    replace bb := bb.trans (bwa2.mono bb.size)
    clear bwa2
    go_wp2
    go_ret
    exact ⟨by simp, bb⟩
  · rw [decide_eq_false hc, Bool.false_and]
    have e1 : ((n : Int) + 1 == 1) = false := by rw [beq_eq_false_iff_ne]; omega
    have r1 : Row (w.alloc (.cells #[.func (.func 34) #[] #[], .func (.func 35) #[] #[], .string now, .slice (some ⟨g, 0, none⟩) (n + 1) cap, .int .u64 (last : Int)] 42 (0, 0))) w.heap.size 42 [.func (.func 34) #[] #[], .func (.func 35) #[] #[], .string now, .slice (some ⟨g, 0, none⟩) (n + 1) cap, .int .u64 (last : Int)] := Row.new' rfl rfl
    have bb : Below w.heap.size w (w.alloc (.cells #[.func (.func 34) #[] #[], .func (.func 35) #[] #[], .string now, .slice (some ⟨g, 0, none⟩) (n + 1) cap, .int .u64 (last : Int)] 42 (0, 0))) := (Below.refl _ _).alloc (Nat.le_refl _) _
    have la : g < w.heap.size := ha.lt
    have ha1 := ha.alloc (.cells #[.func (.func 34) #[] #[], .func (.func 35) #[] #[], .string now, .slice (some ⟨g, 0, none⟩) (n + 1) cap, .int .u64 (last : Int)] 42 (0, 0))
    clear ha
    go_enter Try.func26, Try.ntmps26
    clear hc hp hn CU
    go_wp2
    go_ret
    exact ⟨rfl, bb⟩

end Go.Proofs.Ytngoighdpmeepaa
