/-
  Layer 15: again, Due, First, Current, Set, New, and slices.Clone of states.
-/
import Derived.Test.YtngoighdpmeepaaVRule
import Derived.Laws.OwnMore
namespace Go.Proofs.Ytngoighdpmeepaa
open Go.RowKit
set_option linter.unusedVariables false
set_option maxRecDepth 20000

namespace S15
/-- When the newest state goes out again. -/
def againN (n last tick wait beat : Nat) : Nat := if n = 0 then addS last beat else min (addS last beat) (addS tick wait)
theorem again_eq {s : Sn} {n : Nat} (h : s.L.length = n + 1) (wait beat : Nat) : s.again wait beat = againN n s.last s.top.tick wait beat := by
  unfold Sn.again againN
  by_cases c : n = 0
  · rw [if_pos c, if_pos (by omega)]
  · rw [if_neg c, if_neg (by omega)]
theorem againN_le (n last tick wait beat : Nat) : againN n last tick wait beat ≤ 18446744073709551615 := by
  have := addS_le last beat
  unfold againN
  split <;> omega
end S15
theorem addN_any (a b : Nat) (ha : a ≤ 18446744073709551615) (hb : b ≤ 18446744073709551615) (w : World) :
    Calls Try.prog 52 #[.int .u64 (a : Int), .int .u64 (b : Int)] w fun e w' => e = .returned (.int .u64 ((S15.addS a b : Nat) : Int)) ∧ w' = w := by
  have := add_any (a : Int) (b : Int) (by omega) (by omega) (by omega) (by omega) w
  rw [S15.addS_cast] at this
  exact this
set_option maxHeartbeats 2000000 in
/-- again. -/
theorem again_any (now : ByteArray) (g n cap last : Nat) (L : List S15.St) (p : S15.St) (w : World) (hn : L.length = n + 1) (h8 : n < 8) (hp : L[n]? = some p) (ha : S15.StAt w g 0 L) (wait beat : Nat) (hw : wait ≤ 18446744073709551615) (hbt : beat ≤ 18446744073709551615) (hl : last ≤ 18446744073709551615) (ht : p.tick ≤ 18446744073709551615) :
    Calls Try.prog 39 #[.agg #[.func (.func 34) #[] #[], .func (.func 35) #[] #[], .string now, .slice (some ⟨g, 0, none⟩) (n + 1) cap, .int .u64 (last : Int)], .int .u64 (wait : Int), .int .u64 (beat : Int)] w fun e w' => e = .returned (.int .u64 ((S15.againN n last p.tick wait beat : Nat) : Int)) ∧ Below w.heap.size w w' := by
  have CN : Hid (∀ wx, S15.StAt wx g 0 L → Calls Try.prog 40 #[.agg #[.func (.func 34) #[] #[], .func (.func 35) #[] #[], .string now, .slice (some ⟨g, 0, none⟩) (n + 1) cap, .int .u64 (last : Int)]] wx fun e w' => e = .returned (.agg #[.int .u64 (p.num : Int), .int .u64 (p.tick : Int), .string p.tx]) ∧ Below wx.heap.size wx w') := fun wx hx => newest_any now g n cap last L p wx hn h8 hp hx
  have A1 := Lib.hid (addN_any last beat hl hbt)
  have A2 := Lib.hid (addN_any p.tick wait ht hw)
  unfold S15.againN
  have b1 := S15.addS_le last beat
  have b2 := S15.addS_le p.tick wait
  generalize S15.addS last beat = X at *
  generalize S15.addS p.tick wait = Y at *
  have hm : min (X : Int) (Y : Int) = ((min X Y : Nat) : Int) := by omega
  by_cases hc : n = 0
  · rw [if_pos hc]
    have e1 : ((n : Int) + 1 == 1) = true := by rw [beq_iff_eq]; omega
    have r1 : Row (w.alloc (.cells #[.func (.func 34) #[] #[], .func (.func 35) #[] #[], .string now, .slice (some ⟨g, 0, none⟩) (n + 1) cap, .int .u64 (last : Int)] 42 (0, 0))) w.heap.size 42 [.func (.func 34) #[] #[], .func (.func 35) #[] #[], .string now, .slice (some ⟨g, 0, none⟩) (n + 1) cap, .int .u64 (last : Int)] := Row.new' rfl rfl
    have bb : Below w.heap.size w (w.alloc (.cells #[.func (.func 34) #[] #[], .func (.func 35) #[] #[], .string now, .slice (some ⟨g, 0, none⟩) (n + 1) cap, .int .u64 (last : Int)] 42 (0, 0))) := (Below.refl _ _).alloc (Nat.le_refl _) _
    have la : g < w.heap.size := ha.lt
    have ha1 := ha.alloc (.cells #[.func (.func 34) #[] #[], .func (.func 35) #[] #[], .string now, .slice (some ⟨g, 0, none⟩) (n + 1) cap, .int .u64 (last : Int)] 42 (0, 0))
    clear ha
    go_enter Try.func39, Try.ntmps39
    clear hc hp hn
    go_wp2_with fail
    refine (A1.out _).mono ?_
    rintro e _ ⟨rfl, rfl⟩
    go_wp2
    go_ret
    exact ⟨rfl, bb⟩
  · rw [if_neg hc]
    have e1 : ((n : Int) + 1 == 1) = false := by rw [beq_eq_false_iff_ne]; omega
    have r1 : Row (w.alloc (.cells #[.func (.func 34) #[] #[], .func (.func 35) #[] #[], .string now, .slice (some ⟨g, 0, none⟩) (n + 1) cap, .int .u64 (last : Int)] 42 (0, 0))) w.heap.size 42 [.func (.func 34) #[] #[], .func (.func 35) #[] #[], .string now, .slice (some ⟨g, 0, none⟩) (n + 1) cap, .int .u64 (last : Int)] := Row.new' rfl rfl
    have bb : Below w.heap.size w (w.alloc (.cells #[.func (.func 34) #[] #[], .func (.func 35) #[] #[], .string now, .slice (some ⟨g, 0, none⟩) (n + 1) cap, .int .u64 (last : Int)] 42 (0, 0))) := (Below.refl _ _).alloc (Nat.le_refl _) _
    have la : g < w.heap.size := ha.lt
    have ha1 := ha.alloc (.cells #[.func (.func 34) #[] #[], .func (.func 35) #[] #[], .string now, .slice (some ⟨g, 0, none⟩) (n + 1) cap, .int .u64 (last : Int)] 42 (0, 0))
    clear ha
    go_enter Try.func39, Try.ntmps39
    clear hc hp hn
    go_wp2_with fail
    refine (A1.out _).mono ?_
    rintro e _ ⟨rfl, rfl⟩
    have hfd : ∀ wx : World, (Instr.field 75 (.agg #[.int .u64 (p.num : Int), .int .u64 (p.tick : Int), .string p.tx]) 1).run Try.prog wx = .ok (.int .u64 (p.tick : Int)) wx := fun _ => (by kernel_rfl)
    go_wp2_with (first | (refine wpList_load_row rfl 42 (.tmp 3) rfl (w.heap.size) rfl _ _ _ _ r1 Try.underlying42 rfl infoSn ?_; generalize w.alloc (.cells #[.func (.func 34) #[] #[], .func (.func 35) #[] #[], .string now, .slice (some ⟨g, 0, none⟩) (n + 1) cap, .int .u64 (last : Int)] 42 (0, 0)) = w1 at *))
    refine (CN.out _ ha1).mono ?_
    rintro e wa2 ⟨rfl, bwa2⟩
    replace r1 := r1.below bwa2 r1.lt
    replace ha1 := ha1.keep bwa2
    replace bb := bb.trans (bwa2.mono bb.size)
    clear bwa2
    go_wp2_with fail
    refine (A2.out _).mono ?_
    rintro e _ ⟨rfl, rfl⟩
    rcases Nat.lt_or_ge Y X with hy | hy
    · have hyi : (Y : Int) < (X : Int) := by omega
      go_wp2
      go_ret
      exact ⟨by rw [show min X Y = Y by omega]; rfl, bb⟩
    · have hyi : ¬ (Y : Int) < (X : Int) := by omega
      go_wp2
      go_ret
      exact ⟨by rw [show min X Y = X by omega]; rfl, bb⟩

set_option maxHeartbeats 2000000 in
/-- Due. -/
theorem due_any (now : ByteArray) (g n cap last : Nat) (L : List S15.St) (p : S15.St) (w : World) (hn : L.length = n + 1) (h8 : n < 8) (hp : L[n]? = some p) (ha : S15.StAt w g 0 L) (wait beat : Nat) (hw : wait ≤ 18446744073709551615) (hbt : beat ≤ 18446744073709551615) (hl : last ≤ 18446744073709551615) (ht : p.tick ≤ 18446744073709551615) :
    Calls Try.prog 20 #[.agg #[.func (.func 34) #[] #[], .func (.func 35) #[] #[], .string now, .slice (some ⟨g, 0, none⟩) (n + 1) cap, .int .u64 (last : Int)], .int .u64 (wait : Int), .int .u64 (beat : Int)] w fun e w' => e = .returned (.int .u64 (((if (decide (n < 7) && !decide (now = p.tx)) = true then 0 else S15.againN n last p.tick wait beat : Nat)) : Int)) ∧ Below w.heap.size w w' := by
  have CH : Hid (∀ wx, S15.StAt wx g 0 L → Calls Try.prog 38 #[.agg #[.func (.func 34) #[] #[], .func (.func 35) #[] #[], .string now, .slice (some ⟨g, 0, none⟩) (n + 1) cap, .int .u64 (last : Int)]] wx fun e w' => e = .returned (.bool (decide (n < 7) && !decide (now = p.tx))) ∧ Below wx.heap.size wx w') := fun wx hx => hasNew_any now g n cap last L p wx hn h8 hp hx
  have CG : Hid (∀ wx, S15.StAt wx g 0 L → Calls Try.prog 39 #[.agg #[.func (.func 34) #[] #[], .func (.func 35) #[] #[], .string now, .slice (some ⟨g, 0, none⟩) (n + 1) cap, .int .u64 (last : Int)], .int .u64 (wait : Int), .int .u64 (beat : Int)] wx fun e w' => e = .returned (.int .u64 ((S15.againN n last p.tick wait beat : Nat) : Int)) ∧ Below wx.heap.size wx w') := fun wx hx => again_any now g n cap last L p wx hn h8 hp hx wait beat hw hbt hl ht
  generalize S15.againN n last p.tick wait beat = X at *
  generalize (decide (n < 7) && !decide (now = p.tx)) = d at *
  have r1 : Row (w.alloc (.cells #[.func (.func 34) #[] #[], .func (.func 35) #[] #[], .string now, .slice (some ⟨g, 0, none⟩) (n + 1) cap, .int .u64 (last : Int)] 42 (0, 0))) w.heap.size 42 [.func (.func 34) #[] #[], .func (.func 35) #[] #[], .string now, .slice (some ⟨g, 0, none⟩) (n + 1) cap, .int .u64 (last : Int)] := Row.new' rfl rfl
  have bb : Below w.heap.size w (w.alloc (.cells #[.func (.func 34) #[] #[], .func (.func 35) #[] #[], .string now, .slice (some ⟨g, 0, none⟩) (n + 1) cap, .int .u64 (last : Int)] 42 (0, 0))) := (Below.refl _ _).alloc (Nat.le_refl _) _
  have la : g < w.heap.size := ha.lt
  have ha1 := ha.alloc (.cells #[.func (.func 34) #[] #[], .func (.func 35) #[] #[], .string now, .slice (some ⟨g, 0, none⟩) (n + 1) cap, .int .u64 (last : Int)] 42 (0, 0))
  clear ha
  go_enter Try.func20, Try.ntmps20
  clear hp hn
  go_wp2_with (first | (refine wpList_load_row rfl 42 (.tmp 3) rfl (w.heap.size) rfl _ _ _ _ r1 Try.underlying42 rfl infoSn ?_; generalize w.alloc (.cells #[.func (.func 34) #[] #[], .func (.func 35) #[] #[], .string now, .slice (some ⟨g, 0, none⟩) (n + 1) cap, .int .u64 (last : Int)] 42 (0, 0)) = w1 at *))
  refine (CH.out _ ha1).mono ?_
  rintro e wa2 ⟨rfl, bwa2⟩
  replace r1 := r1.below bwa2 r1.lt
  replace ha1 := ha1.keep bwa2
  replace bb := bb.trans (bwa2.mono bb.size)
  clear bwa2
  cases d
  · go_wp2_with (first | refine wpList_load_row rfl 42 (.tmp 3) rfl (w.heap.size) rfl _ _ _ _ r1 Try.underlying42 rfl infoSn ?_)
    refine (CG.out _ ha1).mono ?_
    rintro e wa3 ⟨rfl, bwa3⟩
    replace r1 := r1.below bwa3 r1.lt
    replace ha1 := ha1.keep bwa3
    replace bb := bb.trans (bwa3.mono bb.size)
    clear bwa3
    go_wp2
    go_ret
    exact ⟨rfl, bb⟩
  · go_wp2
    go_ret
    exact ⟨rfl, bb⟩

set_option maxHeartbeats 1000000 in
/-- First. -/
theorem first_any (now : ByteArray) (g n cap last : Nat) (L : List S15.St) (p : S15.St) (w : World) (hn : L.length = n + 1) (h8 : n < 8) (hp : L[n]? = some p) (ha : S15.StAt w g 0 L) (q : S15.St) (hq : L[0]? = some q) :
    Calls Try.prog 25 #[.agg #[.func (.func 34) #[] #[], .func (.func 35) #[] #[], .string now, .slice (some ⟨g, 0, none⟩) (n + 1) cap, .int .u64 (last : Int)]] w fun e w' => e = .returned (.string q.tx) ∧ Below w.heap.size w w' := by
  have ht := (ha.alloc (.cells #[.func (.func 34) #[] #[], .func (.func 35) #[] #[], .string now, .slice (some ⟨g, 0, none⟩) (n + 1) cap, .int .u64 (last : Int)] 42 (0, 0))).tx hq
  simp only [Nat.zero_mul, Nat.zero_add] at ht
  have r1 : Row (w.alloc (.cells #[.func (.func 34) #[] #[], .func (.func 35) #[] #[], .string now, .slice (some ⟨g, 0, none⟩) (n + 1) cap, .int .u64 (last : Int)] 42 (0, 0))) w.heap.size 42 [.func (.func 34) #[] #[], .func (.func 35) #[] #[], .string now, .slice (some ⟨g, 0, none⟩) (n + 1) cap, .int .u64 (last : Int)] := Row.new' rfl rfl
  have bb : Below w.heap.size w (w.alloc (.cells #[.func (.func 34) #[] #[], .func (.func 35) #[] #[], .string now, .slice (some ⟨g, 0, none⟩) (n + 1) cap, .int .u64 (last : Int)] 42 (0, 0))) := (Below.refl _ _).alloc (Nat.le_refl _) _
  have la : g < w.heap.size := ha.lt
  have ha1 := ha.alloc (.cells #[.func (.func 34) #[] #[], .func (.func 35) #[] #[], .string now, .slice (some ⟨g, 0, none⟩) (n + 1) cap, .int .u64 (last : Int)] 42 (0, 0))
  clear ha
  go_enter Try.func25, Try.ntmps25
  go_wp2
  go_ret
  exact ⟨rfl, bb⟩

set_option maxHeartbeats 1000000 in
/-- Current. -/
theorem current_any (now : ByteArray) (g n cap last : Nat) (L : List S15.St) (p : S15.St) (w : World) (hn : L.length = n + 1) (h8 : n < 8) (hp : L[n]? = some p) (ha : S15.StAt w g 0 L) :
    Calls Try.prog 24 #[.agg #[.func (.func 34) #[] #[], .func (.func 35) #[] #[], .string now, .slice (some ⟨g, 0, none⟩) (n + 1) cap, .int .u64 (last : Int)]] w fun e w' => e = .returned (.string now) ∧ Below w.heap.size w w' := by
  have r1 : Row (w.alloc (.cells #[.func (.func 34) #[] #[], .func (.func 35) #[] #[], .string now, .slice (some ⟨g, 0, none⟩) (n + 1) cap, .int .u64 (last : Int)] 42 (0, 0))) w.heap.size 42 [.func (.func 34) #[] #[], .func (.func 35) #[] #[], .string now, .slice (some ⟨g, 0, none⟩) (n + 1) cap, .int .u64 (last : Int)] := Row.new' rfl rfl
  have bb : Below w.heap.size w (w.alloc (.cells #[.func (.func 34) #[] #[], .func (.func 35) #[] #[], .string now, .slice (some ⟨g, 0, none⟩) (n + 1) cap, .int .u64 (last : Int)] 42 (0, 0))) := (Below.refl _ _).alloc (Nat.le_refl _) _
  have la : g < w.heap.size := ha.lt
  have ha1 := ha.alloc (.cells #[.func (.func 34) #[] #[], .func (.func 35) #[] #[], .string now, .slice (some ⟨g, 0, none⟩) (n + 1) cap, .int .u64 (last : Int)] 42 (0, 0))
  clear ha
  go_enter Try.func24, Try.ntmps24
  go_wp2
  go_ret
  exact ⟨rfl, bb⟩

set_option maxHeartbeats 1000000 in
/-- Set. -/
theorem set_any15 (now u : ByteArray) (g n cap last : Nat) (w : World) :
    Calls Try.prog 16 #[.agg #[.func (.func 34) #[] #[], .func (.func 35) #[] #[], .string now, .slice (some ⟨g, 0, none⟩) (n + 1) cap, .int .u64 (last : Int)], .string u] w fun e w' => e = .returned (.agg #[.func (.func 34) #[] #[], .func (.func 35) #[] #[], .string u, .slice (some ⟨g, 0, none⟩) (n + 1) cap, .int .u64 (last : Int)]) ∧ Below w.heap.size w w' := by
  have r2 : Row ((w.alloc (.cells #[.func (.func 34) #[] #[], .func (.func 35) #[] #[], .string u, .slice (some ⟨g, 0, none⟩) (n + 1) cap, .int .u64 (last : Int)] 42 (0, 0))).alloc (.cells #[.nilFunc, .nilFunc, .string ⟨#[]⟩, .slice none 0 0, .int .u64 0] 42 (0, 0))) w.heap.size 42 [.func (.func 34) #[] #[], .func (.func 35) #[] #[], .string u, .slice (some ⟨g, 0, none⟩) (n + 1) cap, .int .u64 (last : Int)] := (Row.new' rfl rfl).alloc _
  have q2 : Row ((w.alloc (.cells #[.func (.func 34) #[] #[], .func (.func 35) #[] #[], .string u, .slice (some ⟨g, 0, none⟩) (n + 1) cap, .int .u64 (last : Int)] 42 (0, 0))).alloc (.cells #[.nilFunc, .nilFunc, .string ⟨#[]⟩, .slice none 0 0, .int .u64 0] 42 (0, 0))) (w.heap.size + 1) 42 [.nilFunc, .nilFunc, .string ⟨#[]⟩, .slice none 0 0, .int .u64 0] := Row.new' rfl (by simp)
  have bb2 : Below w.heap.size w ((w.alloc (.cells #[.func (.func 34) #[] #[], .func (.func 35) #[] #[], .string u, .slice (some ⟨g, 0, none⟩) (n + 1) cap, .int .u64 (last : Int)] 42 (0, 0))).alloc (.cells #[.nilFunc, .nilFunc, .string ⟨#[]⟩, .slice none 0 0, .int .u64 0] 42 (0, 0))) := ((Below.refl _ _).alloc (Nat.le_refl _) _).alloc (by simp) _
  go_enter Try.func16, Try.ntmps16
  go_wp2_with (first | refine wpList_load_row rfl 42 (.tmp 2) rfl w.heap.size rfl _ _ _ _ r2 Try.underlying42 rfl infoSn ?_ | refine wpList_store_row rfl 42 (.tmp 4) (.tmp 7) rfl (w.heap.size + 1) _ rfl rfl _ _ q2 infoSn rfl (by simp [Value.oneCell']) ?_)
  exact bodyPost_ret (results_cell_row rfl _ _ (w.heap.size + 1) _ _ _ _ rfl (q2.setRow [.func (.func 34) #[] #[], .func (.func 35) #[] #[], .string u, .slice (some ⟨g, 0, none⟩) (n + 1) cap, .int .u64 (last : Int)]) Try.underlying42 rfl infoSn) rfl ⟨rfl, below_row bb2 (by omega) _⟩

end Go.Proofs.Ytngoighdpmeepaa
