/-
  Layer 16: which number is ahead, where a number's state stands; Of, Latest; slices.Clone of states, New.
-/
import Derived.Test.YtjfhinhakanhaaaGPlain
import Derived.Test.YtjfhinhakanhaaaRows
import Derived.Laws.IdiomStrings
import Derived.Lib.Hide
import Derived.Below
import Derived.Deep.MidRow
namespace Go.Proofs.Ytjfhinhakanhaaa
open Go.RowKit
set_option linter.unusedVariables false
set_option linter.unusedSimpArgs false
set_option maxRecDepth 20000

theorem isNaN_u64 (x : Int) (w : World) : Calls Try.prog 40 #[.int .u64 x] w fun e w' => e = .returned (.bool false) ∧ w' = w := by
  go_enter Try.func40, Try.ntmps40
  go_wp2
  go_ret
  exact ⟨rfl, rfl⟩
/-- Which of two numbers is ahead. -/
def cmpW (x y : Int) : Int := if x < y then -1 else if y < x then 1 else 0
set_option maxHeartbeats 1000000 in
theorem compare_u64 (x y : Int) (w : World) : Calls Try.prog 28 #[.int .u64 x, .int .u64 y] w fun e w' => e = .returned (.int .i64 (cmpW x y)) ∧ w' = w := by
  unfold cmpW
  go_enter Try.func28, Try.ntmps28
  go_wp2_with fail
  refine (isNaN_u64 _ _).mono ?_
  rintro e w1 ⟨rfl, rfl⟩
  go_wp2_with fail
  refine (isNaN_u64 _ _).mono ?_
  rintro e w2 ⟨rfl, rfl⟩
  by_cases a : x < y
  · go_wp2
    go_ret
    exact ⟨rfl, rfl⟩
  · by_cases b : y < x
    · go_wp2
      go_ret
      exact ⟨rfl, rfl⟩
    · go_wp2
      go_ret
      exact ⟨rfl, rfl⟩

set_option maxHeartbeats 1000000 in
/-- The closure by which a place is found. -/
theorem near_any (p : R16.Cm) (n : Nat) (w : World) : Calls Try.prog 27 #[.agg #[.int .u64 (p.num : Int), .string p.tx], .int .u64 (n : Int)] w fun e w' => e = .returned (.int .i64 (cmpW (p.num : Int) (n : Int))) ∧ Below w.heap.size w w' := by
  have b1 : Below w.heap.size w (w.alloc (.cells #[.int .u64 (p.num : Int), .string p.tx] 60 (0, 0))) := (Below.refl _ _).alloc (Nat.le_refl _) _
  have CC : Hid (∀ wx, Calls Try.prog 28 #[.int .u64 (p.num : Int), .int .u64 (n : Int)] wx fun e w' => e = .returned (.int .i64 (cmpW (p.num : Int) (n : Int))) ∧ w' = wx) := fun wx => compare_u64 _ _ wx
  go_enter Try.func27, Try.ntmps27
  go_wp2_with fail
  refine (CC.out _).mono ?_
  rintro e w3 ⟨rfl, rfl⟩
  go_wp2
  go_ret
  exact ⟨rfl, b1⟩

set_option maxHeartbeats 2000000 in
/-- slices.BinarySearchFunc of states by rising numbers. -/
theorem search_any (g off len cap n : Nat) (L : List R16.Cm) (w : World) (hl : L.length = len) (h9 : len ≤ 1000) (hu : R16.Up L) (ha : R16.CmAt w g off L) :
    Calls Try.prog 26 #[.slice (some ⟨g, off, none⟩) len cap, .int .u64 (n : Int), .func (.func 27) #[] #[]] w fun e w' => ∃ i : Nat, e = .returned (.tuple #[.int .i64 (i : Int), .bool (R16.at? L n i)]) ∧ R16.Pl L n i ∧ Below w.heap.size w w' := by
  have HU := Lib.hid hu
  have HL := Lib.hid hl
  have CC : Hid (∀ (p : R16.Cm) wx, Calls Try.prog 27 #[.agg #[.int .u64 (p.num : Int), .string p.tx], .int .u64 (n : Int)] wx fun e w' => e = .returned (.int .i64 (cmpW (p.num : Int) (n : Int))) ∧ Below wx.heap.size wx w') := fun p wx => near_any p n wx
  have bb : Below w.heap.size w w := Below.refl _ _
  clear hu hl
  go_enter Try.func26, Try.ntmps26
  go_wp2
  go_loopw [9, 10] (fun iv jv wr => ∃ i j : Nat, i ≤ j ∧ j ≤ len ∧ iv = .int .i64 (i : Int) ∧ jv = .int .i64 (j : Int) ∧ Hid (∀ (k : Nat) (p : R16.Cm), k < i → L[k]? = some p → p.num < n) ∧ Hid (∀ (k : Nat) (p : R16.Cm), j ≤ k → L[k]? = some p → n ≤ p.num) ∧ R16.CmAt wr g off L ∧ Below w.heap.size w wr) (fun iv jv _ => (intOf jv).toNat - (intOf iv).toNat)
  case atStart => exact ⟨0, len, Nat.zero_le _, Nat.le_refl _, rfl, rfl, fun k p hk => absurd hk (by omega), fun k p hk hp => absurd (List.getElem?_eq_some_iff.1 hp).1 (by have := HL.out; omega), ha, bb⟩
  case round =>
    clear ha bb
    obtain ⟨i, j, hij, hjl, rfl, rfl, H1, H2, ha, bb⟩ := hrel
    by_cases hlt : i < j
    · have hs : (i : Int) < (j : Int) := by omega
      obtain ⟨m, hm⟩ : ∃ m, m = (i + j) / 2 := ⟨_, rfl⟩
      have hm1 : i ≤ m := by omega
      have hm2 : m < j := by omega
      have y1 : IntKind.i64.wrap ((i : Int) + (j : Int)) = (i : Int) + (j : Int) := by rw [IntKind.wrap_i64]; omega
      have y2 : IntKind.u64.wrap ((i : Int) + (j : Int)) = (i : Int) + (j : Int) := by rw [IntKind.wrap_u64]; omega
      have y3 : ((i : Int) + (j : Int)) / 2 = (m : Int) := by omega
      have y4 : IntKind.i64.wrap (m : Int) = (m : Int) := by rw [IntKind.wrap_i64]; omega
      have y5 : IntKind.i64.wrap ((m : Int) + 1) = ((m + 1 : Nat) : Int) := by rw [IntKind.wrap_i64]; omega
      have hs2 : (m : Int) < (len : Int) := by omega
      obtain ⟨p, hp⟩ : ∃ p, L[m]? = some p := ⟨L[m]'(by have := HL.out; omega), List.getElem?_eq_getElem (by have := HL.out; omega)⟩
      have hr : wr.rangeAt g (off + m * 2) [.int .u64 (p.num : Int), .string p.tx] := ha.load hp
      clear hm
      go_wp2_with (refine wpList_load_mid rfl 60 (.tmp 27) rfl g (off + m * 2) rfl _ _ hr Try.underlying60 rfl infoCm ?_)
      refine (CC.out p _).mono ?_
      rintro e w2 ⟨rfl, b2⟩
      have bb2 := bb.trans (b2.mono bb.size)
      have ha2 := ha.keep b2
      have hy7 : IntKind.u64.wrap (m : Int) = (m : Int) := by rw [IntKind.wrap_u64]; omega
      clear hr ha bb b2
      by_cases hpn : p.num < n
      · have hv : cmpW (p.num : Int) (n : Int) = -1 := by unfold cmpW; rw [if_pos (by omega)]
        rw [hv]
        have H1' : Hid (∀ (k : Nat) (q : R16.Cm), k < m + 1 → L[k]? = some q → q.num < n) := fun k q hk hq => by
          by_cases c : k = m
          · subst c; rw [hp] at hq; cases hq; exact hpn
          · have := HU.out k m q p (by omega) hq hp; omega
        clear hv hpn hp
        go_wp2
        go_roundw
        case rel => exact ⟨m + 1, j, by omega, hjl, rfl, rfl, H1', H2, ha2, bb2⟩
        case measure => simp [intOf]; omega
      · have hv : ¬ cmpW (p.num : Int) (n : Int) < 0 := by unfold cmpW; rw [if_neg (by omega)]; split <;> omega
        have H2' : Hid (∀ (k : Nat) (q : R16.Cm), m ≤ k → L[k]? = some q → n ≤ q.num) := fun k q hk hq => by
          by_cases c : k = m
          · subst c; rw [hp] at hq; cases hq; omega
          · have := HU.out m k p q (by omega) hp hq; omega
        generalize cmpW (p.num : Int) (n : Int) = cv at *
        clear hpn hp
        go_wp2
        go_roundw
        case rel => exact ⟨i, m, hm1, by omega, rfl, rfl, H1, H2', ha2, bb2⟩
        case measure => simp [intOf]; omega
    · obtain rfl : i = j := by omega
      have hPl : Hid (R16.Pl L n i) := ⟨by have := HL.out; omega, fun k p hk hp => H1.out k p hk hp, fun k p hk hp => H2.out k p hk hp⟩
      by_cases hil : i < len
      · have hs2 : (i : Int) < (len : Int) := by omega
        obtain ⟨p, hp⟩ : ∃ p, L[i]? = some p := ⟨L[i]'(by have := HL.out; omega), List.getElem?_eq_getElem (by have := HL.out; omega)⟩
        have hr : wr.rangeAt g (off + i * 2) [.int .u64 (p.num : Int), .string p.tx] := ha.load hp
        have hat : R16.at? L n i = (cmpW (p.num : Int) (n : Int) == 0) := by
          unfold R16.at?
          rw [hp]
          have hge := H2.out i p (Nat.le_refl _) hp
          unfold cmpW
          rw [if_neg (by omega)]
          by_cases c : p.num = n
          · rw [if_neg (by omega)]; simp [c]
          · rw [if_pos (by omega)]; simp [c]
        have hat' := Lib.hid hat
        have hd : decide ((i : Int) < (len : Int)) = true := decide_eq_true hs2
        have c0 := ha.num hp
        have c1 := ha.tx hp
        clear hat hr hp
        go_wp2_with fail
        refine (CC.out p _).mono ?_
        rintro e w2 ⟨rfl, b2⟩
        have bb2 := bb.trans (b2.mono bb.size)
        clear c0 c1 ha bb b2
        generalize cmpW (p.num : Int) (n : Int) = cv at *
        go_wp2
        go_ret2
        exact ⟨i, by rw [hat'.out] <;> rfl, hPl.out, bb2⟩
      · have hs2 : ¬ (i : Int) < (len : Int) := by omega
        have hat' : Hid (R16.at? L n i = false) := by
          show R16.at? L n i = false
          unfold R16.at?
          rw [List.getElem?_eq_none (by have := HL.out; omega)]
        go_wp2
        go_ret2
        exact ⟨i, by rw [hat'.out] <;> rfl, hPl.out, bb⟩

set_option maxHeartbeats 1000000 in
/-- place. -/
theorem place_any (g n cap k : Nat) (L : List R16.Cm) (w : World) (hl : L.length = n + 1) (h9 : n ≤ 900) (hu : R16.Up L) (ha : R16.CmAt w g 0 L) :
    Calls Try.prog 20 #[.agg #[.func (.func 18) #[] #[], .slice (some ⟨g, 0, none⟩) (n + 1) cap], .int .u64 (k : Int)] w fun e w' => ∃ i : Nat, e = .returned (.tuple #[.int .i64 (i : Int), .bool (R16.at? L k i)]) ∧ R16.Pl L k i ∧ Below w.heap.size w w' := by
  have CS : Hid (∀ wx, R16.CmAt wx g 0 L → Calls Try.prog 26 #[.slice (some ⟨g, 0, none⟩) (n + 1) cap, .int .u64 (k : Int), .func (.func 27) #[] #[]] wx fun e w' => ∃ i : Nat, e = .returned (.tuple #[.int .i64 (i : Int), .bool (R16.at? L k i)]) ∧ R16.Pl L k i ∧ Below wx.heap.size wx w') := fun wx hx => search_any g 0 (n + 1) cap k L wx hl (by omega) hu hx
  have bb : Below w.heap.size w (w.alloc (.cells #[.func (.func 18) #[] #[], .slice (some ⟨g, 0, none⟩) (n + 1) cap] 30 (0, 0))) := (Below.refl _ _).alloc (Nat.le_refl _) _
  have ha1 := ha.alloc (.cells #[.func (.func 18) #[] #[], .slice (some ⟨g, 0, none⟩) (n + 1) cap] 30 (0, 0))
  clear ha hl hu
  go_enter Try.func20, Try.ntmps20
  go_wp2_with fail
  refine (CS.out _ ha1).mono ?_
  rintro e w2 ⟨i, rfl, hP, b2⟩
  have bb2 := bb.trans (b2.mono bb.size)
  have HP := Lib.hid hP
  clear hP ha1 bb b2
  go_wp2
  go_ret2
  exact ⟨i, rfl, HP.out, bb2⟩

/-- What Of answers. -/
def R16.ofT (L : List R16.Cm) (k i : Nat) : ByteArray := if R16.at? L k i then ((L[i]?).getD ⟨0, ⟨#[]⟩⟩).tx else ⟨#[]⟩
set_option maxHeartbeats 2000000 in
/-- Of. -/
theorem of_any16 (g n cap k : Nat) (L : List R16.Cm) (w : World) (hl : L.length = n + 1) (h9 : n ≤ 900) (hu : R16.Up L) (ha : R16.CmAt w g 0 L) :
    Calls Try.prog 14 #[.agg #[.func (.func 18) #[] #[], .slice (some ⟨g, 0, none⟩) (n + 1) cap], .int .u64 (k : Int)] w fun e w' => ∃ i : Nat, e = .returned (.tuple #[.string (R16.ofT L k i), .bool (R16.at? L k i)]) ∧ R16.Pl L k i ∧ Below w.heap.size w w' := by
  have CP : Hid (∀ wx, R16.CmAt wx g 0 L → Calls Try.prog 20 #[.agg #[.func (.func 18) #[] #[], .slice (some ⟨g, 0, none⟩) (n + 1) cap], .int .u64 (k : Int)] wx fun e w' => ∃ i : Nat, e = .returned (.tuple #[.int .i64 (i : Int), .bool (R16.at? L k i)]) ∧ R16.Pl L k i ∧ Below wx.heap.size wx w') := fun wx hx => place_any g n cap k L wx hl h9 hu hx
  have r1 : Row (w.alloc (.cells #[.func (.func 18) #[] #[], .slice (some ⟨g, 0, none⟩) (n + 1) cap] 30 (0, 0))) w.heap.size 30 [.func (.func 18) #[] #[], .slice (some ⟨g, 0, none⟩) (n + 1) cap] := Row.new' rfl rfl
  have bb : Below w.heap.size w (w.alloc (.cells #[.func (.func 18) #[] #[], .slice (some ⟨g, 0, none⟩) (n + 1) cap] 30 (0, 0))) := (Below.refl _ _).alloc (Nat.le_refl _) _
  have ha1 := ha.alloc (.cells #[.func (.func 18) #[] #[], .slice (some ⟨g, 0, none⟩) (n + 1) cap] 30 (0, 0))
  have HL := Lib.hid hl
  clear ha hl hu
  go_enter Try.func14, Try.ntmps14
  go_wp2_with (refine wpList_load_row rfl 30 (.tmp 2) rfl w.heap.size rfl _ _ _ _ r1 Try.underlying30 rfl infoRv ?_)
  generalize w.alloc (.cells #[.func (.func 18) #[] #[], .slice (some ⟨g, 0, none⟩) (n + 1) cap] 30 (0, 0)) = w1 at *
  refine (CP.out _ ha1).mono ?_
  rintro e w2 ⟨i, rfl, hP, b2⟩
  have bb2 := bb.trans (b2.mono bb.size)
  have HP := Lib.hid hP
  have r2 := r1.below b2 r1.lt
  have ha2 := ha1.keep b2
  clear hP ha1 bb b2 r1
  cases hat : R16.at? L k i with
  | false =>
    have hof : Hid (R16.ofT L k i = ⟨#[]⟩) := by show R16.ofT L k i = _; unfold R16.ofT; rw [hat]; rfl
    have HAT := Lib.hid hat
    have bb3 := bb2.alloc bb2.size (.cells #[.string ⟨#[]⟩] 9 (0, 0))
    clear hat r2 ha2
    go_wp2
    go_ret2
    exact ⟨i, by rw [hof.out, HAT.out] <;> rfl, HP.out, bb3⟩
  | true =>
    obtain ⟨p, hp⟩ : ∃ p, L[i]? = some p := by
      unfold R16.at? at hat
      cases h : L[i]? with
      | none => rw [h] at hat; cases hat
      | some p => exact ⟨p, rfl⟩
    have hof : Hid (R16.ofT L k i = p.tx) := by show R16.ofT L k i = _; unfold R16.ofT; rw [hat, hp]; rfl
    have HAT := Lib.hid hat
    have hi : i < n + 1 := by have := (List.getElem?_eq_some_iff.1 hp).1; have := HL.out; omega
    have hs : (i : Int) < ((n + 1 : Nat) : Int) := by omega
    have c3 := ha2.tx hp
    rw [Nat.zero_add] at c3
    have c2 := r2.cell 1
    simp only [List.getElem?_cons_zero, List.getElem?_cons_succ] at c2
    clear hat hp r2 ha2
    go_wp2
    go_ret2
    exact ⟨i, by rw [hof.out, HAT.out] <;> rfl, HP.out, bb2⟩

set_option maxHeartbeats 1000000 in
/-- Latest. -/
theorem latest_any (g n cap : Nat) (L : List R16.Cm) (p : R16.Cm) (w : World) (hl : L.length = n + 1) (h9 : n ≤ 900) (hp : L[n]? = some p) (ha : R16.CmAt w g 0 L) :
    Calls Try.prog 15 #[.agg #[.func (.func 18) #[] #[], .slice (some ⟨g, 0, none⟩) (n + 1) cap]] w fun e w' => e = .returned (.tuple #[.int .u64 (p.num : Int), .string p.tx]) ∧ Below w.heap.size w w' := by
  have e1 : ((n + 1 : Nat) : Int) - 1 = (n : Int) := by omega
  have e2 : (n : Int) < ((n + 1 : Nat) : Int) := by omega
  have e3 : (((n + 1 : Nat) : Int) - 1).toNat = n := by omega
  have e4 : ¬ ((n + 1 : Nat) : Int) - 1 < 0 := by omega
  have bb : Below w.heap.size w ((w.alloc (.cells #[.func (.func 18) #[] #[], .slice (some ⟨g, 0, none⟩) (n + 1) cap] 30 (0, 0))).alloc (.cells #[.int .u64 (p.num : Int), .string p.tx] 60 (0, 0))) := ((Below.refl _ _).alloc (Nat.le_refl _) _).alloc (by simp) _
  have hr : (w.alloc (.cells #[.func (.func 18) #[] #[], .slice (some ⟨g, 0, none⟩) (n + 1) cap] 30 (0, 0))).rangeAt g (n * 2) [.int .u64 (p.num : Int), .string p.tx] := by have := (ha.alloc (.cells #[.func (.func 18) #[] #[], .slice (some ⟨g, 0, none⟩) (n + 1) cap] 30 (0, 0))).load hp; rwa [Nat.zero_add] at this
  have hr2 : ((w.alloc (.cells #[.func (.func 18) #[] #[], .slice (some ⟨g, 0, none⟩) (n + 1) cap] 30 (0, 0))).alloc (.cells #[.int .u64 0, .string ⟨#[]⟩] 60 (0, 0))).rangeAt g (n * 2) [.int .u64 (p.num : Int), .string p.tx] := by have := ((ha.alloc (.cells #[.func (.func 18) #[] #[], .slice (some ⟨g, 0, none⟩) (n + 1) cap] 30 (0, 0))).alloc (.cells #[.int .u64 0, .string ⟨#[]⟩] 60 (0, 0))).load hp; rwa [Nat.zero_add] at this
  clear ha hp hl
  go_enter Try.func15, Try.ntmps15
  go_wp2_with (first | refine wpList_load_mid rfl 60 (.tmp 11) rfl g (n * 2) rfl _ _ hr Try.underlying60 rfl infoCm ?_ | refine wpList_load_mid rfl 60 (.tmp 11) rfl g (n * 2) rfl _ _ hr2 Try.underlying60 rfl infoCm ?_)
  go_region
  go_wp2
  go_ret2
  exact ⟨rfl, bb.drew⟩

end Go.Proofs.Ytjfhinhakanhaaa
