/-
  Layer 16: slices.Clone of states, New, Rule and its function, Numbers, kept, slices.Insert at the end.
-/
import Derived.Test.YtjfhinhakanhaaaGFns
import Derived.Deep.RegionHeld3
namespace Go.Proofs.Ytjfhinhakanhaaa
open Go.RowKit
set_option linter.unusedVariables false
set_option linter.unusedSimpArgs false
set_option maxRecDepth 20000

set_option maxHeartbeats 1000000 in
/-- slices.Clone of states. -/
theorem cloneCm_any (g off n cap : Nat) (L : List R16.Cm) (w : World) (hn : L.length = n + 1) (h8 : n < 1000) (ha : R16.CmAt w g off L) :
    Calls Try.prog 24 #[.slice (some ⟨g, off, none⟩) (n + 1) cap] w fun e w' => ∃ v, e = .returned v ∧ w'.ownsRow w.heap.size 60 2 v (n + 1) (R16.cellsL L) ∧ Below w.heap.size w w' := by
  obtain ⟨i0, hi, hz0, hz1, hz2⟩ := info_parts infoCmZ
  have hw := ha.alloc (.cells #[] 60 (0, 0))
  have hnews : Hid (∀ j u, (R16.cellsL L)[j]? = some u → (w.alloc (.cells #[] 60 (0, 0))).cell? ((⟨g, off, none⟩ : Addr).add j) = some u) := fun j u hj => by rw [R16.addrAdd]; exact hw.cellAt hj
  have hlen : Hid ((R16.cellsL L).length = (n + 1) * 2) := by show _ = _; rw [R16.cellsL_len, hn]
  have hone := Lib.hid (R16.cellsL_one L)
  have hown0 : (w.alloc (.cells #[] 60 (0, 0))).ownsRow w.heap.size 60 2 (.slice (some ⟨w.heap.size, 0, none⟩) 0 0) 0 [] := World.ownsRow_lit w #[] 0 (Nat.le_refl _) (by decide) rfl
  have bb : Below w.heap.size w (w.alloc (.cells #[] 60 (0, 0))) := (Below.refl _ _).alloc (Nat.le_refl _) _
  have hq : ∀ wx : World, (binOp .eql 28 (.slice (some ⟨g, off, none⟩) (n + 1) cap) (.slice none 0 0)).run Try.prog wx = .ok (.bool false) wx := fun wx => Lib.run_eql_slice_nil (P := Try.prog) wx 28 60 (some ⟨g, off, none⟩) (n + 1) cap 0 0 Try.underlying28
  clear ha hn hw
  go_enter Try.func24, Try.ntmps24
  go_wp2_with (at_builtin; refine wpList_append_own _ rfl _ _ 28 rfl w.heap.size 60 i0 _ 2 24 Try.underlying28 hi hz0 hz1 hz2 rfl (by decide) (.slice (some ⟨w.heap.size, 0, none⟩) 0 0) 0 [] rfl hown0 ⟨g, off, none⟩ (n + 1) cap (R16.cellsL L) rfl hlen.out hnews.out hone.out (by unfold maxLen; omega) (by omega) (by simp) ?_)
  intro v' w' ho hg _
  have bb2 := bb.grown hg (by simp) (fun k hk => by cases hk; exact Nat.le_refl _)
  clear hg
  go_wp2
  go_ret
  exact ⟨v', rfl, ho, bb2⟩

set_option maxHeartbeats 1000000 in
theorem rule16_any (w : World) : Calls Try.prog 9 #[] w fun e w' => e = .returned (.agg #[.func (.func 18) #[] #[]]) ∧ Below w.heap.size w w' := by
  have r2 : Row (w.alloc (.cells #[.nilFunc] 27 (0, 0))) w.heap.size 27 [.nilFunc] := Row.new' rfl rfl
  have bb : Below w.heap.size w (w.alloc (.cells #[.nilFunc] 27 (0, 0))) := (Below.refl _ _).alloc (Nat.le_refl _) _
  go_enter Try.func9, Try.ntmps9
  go_wp2_with (refine wpList_store_row rfl 27 (.tmp 0) (.tmp 1) rfl w.heap.size _ rfl rfl _ _ r2 infoRl rfl (by simp [Value.oneCell']) ?_)
  exact bodyPost_ret (results_cell_row rfl _ _ w.heap.size _ _ _ _ rfl (r2.setRow [.func (.func 18) #[] #[]]) Try.underlying27 rfl infoRl) rfl ⟨rfl, below_row bb (Nat.le_refl _) _⟩

set_option maxHeartbeats 1000000 in
/-- New. -/
theorem new16_any (t : ByteArray) (w : World) :
    Calls Try.prog 8 #[.string t, .agg #[.func (.func 18) #[] #[]]] w fun e w' => ∃ g, e = .returned (.agg #[.func (.func 18) #[] #[], .slice (some ⟨g, 0, none⟩) 1 1]) ∧ R16.CmAt w' g 0 [⟨0, t⟩] ∧ Below w.heap.size w w' := by
  have r0 : Row (((w.alloc (.cells #[.func (.func 18) #[] #[]] 27 (0, 0))).alloc (.cells #[.nilFunc, .slice none 0 0] 30 (0, 0))).alloc (.cells #[.int .u64 0, .string t] 60 (0, 0))) w.heap.size 27 [.func (.func 18) #[] #[]] := ((Row.new' rfl rfl).alloc _).alloc _
  have q1 : Row (((w.alloc (.cells #[.func (.func 18) #[] #[]] 27 (0, 0))).alloc (.cells #[.nilFunc, .slice none 0 0] 30 (0, 0))).alloc (.cells #[.int .u64 0, .string t] 60 (0, 0))) (w.heap.size + 1) 30 [.nilFunc, .slice none 0 0] := (Row.new' rfl (by simp)).alloc _
  have s1 : Row (((w.alloc (.cells #[.func (.func 18) #[] #[]] 27 (0, 0))).alloc (.cells #[.nilFunc, .slice none 0 0] 30 (0, 0))).alloc (.cells #[.int .u64 0, .string t] 60 (0, 0))) (w.heap.size + 2) 60 [.int .u64 0, .string t] := Row.new' rfl (by simp)
  have bb : Below w.heap.size w (((w.alloc (.cells #[.func (.func 18) #[] #[]] 27 (0, 0))).alloc (.cells #[.nilFunc, .slice none 0 0] 30 (0, 0))).alloc (.cells #[.int .u64 0, .string t] 60 (0, 0))) := (((Below.refl _ _).alloc (Nat.le_refl _) _).alloc (by simp) _).alloc (by simp; omega) _
  have hs : R16.CmAt (((w.alloc (.cells #[.func (.func 18) #[] #[]] 27 (0, 0))).alloc (.cells #[.nilFunc, .slice none 0 0] 30 (0, 0))).alloc (.cells #[.int .u64 0, .string t] 60 (0, 0))) (w.heap.size + 2) 0 [⟨0, t⟩] := ⟨_, [], [], rfl, s1⟩
  have r0' : Row ((w.alloc (.cells #[.func (.func 18) #[] #[]] 27 (0, 0))).alloc (.cells #[.nilFunc, .slice none 0 0] 30 (0, 0))) w.heap.size 27 [.func (.func 18) #[] #[]] := (Row.new' rfl rfl).alloc _
  go_enter Try.func8, Try.ntmps8
  go_wp2_with (first | refine wpList_load_row rfl 27 (.tmp 3) rfl w.heap.size rfl _ _ _ _ r0' Try.underlying27 rfl infoRl ?_ | refine wpList_load_row rfl 27 (.tmp 3) rfl w.heap.size rfl _ _ _ _ r0 Try.underlying27 rfl infoRl ?_ | refine wpList_store_row rfl 30 (.tmp 4) (.tmp 9) rfl (w.heap.size + 1) _ rfl rfl _ _ q1 infoRv rfl (by simp [Value.oneCell']) ?_)
  exact bodyPost_ret (results_cell_row rfl _ _ (w.heap.size + 1) _ _ _ _ rfl (q1.setRow [.func (.func 18) #[] #[], .slice (some ⟨w.heap.size + 2, 0, none⟩) 1 1]) Try.underlying30 rfl infoRv) rfl ⟨w.heap.size + 2, rfl, hs.setRow (k := w.heap.size + 1) (by omega) _, below_row bb (show _ ≤ w.heap.size + 1 by omega) _⟩

/-- Does a diff begin with an exclamation mark? -/
def bang (d : ByteArray) : Bool := match d.data.toList with | [] => false | b :: _ => b == 33
set_option maxHeartbeats 1000000 in
theorem refDo_yes (a d : ByteArray) (hb : bang d = false) (h1 : a.size + d.size ≤ 1099511627776) (w : World) :
    Calls Try.prog 19 #[.string a, .string d] w fun e w' => e = .returned (.tuple #[.string (a ++ d), .bool true]) ∧ w' = w := by
  have hz : a.size + d.size ≤ 9223372036854775807 := by omega
  by_cases h0 : d.size = 0
  · have e0 : ¬ (0 : Int) < (d.size : Int) := by omega
    go_enter Try.func19, Try.ntmps19
    go_wp2
    go_ret2
    exact ⟨rfl, rfl⟩
  · have e0 : (0 : Int) < (d.size : Int) := by omega
    have hlt : 0 < d.size := by omega
    have hne : ¬ ((d[0].toNat : Int) = 33) := by
      intro h
      unfold bang at hb
      have hd : d.data.toList = d[0] :: d.data.toList.drop 1 := by
        have : d.data.toList[0]? = some d[0] := by simp [ByteArray.getElem_eq_getElem_data]
        cases hl : d.data.toList with
        | nil => rw [hl] at this; simp at this
        | cons x r => rw [hl] at this; simp at this; rw [this]; rfl
      rw [hd] at hb
      simp at hb
      apply hb
      have h33 : d[0].toNat = 33 := by omega
      exact UInt8.toNat_inj.1 (by rw [h33]; rfl)
    have hnb : ((d[0].toNat : Int) == 33) = false := by rw [beq_eq_false_iff_ne]; exact hne
    go_enter Try.func19, Try.ntmps19
    go_wp2
    go_ret2
    exact ⟨rfl, rfl⟩
set_option maxHeartbeats 1000000 in
theorem ruleF_yes (a d : ByteArray) (hb : bang d = false) (h1 : a.size + d.size ≤ 1099511627776) (w : World) :
    Calls Try.prog 18 #[.string a, .string d] w fun e w' => e = .returned (.tuple #[.string (a ++ d), .int .i64 0]) ∧ w' = w := by
  have CD := Lib.hid (refDo_yes a d hb h1)
  clear hb h1
  go_enter Try.func18, Try.ntmps18
  go_wp2_with fail
  refine (CD.out _).mono ?_
  rintro e _ ⟨rfl, rfl⟩
  go_wp2
  go_ret2
  exact ⟨rfl, rfl⟩

namespace R16
/-- The numbers of the first i states, noughts behind. -/
def numsTo (L : List Cm) (i : Nat) : List Value := (L.take i).map (fun p => .int .u64 (p.num : Int)) ++ List.replicate (L.length - i) (.int .u64 0)
def nums (L : List Cm) : List Value := L.map (fun p => .int .u64 (p.num : Int))
theorem numsTo_zero (L : List Cm) : numsTo L 0 = List.replicate L.length (.int .u64 0) := by simp [numsTo]
theorem numsTo_all (L : List Cm) : numsTo L L.length = nums L := by simp [numsTo, nums]
theorem numsTo_set {L : List Cm} {i : Nat} {p : Cm} (h : L[i]? = some p) : (numsTo L i).set i (.int .u64 (p.num : Int)) = numsTo L (i + 1) := by
  obtain ⟨hi, rfl⟩ := List.getElem?_eq_some_iff.1 h
  unfold numsTo
  rw [List.set_append_right _ _ (by simp; omega), List.length_map, List.length_take, Nat.min_eq_left (by omega), Nat.sub_self, show L.length - i = (L.length - (i + 1)) + 1 by omega, List.replicate_succ, List.set_cons_zero, List.take_succ_eq_append_getElem hi, List.map_append]
  simp
theorem numsTo_at {L : List Cm} {i : Nat} (h : i < L.length) : (numsTo L i)[i]? = some (.int .u64 0) := by
  unfold numsTo
  rw [List.getElem?_append_right (by simp; omega), List.length_map, List.length_take, Nat.min_eq_left (by omega), Nat.sub_self, List.getElem?_replicate, if_pos (by omega)]
end R16
theorem infoU64Y : (Try.prog.info? 23).map (fun i => (i.zero, i.size, i.bytes)) = some (some (.int .u64 0), 1, 8) := by kernel_rfl
set_option maxHeartbeats 2000000 in
/-- Numbers. -/
theorem nums16_any (g n cap : Nat) (L : List R16.Cm) (w : World) (hn : L.length = n + 1) (h8 : n < 900) (ha : R16.CmAt w g 0 L) :
    Calls Try.prog 10 #[.agg #[.func (.func 18) #[] #[], .slice (some ⟨g, 0, none⟩) (n + 1) cap]] w fun e w' => ∃ g', e = .returned (.slice (some ⟨g', 0, none⟩) (n + 1) (n + 1)) ∧ w'.ownsRow w.heap.size 23 1 (.slice (some ⟨g', 0, none⟩) (n + 1) (n + 1)) (n + 1) (R16.nums L) ∧ Below w.heap.size w w' := by
  obtain ⟨i0, hi, hz0, hz1, hz2⟩ := info_parts infoU64Y
  have la : g < w.heap.size := ha.lt
  have r1 : Row (w.alloc (.cells #[.func (.func 18) #[] #[], .slice (some ⟨g, 0, none⟩) (n + 1) cap] 30 (0, 0))) w.heap.size 30 [.func (.func 18) #[] #[], .slice (some ⟨g, 0, none⟩) (n + 1) cap] := Row.new' rfl rfl
  have bb : Below w.heap.size w (w.alloc (.cells #[.func (.func 18) #[] #[], .slice (some ⟨g, 0, none⟩) (n + 1) cap] 30 (0, 0))) := (Below.refl _ _).alloc (Nat.le_refl _) _
  have ha1 := ha.alloc (.cells #[.func (.func 18) #[] #[], .slice (some ⟨g, 0, none⟩) (n + 1) cap] 30 (0, 0))
  clear ha
  go_enter Try.func10, Try.ntmps10
  go_wp2_with (at_make; refine wpList_make_full _ rfl _ _ 38 rfl w.heap.size 23 i0 (.int .u64 0) 1 Try.underlying38 hi hz0 hz1 _ _ _ _ (n + 1) rfl rfl (by simp) (by simp) (by rw [hz2]; omega) (by unfold maxLen; omega) (by simp) ?_)
  generalize w.alloc (.cells #[.func (.func 18) #[] #[], .slice (some ⟨g, 0, none⟩) (n + 1) cap] 30 (0, 0)) = w1 at *
  intro w2 hown hgrow
  rw [toList_madeCells_one, ← hn, ← R16.numsTo_zero, hn] at hown
  have b12 : Below w1.heap.size w1 w2 := (Below.refl _ _).grown hgrow (Nat.le_refl _) (by simp)
  have r2 := r1.below b12 r1.lt
  have ha2 := ha1.keep b12
  replace bb := bb.trans (b12.mono bb.size)
  have c3 := r2.cell 1
  simp only [List.getElem?_cons_zero, List.getElem?_cons_succ] at c3
  clear hgrow b12 r1 ha1 hi hz0 hz1 hz2
  go_wp2
  go_loopw [13] (fun iv wr => ∃ i : Nat, i ≤ n + 1 ∧ iv = .int .i64 (i : Int) ∧ wr.ownsRow w.heap.size 23 1 (.slice (some ⟨w.heap.size + 1, 0, none⟩) (n + 1) (n + 1)) (n + 1) (R16.numsTo L i) ∧ R16.CmAt wr g 0 L ∧ Below w.heap.size w wr) (fun iv _ => n + 1 - (intOf iv).toNat)
  case atStart => exact ⟨0, Nat.zero_le _, rfl, hown, ha2, bb⟩
  case round =>
    clear hown ha2 bb r2 c3
    obtain ⟨i, hi, rfl, ho, ha, bb⟩ := hrel
    by_cases hlt : i < n + 1
    · have hs : (i : Int) < ((n + 1 : Nat) : Int) := by omega
      obtain ⟨p, hp⟩ : ∃ p, L[i]? = some p := ⟨L[i], List.getElem?_eq_getElem (by omega)⟩
      have hr : wr.rangeAt g (i * 2) [.int .u64 (p.num : Int), .string p.tx] := by have := ha.load hp; rwa [Nat.zero_add] at this
      have lg := (ho.lt (w.heap.size + 1) rfl).2
      have ho1 := ho.alloc (.cells #[.int .u64 (p.num : Int), .string p.tx] 60 (0, 0))
      have hc := (ho1.cellAt i (by omega)).trans (R16.numsTo_at (L := L) (by omega))
      have hf := ho1.frozenAt i
      have hst := ((ho.stored i (.int .u64 (p.num : Int))).1).alloc (.cells #[.int .u64 (p.num : Int), .string p.tx] 60 (0, 0))
      rw [R16.numsTo_set hp] at hst
      have ha2 := (ha.other (k := w.heap.size + 1) (i := i) (by omega) (.int .u64 (p.num : Int))).alloc (.cells #[.int .u64 (p.num : Int), .string p.tx] 60 (0, 0))
      have bb1 := bb.setCell (p := ⟨w.heap.size + 1, i, none⟩) (by show _ ≤ w.heap.size + 1; omega) (.int .u64 (p.num : Int))
      have bb2 := bb1.alloc bb1.size (.cells #[.int .u64 (p.num : Int), .string p.tx] 60 (0, 0))
      clear ho ha bb ho1 hp bb1
      go_wp2_with (refine wpList_load_mid rfl 60 (.tmp 16) rfl g (i * 2) rfl _ _ hr Try.underlying60 rfl infoCm ?_)
      go_roundw
      case rel => exact ⟨i + 1, by omega, by go_num, hst, ha2, bb2⟩
      case measure => simp [intOf]; omega
    · obtain rfl : i = n + 1 := by omega
      rw [← hn, R16.numsTo_all, hn] at ho
      go_wp2
      go_ret
      exact ⟨_, rfl, ho, bb⟩

theorem own_lower {w : World} {B B' e size n : Nat} {v : Value} {xs : List Value} (h : w.ownsRow B e size v n xs) (hB : B' ≤ B) : w.ownsRow B' e size v n xs := by
  refine ⟨h.1, ?_⟩
  rcases h.2 with h2 | ⟨g, cap, cur, h1, h2, h3⟩
  · exact .inl h2
  · exact .inr ⟨g, cap, cur, h1, Nat.le_trans hB h2, h3⟩
set_option maxHeartbeats 4000000 in
/-- kept. -/
theorem kept_any (g n cap thr : Nat) (L : List R16.Cm) (w : World) (hn : L.length = n + 1) (h8 : n < 900) (hc : n + 1 ≤ cap) (ha : R16.CmAt w g 0 L) :
    Calls Try.prog 22 #[.slice (some ⟨g, 0, none⟩) (n + 1) cap, .int .u64 (thr : Int)] w fun e w' => ∃ (a : Nat) (v : Value), e = .returned v ∧ R16.Kp L thr a ∧ w'.ownsRow w.heap.size 60 2 v (L.drop a).length (R16.cellsL (L.drop a)) ∧ Below w.heap.size w w' := by
  have HN := Lib.hid hn
  have bb : Below w.heap.size w w := Below.refl _ _
  go_enter Try.func22, Try.ntmps22
  go_wp2
  go_step3
  go_wp2
  go_step3
  go_wp2
  go_loopw [5] (fun iv wr => ∃ a : Nat, a ≤ n ∧ iv = .int .i64 (a : Int) ∧ Hid (∀ (j : Nat) (p : R16.Cm), j < a → L[j]? = some p → p.num < thr ∨ 8 < L.length - j) ∧ R16.CmAt wr g 0 L ∧ Below w.heap.size w wr) (fun iv _ => n + 1 - (intOf iv).toNat)
  case atStart => exact ⟨0, Nat.zero_le _, rfl, fun j p hj => absurd hj (by omega), ha, bb⟩
  case round =>
    clear ha bb hn
    obtain ⟨a, hle, rfl, HA, ha, bb⟩ := hrel
    have e0 : ((n + 1 : Nat) : Int) - 1 = (n : Int) := by omega
    have e1 : IntKind.i64.wrap (((n + 1 : Nat) : Int) - 1) = (n : Int) := by rw [IntKind.wrap_i64]; omega
    by_cases hlt : a < n
    · have hs : (a : Int) < (n : Int) := by omega
      have hs2 : (a : Int) < ((n + 1 : Nat) : Int) := by omega
      obtain ⟨p, hp⟩ : ∃ p, L[a]? = some p := ⟨L[a]'(by have := HN.out; omega), List.getElem?_eq_getElem (by have := HN.out; omega)⟩
      have c0 := ha.num hp
      rw [Nat.zero_add] at c0
      have z1 : IntKind.i64.wrap (((n + 1 : Nat) : Int) - (a : Int)) = ((n + 1 : Nat) : Int) - (a : Int) := by rw [IntKind.wrap_i64]; omega
      by_cases h1 : p.num < thr
      · have g1 : (p.num : Int) < (thr : Int) := by omega
        have HA' : Hid (∀ (j : Nat) (q : R16.Cm), j < a + 1 → L[j]? = some q → q.num < thr ∨ 8 < L.length - j) := fun j q hj hq => by
          by_cases c : j = a
          · subst c; rw [hp] at hq; cases hq; exact .inl h1
          · exact HA.out j q (by omega) hq
        clear hp h1
        go_wp2
        go_roundw
        case rel => exact ⟨a + 1, by omega, by go_num, HA', ha, bb⟩
        case measure => simp [intOf]; omega
      · have g1 : ¬ (p.num : Int) < (thr : Int) := by omega
        by_cases h2 : 8 < n + 1 - a
        · have g2 : (8 : Int) < ((n + 1 : Nat) : Int) - (a : Int) := by omega
          have HA' : Hid (∀ (j : Nat) (q : R16.Cm), j < a + 1 → L[j]? = some q → q.num < thr ∨ 8 < L.length - j) := fun j q hj hq => by
            by_cases c : j = a
            · subst c; exact .inr (by rw [HN.out]; exact h2)
            · exact HA.out j q (by omega) hq
          clear hp h1 h2
          go_wp2
          go_roundw
          case rel => exact ⟨a + 1, by omega, by go_num, HA', ha, bb⟩
          case measure => simp [intOf]; omega
        · have g2 : ¬ (8 : Int) < ((n + 1 : Nat) : Int) - (a : Int) := by omega
          have hKp : R16.Kp L thr a := ⟨by rw [HN.out]; omega, HA.out, .inr ⟨fun q hq => by rw [hp] at hq; cases hq; omega, by rw [HN.out]; omega⟩⟩
          clear hp h1 h2
          have hm : n + 1 - a = (L.drop a).length := by rw [List.length_drop, HN.out]
          obtain ⟨m, hmm⟩ : ∃ m, (L.drop a).length = m + 1 := ⟨(L.drop a).length - 1, by omega⟩
          have hfrom : R16.CmAt wr g (a * 2) (L.drop a) := by have := ha.from (i := a) (by have := HN.out; omega); rwa [Nat.zero_add] at this
          have CC := Lib.hid (cloneCm_any g (a * 2) m (cap - a) (L.drop a) wr hmm (by omega) hfrom)
          have hm2 : n + 1 - a = m + 1 := by omega
          have hca : ¬ cap = a := by omega
          have HKP := Lib.hid hKp
          have HLQ := Lib.hid hmm
          clear hfrom ha hKp hmm hm
          go_wp2_with fail
          try rw [hm2]
          refine CC.out.mono ?_
          rintro e w2 ⟨v, rfl, ho, b2⟩
          have bb2 := bb.trans (b2.mono bb.size)
          obtain ⟨Bx, hBx⟩ : ∃ B, B = wr.heap.size := ⟨_, rfl⟩
          have lB := bb.size
          rw [← hBx] at ho lB
          clear bb b2 CC hBx
          go_wp2
          try rw [Exit.noGoto_ret]
          go_ret
          exact ⟨a, v, rfl, HKP.out, by rw [HLQ.out]; exact own_lower ho lB, bb2⟩
    · obtain rfl : a = n := by omega
      have hKp : R16.Kp L thr a := ⟨by rw [HN.out]; exact Nat.le_refl _, HA.out, .inl HN.out.symm⟩
      have hm : a + 1 - a = (L.drop a).length := by rw [List.length_drop, HN.out]
      obtain ⟨m, hmm⟩ : ∃ m, (L.drop a).length = m + 1 := ⟨(L.drop a).length - 1, by omega⟩
      have hfrom : R16.CmAt wr g (a * 2) (L.drop a) := by have := ha.from (i := a) (by have := HN.out; omega); rwa [Nat.zero_add] at this
      have CC := Lib.hid (cloneCm_any g (a * 2) m (cap - a) (L.drop a) wr hmm (by omega) hfrom)
      have hm2 : a + 1 - a = m + 1 := by omega
      have hca : ¬ cap = a := by omega
      have HKP := Lib.hid hKp
      have HLQ := Lib.hid hmm
      clear hfrom ha hKp hmm hm
      go_wp2_with fail
      try rw [hm2]
      refine CC.out.mono ?_
      rintro e w2 ⟨v, rfl, ho, b2⟩
      have bb2 := bb.trans (b2.mono bb.size)
      obtain ⟨Bx, hBx⟩ : ∃ B, B = wr.heap.size := ⟨_, rfl⟩
      have lB := bb.size
      rw [← hBx] at ho lB
      clear bb b2 CC hBx
      go_wp2
      try rw [Exit.noGoto_ret]
      go_ret
      exact ⟨a, v, rfl, HKP.out, by rw [HLQ.out]; exact own_lower ho lB, bb2⟩

end Go.Proofs.Ytjfhinhakanhaaa
