/-
  Layer 13's statements: their example, light, Is.
-/
import Derived.Test.YtggkkahifoccfaaKRef
import Derived.Test.YtggkkahifoccfaaPActsU
namespace Go.Proofs.Ytggkkahifoccfaa
open Go.RowKit
set_option linter.unusedVariables false
set_option maxRecDepth 20000

set_option maxHeartbeats 2000000 in
theorem awake13_any (w : World) : Calls Try.prog 7 #[] w fun e w' => e = .returned (.bool true) ∧ Below w.heap.size w w' := by
  have CT : Hid (∀ wx, Calls Try.prog 19 #[.agg #[.int .u64 0, .string ⟨#[]⟩], .string ⟨#[97, 98]⟩] wx fun e w' => e = .returned (.tuple #[.agg #[.int .u64 0, .string ⟨#[97, 98]⟩], .int .i64 0]) ∧ Below wx.heap.size wx w') := fun wx => by
    have := type_ok 0 ⟨#[]⟩ ⟨#[97, 98]⟩ (by decide) (by decide) wx
    rw [show (⟨#[]⟩ ++ ⟨#[97, 98]⟩ : ByteArray) = ⟨#[97, 98]⟩ from K13.eq_of (by rw [K13.app_list]; rfl)] at this
    exact this
  have CS : Hid (∀ wx, Calls Try.prog 10 #[.agg #[.int .u64 0, .string ⟨#[97, 98]⟩], .int .u64 1] wx fun e w' => e = .returned (.tuple #[.string ⟨#[98]⟩, .int .i64 0]) ∧ Below wx.heap.size wx w') := fun wx => by
    have := since_any 0 1 ⟨#[97, 98]⟩ (by decide) (by decide) wx
    rw [(K13.since_yes (f := 0) (t := ⟨#[97, 98]⟩) (n := 1) (by decide) (by decide)).1, (K13.since_yes (f := 0) (t := ⟨#[97, 98]⟩) (n := 1) (by decide) (by decide)).2] at this
    exact this
  have bb : Below w.heap.size w w := Below.refl _ _
  go_enter Try.func7, Try.ntmps7
  go_wp2_with fail
  refine (CT.out _).mono ?_
  rintro e wa2 ⟨rfl, bwa2⟩
  replace bb := bb.trans (bwa2.mono bb.size)
  clear bwa2
  go_wp2_with fail
  have r : Row (wa2.alloc (.cells #[.int .u64 0, .string ⟨#[97, 98]⟩] 27 (0, 0))) wa2.heap.size 27 [.int .u64 0, .string ⟨#[97, 98]⟩] := Row.new' rfl rfl
  have lbr := bb.size
  replace bb := bb.alloc bb.size (.cells #[.int .u64 0, .string ⟨#[97, 98]⟩] 27 (0, 0))
  obtain ⟨g, hg⟩ : ∃ g, g = wa2.heap.size := ⟨_, rfl⟩
  rw [← hg] at r lbr ⊢
  generalize wa2.alloc (.cells #[.int .u64 0, .string ⟨#[97, 98]⟩] 27 (0, 0)) = wa3 at *
  clear hg
  go_wp2_with (first | refine wpList_load_row rfl 27 (.tmp 1) rfl (g) rfl _ _ _ _ r Try.underlying27 rfl infoKeys ?_)
  refine (CS.out _).mono ?_
  rintro e wa4 ⟨rfl, bwa4⟩
  replace r := r.below bwa4 r.lt
  replace bb := bb.trans (bwa4.mono bb.size)
  clear bwa4
  go_wp2
  go_ret
  exact ⟨rfl, bb⟩

set_option maxHeartbeats 2000000 in
theorem is13_any (f : Nat) (t : ByteArray) (h : f + t.size ≤ 4611686018427387904) (ht : t.size ≤ 1099511627776) (w : World) : Calls Try.prog 18 #[.agg #[.int .u64 (f : Int), .string t], .agg #[.int .u64 (f : Int), .string t]] w fun e w' => e = .returned (.bool true) ∧ Below w.heap.size w w' := by
  obtain ⟨E, hE⟩ : ∃ E, E = f + t.size := ⟨_, rfl⟩
  have CE : Hid (∀ wx, Calls Try.prog 20 #[.agg #[.int .u64 (f : Int), .string t]] wx fun e w' => e = .returned (.tuple #[.int .u64 (f : Int), .int .u64 (E : Int)]) ∧ Below wx.heap.size wx w') := fun wx => by rw [hE]; exact ends_any f t (by omega) wx
  have CD : Hid (∀ wx, Calls Try.prog 13 #[.agg #[.int .u64 (f : Int), .string t]] wx fun e w' => e = .returned (.int .u64 (E : Int)) ∧ Below wx.heap.size wx w') := fun wx => by rw [hE]; exact refEnd_any f t (by omega) wx
  have CS : Hid (∀ wx, Calls Try.prog 10 #[.agg #[.int .u64 (f : Int), .string t], .int .u64 (f : Int)] wx fun e w' => e = .returned (.tuple #[.string t, .int .i64 0]) ∧ Below wx.heap.size wx w') := fun wx => by
    have := since_any f f t h ht wx
    rw [(K13.since_all f t).1, (K13.since_all f t).2] at this
    exact this
  have r : Row ((w.alloc (.cells #[.int .u64 (f : Int), .string t] 27 (0, 0))).alloc (.cells #[.int .u64 (f : Int), .string t] 29 (0, 0))) w.heap.size 27 [.int .u64 (f : Int), .string t] := (Row.new' rfl rfl).alloc _
  have q : Row ((w.alloc (.cells #[.int .u64 (f : Int), .string t] 27 (0, 0))).alloc (.cells #[.int .u64 (f : Int), .string t] 29 (0, 0))) (w.heap.size + 1) 29 [.int .u64 (f : Int), .string t] := Row.new' rfl (by simp)
  have bb : Below w.heap.size w ((w.alloc (.cells #[.int .u64 (f : Int), .string t] 27 (0, 0))).alloc (.cells #[.int .u64 (f : Int), .string t] 29 (0, 0))) := ((Below.refl _ _).alloc (Nat.le_refl _) _).alloc (by simp) _
  clear hE h
  go_enter Try.func18, Try.ntmps18
  go_wp2_with fail
  generalize (w.alloc (.cells #[.int .u64 (f : Int), .string t] 27 (0, 0))).alloc (.cells #[.int .u64 (f : Int), .string t] 29 (0, 0)) = w1 at *
  refine (CE.out _).mono ?_
  rintro e wa2 ⟨rfl, bwa2⟩
  replace r := r.below bwa2 r.lt
  replace q := q.below bwa2 q.lt
  replace bb := bb.trans (bwa2.mono bb.size)
  clear bwa2
  go_wp2_with (first | refine wpList_load_row rfl 27 (.tmp 2) rfl (w.heap.size) rfl _ _ _ _ r Try.underlying27 rfl infoKeys ?_)
  refine (CS.out _).mono ?_
  rintro e wa3 ⟨rfl, bwa3⟩
  replace r := r.below bwa3 r.lt
  replace q := q.below bwa3 q.lt
  replace bb := bb.trans (bwa3.mono bb.size)
  clear bwa3
  have cq0 : wa3.cell? ⟨(w.heap.size + 1), 0, none⟩ = some (.int .u64 (f : Int)) := q.cell 0
  have cq1 : wa3.cell? ⟨(w.heap.size + 1), 1, none⟩ = some (.string t) := q.cell 1
  go_wp2_with (first | refine wpList_load_row rfl 29 (.tmp 3) rfl ((w.heap.size + 1)) rfl _ _ _ _ q Try.underlying29 rfl infoRK ?_)
  clear cq0 cq1
  refine (CD.out _).mono ?_
  rintro e wa4 ⟨rfl, bwa4⟩
  replace r := r.below bwa4 r.lt
  replace q := q.below bwa4 q.lt
  replace bb := bb.trans (bwa4.mono bb.size)
  clear bwa4
  have cq1 : wa4.cell? ⟨(w.heap.size + 1), 1, none⟩ = some (.string t) := q.cell 1
  go_wp2_with fail
  go_ret
  exact ⟨rfl, bb⟩

set_option maxHeartbeats 2000000 in
theorem light13_yes (a : Option Addr) (len cap : Nat) (w : World) (hl : LightU w a len 40 600) : Calls Try.prog 8 #[.slice a len cap] w fun e w' => e = .returned (.bool true) ∧ Below w.heap.size w w' := by
  obtain ⟨h40, hin⟩ := hl
  have HIN := Lib.hid hin
  have g1 : ¬ (40 : Int) < len := by omega
  clear hin
  go_enter Try.func8, Try.ntmps8
  go_wp2
  go_loopw [7] (fun iv wr => ∃ i : Nat, i ≤ len ∧ iv = .int .i64 (i : Int) ∧ Below w.heap.size w wr) (fun iv _ => len - (intOf iv).toNat)
  case atStart => exact ⟨0, Nat.zero_le _, rfl, Below.refl _ _⟩
  case round =>
    obtain ⟨k, hk, rfl, br⟩ := hrel
    by_cases hlt : k < len
    · have hs : (k : Int) < len := by omega
      obtain ⟨bk, off, rfl, hbk, hcell⟩ := HIN.out (by omega)
      obtain ⟨d, z, s, hd, hz, hsz, e0, e1, e2⟩ := hcell k hlt
      have c0 := (br.cell (p := ⟨bk, off + k * 3, none⟩) hbk).trans e0
      have c1 := (br.cell (p := ⟨bk, off + k * 3 + 1, none⟩) hbk).trans e1
      have c2 := (br.cell (p := ⟨bk, off + k * 3 + 2, none⟩) hbk).trans e2
      have g2 : ¬ (600 : Int) < s.size := by omega
      have bz := br.alloc br.size (.cells #[.int .u8 (d : Int), .int .u64 (z : Int), .string s] 57 (0, 0))
      clear e0 e1 e2 hcell HIN
      go_wp2
      go_roundw
      case rel => exact ⟨k + 1, by omega, by go_num, bz⟩
      case measure => simp [intOf]; omega
    · obtain rfl : k = len := by omega
      go_wp2
      go_ret
      exact ⟨rfl, br⟩

set_option maxHeartbeats 2000000 in
theorem light13_no (a : Option Addr) (len cap : Nat) (w : World) (hi : InActsU w a len cap) (hl : ¬ LightU w a len 40 600) : Calls Try.prog 8 #[.slice a len cap] w fun e w' => e = .returned (.bool false) ∧ Below w.heap.size w w' := by
  obtain ⟨_, hm, hin⟩ := hi
  unfold maxLen at hm
  have hlen : len ≤ cap := by assumption
  have HIN := Lib.hid hin
  have HL := Lib.hid hl
  clear hin hl
  go_enter Try.func8, Try.ntmps8
  go_wp2
  go_loopw [7] (fun iv wr => ∃ i : Nat, i ≤ len ∧ iv = .int .i64 (i : Int) ∧ Below w.heap.size w wr ∧ (0 < i → len ≤ 40) ∧ Hid (∀ b off, a = some ⟨b, off, none⟩ → ∀ j, j < i → ActU w b off j 600)) (fun iv _ => len - (intOf iv).toNat)
  case atStart => exact ⟨0, Nat.zero_le _, rfl, Below.refl _ _, fun h => by omega, fun _ _ _ j hj => by omega⟩
  case round =>
    obtain ⟨k, hk, rfl, br, h40, HA⟩ := hrel
    by_cases hlt : k < len
    · have hs : (k : Int) < len := by omega
      obtain ⟨bk, off, rfl, hbk, hcell⟩ := HIN.out (by omega)
      obtain ⟨d, z, s, hd, hz, hsz, e0, e1, e2⟩ := hcell k hlt
      unfold maxLen at hsz
      have c0 := (br.cell (p := ⟨bk, off + k * 3, none⟩) hbk).trans e0
      have c1 := (br.cell (p := ⟨bk, off + k * 3 + 1, none⟩) hbk).trans e1
      have c2 := (br.cell (p := ⟨bk, off + k * 3 + 2, none⟩) hbk).trans e2
      have bz := br.alloc br.size (.cells #[.int .u8 (d : Int), .int .u64 (z : Int), .string s] 57 (0, 0))
      by_cases hl40 : len ≤ 40
      · have g1 : ¬ (40 : Int) < len := by omega
        by_cases h6 : s.size ≤ 600
        · have g2 : ¬ (600 : Int) < s.size := by omega
          have HA2 : Hid (∀ b' off', some (⟨bk, off, none⟩ : Addr) = some ⟨b', off', none⟩ → ∀ j, j < k + 1 → ActU w b' off' j 600) := fun b' off' hh j hj => by
            by_cases hjk : j < k
            · exact HA.out b' off' hh j hjk
            · obtain rfl : j = k := by omega
              cases hh
              exact ⟨d, z, s, hd, hz, h6, e0, e1, e2⟩
          clear e0 e1 e2 hcell HIN HL HA h6 h40
          go_wp2
          go_roundw
          case rel => exact ⟨k + 1, by omega, by go_num, bz, fun _ => hl40, HA2⟩
          case measure => simp [intOf]; omega
        · have g2 : (600 : Int) < s.size := by omega
          clear e0 e1 e2 hcell HIN HL HA h6 h40
          go_wp2
          go_ret
          exact ⟨rfl, bz⟩
      · have g1 : (40 : Int) < len := by omega
        clear e0 e1 e2 hcell HIN HL HA h40
        go_wp2
        go_ret
        exact ⟨rfl, bz⟩
    · exfalso
      have hkl : k = len := by omega
      refine HL.out ⟨?_, fun h0 => ?_⟩
      · by_cases h0 : 0 < k
        · exact h40 h0
        · omega
      · obtain ⟨bk, off, rfl, hbk, _⟩ := HIN.out h0
        exact ⟨bk, off, rfl, hbk, fun i hi => HA.out bk off rfl i (by omega)⟩

end Go.Proofs.Ytggkkahifoccfaa
