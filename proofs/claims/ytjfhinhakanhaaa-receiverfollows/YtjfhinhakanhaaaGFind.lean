/-
  Layer 16: the document's Find.
-/
import Derived.Test.YtjfhinhakanhaaaGAny
namespace Go.Proofs.Ytjfhinhakanhaaa
open Go.RowKit
set_option linter.unusedVariables false
set_option linter.unusedSimpArgs false
set_option maxRecDepth 20000

theorem infoRs : (Try.prog.info? 34).map (·.size) = some 2 := by kernel_rfl
namespace R16
/-- What Find answers. -/
def FindR (L : List Cm) (n : Nat) (r : Int) : Prop := (r = -1 ∧ ∀ (j : Nat) (q : Cm), L[j]? = some q → q.num ≠ n) ∨ ∃ (i : Nat) (p : Cm), r = (i : Int) ∧ L[i]? = some p ∧ p.num = n
end R16
set_option maxHeartbeats 1000000 in
/-- The document's Find. -/
theorem refFind_any (g off len cap n : Nat) (L : List R16.Cm) (w : World) (hl : L.length = len) (h9 : len ≤ 1000) (ha : R16.CmAt w g off L) :
    Calls Try.prog 16 #[.slice (some ⟨g, off, none⟩) len cap, .int .u64 (n : Int)] w fun e w' => ∃ r : Int, e = .returned (.int .i64 r) ∧ R16.FindR L n r ∧ Below w.heap.size w w' := by
  have HL := Lib.hid hl
  have bb : Below w.heap.size w w := Below.refl _ _
  clear hl
  go_enter Try.func16, Try.ntmps16
  go_wp2
  go_loopw [9] (fun iv wr => ∃ i : Nat, i ≤ len ∧ iv = .int .i64 (i : Int) ∧ Hid (∀ (j : Nat) (q : R16.Cm), j < i → L[j]? = some q → q.num ≠ n) ∧ R16.CmAt wr g off L ∧ Below w.heap.size w wr) (fun iv _ => len - (intOf iv).toNat)
  case atStart => exact ⟨0, Nat.zero_le _, rfl, fun j q hj => absurd hj (by omega), ha, bb⟩
  case round =>
    clear ha bb
    obtain ⟨i, hi, rfl, HA, ha, bb⟩ := hrel
    by_cases hlt : i < len
    · have hs : (i : Int) < (len : Int) := by omega
      obtain ⟨p, hp⟩ : ∃ p, L[i]? = some p := ⟨L[i]'(by have := HL.out; omega), List.getElem?_eq_getElem (by have := HL.out; omega)⟩
      have hr : wr.rangeAt g (off + i * 2) [.int .u64 (p.num : Int), .string p.tx] := ha.load hp
      have ha2 := ha.alloc (.cells #[.int .u64 (p.num : Int), .string p.tx] 34 (0, 0))
      have c0 : (wr.alloc (.cells #[.int .u64 (p.num : Int), .string p.tx] 34 (0, 0))).cell? ⟨wr.heap.size, 0, none⟩ = some (.int .u64 (p.num : Int)) := (Row.new' (l := [.int .u64 (p.num : Int), .string p.tx]) rfl rfl : Row (wr.alloc (.cells #[.int .u64 (p.num : Int), .string p.tx] 34 (0, 0))) wr.heap.size 34 [.int .u64 (p.num : Int), .string p.tx]).cell 0
      have bb2 := bb.alloc bb.size (.cells #[.int .u64 (p.num : Int), .string p.tx] 34 (0, 0))
      have HP := Lib.hid hp
      by_cases he : p.num = n
      · have e1 : ((p.num : Int) == (n : Int)) = true := by rw [beq_iff_eq]; omega
        have e2 : (p.num : Int) = (n : Int) := by omega
        have HE := Lib.hid he
        rw [e2] at bb2
        clear ha bb hp he
        go_wp2_with (refine wpList_load_mid rfl 34 (.tmp 12) rfl g (off + i * 2) rfl _ _ hr Try.underlying34 rfl infoRs ?_)
        go_ret
        exact ⟨_, rfl, .inr ⟨i, p, rfl, HP.out, HE.out⟩, bb2⟩
      · have e1 : ((p.num : Int) == (n : Int)) = false := by rw [beq_eq_false_iff_ne]; omega
        have e2 : ¬ (p.num : Int) = (n : Int) := by omega
        have HA' : Hid (∀ (j : Nat) (q : R16.Cm), j < i + 1 → L[j]? = some q → q.num ≠ n) := fun j q hj hq => by
          by_cases c : j = i
          · subst c; rw [HP.out] at hq; cases hq; exact he
          · exact HA.out j q (by omega) hq
        clear ha bb hp he
        go_wp2_with (refine wpList_load_mid rfl 34 (.tmp 12) rfl g (off + i * 2) rfl _ _ hr Try.underlying34 rfl infoRs ?_)
        go_roundw
        case rel => exact ⟨i + 1, by omega, by go_num, HA', ha2, bb2⟩
        case measure => simp [intOf]; omega
    · obtain rfl : i = len := by omega
      go_wp2
      go_ret
      exact ⟨_, rfl, .inl ⟨rfl, fun j q hq => HA.out j q (by have := (List.getElem?_eq_some_iff.1 hq).1; have := HL.out; omega) hq⟩, bb⟩
/-- The document's Take, where it refuses. -/
theorem refTake_11 (g off n cap o nn aa tt : Nat) (d : ByteArray) (L : List R16.Cm) (w : World) (hl : L.length = n + 1) (h9 : n ≤ 800) (ha : R16.CmAt w g off L) (i : Nat) (hP : R16.Pl L nn i) (hat : R16.at? L nn i = true) :
    Calls Try.prog 12 #[.slice (some ⟨g, off, none⟩) (n + 1) cap, .int .u64 (o : Int), .int .u64 (nn : Int), .int .u64 (tt : Int), .string d] w fun e w' => e = .returned (.tuple #[.slice (some ⟨g, off, none⟩) (n + 1) cap, .bool false, .int .i64 11]) ∧ Below w.heap.size w w' := by
  have CF : Hid (∀ wx, R16.CmAt wx g off L → Calls Try.prog 16 #[.slice (some ⟨g, off, none⟩) (n + 1) cap, .int .u64 (nn : Int)] wx fun e w' => ∃ r : Nat, e = .returned (.int .i64 (r : Int)) ∧ Below wx.heap.size wx w') := fun wx hx => by
    refine (refFind_any g off (n + 1) cap nn L wx hl (by omega) hx).mono ?_
    rintro e w' ⟨r, rfl, h | ⟨j, q, rfl, _, _⟩, hbb⟩
    · obtain ⟨p, hp, hpn⟩ := R16.at_some hat
      exact absurd hpn (h.2 i p hp)
    · exact ⟨j, rfl, hbb⟩
  clear hP hat hl
  go_enter Try.func12, Try.ntmps12
  go_wp2_with fail
  refine (CF.out _ ha).mono ?_
  rintro e w1 ⟨r, rfl, bb⟩
  have e1 : (0 : Int) ≤ (r : Int) := by omega
  go_wp2
  go_ret3
  exact ⟨rfl, bb⟩
/-- A number that isn't there. -/
theorem refFind_not {L : List R16.Cm} (hu : R16.Up L) {nn i : Nat} (hP : R16.Pl L nn i) (hat : R16.at? L nn i = false) {r : Int} (h : R16.FindR L nn r) : r = -1 := by
  rcases h with h | ⟨j, q, _, hq, hqn⟩
  · exact h.1
  · have := (hP.at hu hq hqn).2.1
    rw [hat] at this
    cases this
theorem refTake_9 (g off n cap o nn aa tt : Nat) (d : ByteArray) (L : List R16.Cm) (w : World) (hu : R16.Up L) (hl : L.length = n + 1) (h9 : n ≤ 800) (ha : R16.CmAt w g off L) (hP : R16.Pl L nn 0) (hat : R16.at? L nn 0 = false) :
    Calls Try.prog 12 #[.slice (some ⟨g, off, none⟩) (n + 1) cap, .int .u64 (o : Int), .int .u64 (nn : Int), .int .u64 (tt : Int), .string d] w fun e w' => e = .returned (.tuple #[.slice (some ⟨g, off, none⟩) (n + 1) cap, .bool false, .int .i64 9]) ∧ Below w.heap.size w w' := by
  have CF : Hid (∀ wx, R16.CmAt wx g off L → Calls Try.prog 16 #[.slice (some ⟨g, off, none⟩) (n + 1) cap, .int .u64 (nn : Int)] wx fun e w' => e = .returned (.int .i64 (-1)) ∧ Below wx.heap.size wx w') := fun wx hx => by
    refine (refFind_any g off (n + 1) cap nn L wx hl (by omega) hx).mono ?_
    rintro e w' ⟨r, rfl, h, hbb⟩
    obtain rfl := refFind_not hu hP hat h
    exact ⟨rfl, hbb⟩
  obtain ⟨p, hp⟩ : ∃ p, L[0]? = some p := ⟨L[0]'(by omega), List.getElem?_eq_getElem (by omega)⟩
  have hlt : nn < p.num := by
    have h1 := hP.hi 0 p (Nat.le_refl _) hp
    have h2 : p.num ≠ nn := by
      unfold R16.at? at hat; rw [hp] at hat; exact of_decide_eq_false hat
    omega
  have HP := Lib.hid hp
  clear hP hat hl hp
  go_enter Try.func12, Try.ntmps12
  go_wp2_with fail
  refine (CF.out _ ha).mono ?_
  rintro e w1 ⟨rfl, bb⟩
  have ha1 := ha.keep bb
  have c0 := ha1.num HP.out
  rw [Nat.zero_mul, Nat.add_zero] at c0
  have e1 : (nn : Int) < (p.num : Int) := by omega
  have hs : (0 : Int) < ((n + 1 : Nat) : Int) := by omega
  go_wp2
  go_ret3
  exact ⟨rfl, bb⟩
theorem refTake_19a (g off n cap o nn aa tt : Nat) (d : ByteArray) (L : List R16.Cm) (w : World) (hu : R16.Up L) (hl : L.length = n + 1) (h9 : n ≤ 800) (ha : R16.CmAt w g off L) (i : Nat) (hP : R16.Pl L nn i) (hat : R16.at? L nn i = false) (hi0 : 0 < i) (hO : ∀ (j : Nat) (q : R16.Cm), L[j]? = some q → q.num ≠ o) :
    Calls Try.prog 12 #[.slice (some ⟨g, off, none⟩) (n + 1) cap, .int .u64 (o : Int), .int .u64 (nn : Int), .int .u64 (tt : Int), .string d] w fun e w' => e = .returned (.tuple #[.slice (some ⟨g, off, none⟩) (n + 1) cap, .bool false, .int .i64 19]) ∧ Below w.heap.size w w' := by
  have CF : Hid (∀ wx, R16.CmAt wx g off L → Calls Try.prog 16 #[.slice (some ⟨g, off, none⟩) (n + 1) cap, .int .u64 (nn : Int)] wx fun e w' => e = .returned (.int .i64 (-1)) ∧ Below wx.heap.size wx w') := fun wx hx => by
    refine (refFind_any g off (n + 1) cap nn L wx hl (by omega) hx).mono ?_
    rintro e w' ⟨r, rfl, h, hbb⟩
    obtain rfl := refFind_not hu hP hat h
    exact ⟨rfl, hbb⟩
  have CO : Hid (∀ wx, R16.CmAt wx g off L → Calls Try.prog 16 #[.slice (some ⟨g, off, none⟩) (n + 1) cap, .int .u64 (o : Int)] wx fun e w' => e = .returned (.int .i64 (-1)) ∧ Below wx.heap.size wx w') := fun wx hx => by
    refine (refFind_any g off (n + 1) cap o L wx hl (by omega) hx).mono ?_
    rintro e w' ⟨r, rfl, h, hbb⟩
    obtain rfl : r = -1 := by
      rcases h with h | ⟨j, q, _, hq, hqn⟩
      · exact h.1
      · exact absurd hqn (hO j q hq)
    exact ⟨rfl, hbb⟩
  clear hO
  obtain ⟨p, hp⟩ : ∃ p, L[0]? = some p := ⟨L[0]'(by omega), List.getElem?_eq_getElem (by omega)⟩
  have hlt : p.num < nn := hP.lo 0 p hi0 hp
  have HP := Lib.hid hp
  have e1 : ¬ (nn : Int) < (p.num : Int) := by omega
  have hs : (0 : Int) < ((n + 1 : Nat) : Int) := by omega
  clear hP hat hp
  go_enter Try.func12, Try.ntmps12
  go_wp2_with fail
  refine (CF.out _ ha).mono ?_
  rintro e w1 ⟨rfl, bb⟩
  have ha1 := ha.keep bb
  have c0 := ha1.num HP.out
  rw [Nat.zero_mul, Nat.add_zero] at c0
  go_wp2_with fail
  refine (CO.out _ ha1).mono ?_
  rintro e w2 ⟨rfl, bb2⟩
  have ha2 := ha1.keep bb2
  replace bb := bb.trans (bb2.mono bb.size)
  clear bb2 c0
  go_wp2
  go_ret3
  exact ⟨rfl, bb⟩

theorem refTake_19b (g off n cap o nn aa tt : Nat) (d : ByteArray) (L : List R16.Cm) (w : World) (hu : R16.Up L) (hl : L.length = n + 1) (h9 : n ≤ 800) (ha : R16.CmAt w g off L) (i : Nat) (hP : R16.Pl L nn i) (hat : R16.at? L nn i = false) (hi0 : 0 < i) (jo : Nat) (po : R16.Cm) (hpo : L[jo]? = some po) (hpn : po.num = o) (hge : nn ≤ o) :
    Calls Try.prog 12 #[.slice (some ⟨g, off, none⟩) (n + 1) cap, .int .u64 (o : Int), .int .u64 (nn : Int), .int .u64 (tt : Int), .string d] w fun e w' => e = .returned (.tuple #[.slice (some ⟨g, off, none⟩) (n + 1) cap, .bool false, .int .i64 19]) ∧ Below w.heap.size w w' := by
  have CF : Hid (∀ wx, R16.CmAt wx g off L → Calls Try.prog 16 #[.slice (some ⟨g, off, none⟩) (n + 1) cap, .int .u64 (nn : Int)] wx fun e w' => e = .returned (.int .i64 (-1)) ∧ Below wx.heap.size wx w') := fun wx hx => by
    refine (refFind_any g off (n + 1) cap nn L wx hl (by omega) hx).mono ?_
    rintro e w' ⟨r, rfl, h, hbb⟩
    obtain rfl := refFind_not hu hP hat h
    exact ⟨rfl, hbb⟩
  have CO : Hid (∀ wx, R16.CmAt wx g off L → Calls Try.prog 16 #[.slice (some ⟨g, off, none⟩) (n + 1) cap, .int .u64 (o : Int)] wx fun e w' => e = .returned (.int .i64 (jo : Int)) ∧ Below wx.heap.size wx w') := fun wx hx => by
    refine (refFind_any g off (n + 1) cap o L wx hl (by omega) hx).mono ?_
    rintro e w' ⟨r, rfl, h, hbb⟩
    obtain rfl : r = (jo : Int) := by
      rcases h with h | ⟨j, q, rfl, hq, hqn⟩
      · exact absurd hpn (h.2 jo po hpo)
      · rw [hu.uniq hq hpo (hqn.trans hpn.symm)]
    exact ⟨rfl, hbb⟩
  have e2 : (nn : Int) ≤ (o : Int) := by omega
  have e3 : ¬ (jo : Int) < 0 := by omega
  clear hpo hpn
  obtain ⟨p, hp⟩ : ∃ p, L[0]? = some p := ⟨L[0]'(by omega), List.getElem?_eq_getElem (by omega)⟩
  have hlt : p.num < nn := hP.lo 0 p hi0 hp
  have HP := Lib.hid hp
  have e1 : ¬ (nn : Int) < (p.num : Int) := by omega
  have hs : (0 : Int) < ((n + 1 : Nat) : Int) := by omega
  clear hP hat hp
  go_enter Try.func12, Try.ntmps12
  go_wp2_with fail
  refine (CF.out _ ha).mono ?_
  rintro e w1 ⟨rfl, bb⟩
  have ha1 := ha.keep bb
  have c0 := ha1.num HP.out
  rw [Nat.zero_mul, Nat.add_zero] at c0
  go_wp2_with fail
  refine (CO.out _ ha1).mono ?_
  rintro e w2 ⟨rfl, bb2⟩
  have ha2 := ha1.keep bb2
  replace bb := bb.trans (bb2.mono bb.size)
  clear bb2 c0
  go_wp2
  go_ret3
  exact ⟨rfl, bb⟩

theorem refTake_4 (g off n cap o nn aa tt : Nat) (d : ByteArray) (L : List R16.Cm) (w : World) (hu : R16.Up L) (hl : L.length = n + 1) (h9 : n ≤ 800) (ha : R16.CmAt w g off L) (i : Nat) (hP : R16.Pl L nn i) (hat : R16.at? L nn i = false) (hi0 : 0 < i) (jo : Nat) (po : R16.Cm) (hpo : L[jo]? = some po) (hpn : po.num = o) (hlo : o < nn) (hb : bang d = true) (hsz : po.tx.size + d.size ≤ 1099511627776) :
    Calls Try.prog 12 #[.slice (some ⟨g, off, none⟩) (n + 1) cap, .int .u64 (o : Int), .int .u64 (nn : Int), .int .u64 (tt : Int), .string d] w fun e w' => e = .returned (.tuple #[.slice (some ⟨g, off, none⟩) (n + 1) cap, .bool false, .int .i64 4]) ∧ Below w.heap.size w w' := by
  have CF : Hid (∀ wx, R16.CmAt wx g off L → Calls Try.prog 16 #[.slice (some ⟨g, off, none⟩) (n + 1) cap, .int .u64 (nn : Int)] wx fun e w' => e = .returned (.int .i64 (-1)) ∧ Below wx.heap.size wx w') := fun wx hx => by
    refine (refFind_any g off (n + 1) cap nn L wx hl (by omega) hx).mono ?_
    rintro e w' ⟨r, rfl, h, hbb⟩
    obtain rfl := refFind_not hu hP hat h
    exact ⟨rfl, hbb⟩
  have CO : Hid (∀ wx, R16.CmAt wx g off L → Calls Try.prog 16 #[.slice (some ⟨g, off, none⟩) (n + 1) cap, .int .u64 (o : Int)] wx fun e w' => e = .returned (.int .i64 (jo : Int)) ∧ Below wx.heap.size wx w') := fun wx hx => by
    refine (refFind_any g off (n + 1) cap o L wx hl (by omega) hx).mono ?_
    rintro e w' ⟨r, rfl, h, hbb⟩
    obtain rfl : r = (jo : Int) := by
      rcases h with h | ⟨j, q, rfl, hq, hqn⟩
      · exact absurd hpn (h.2 jo po hpo)
      · rw [hu.uniq hq hpo (hqn.trans hpn.symm)]
    exact ⟨rfl, hbb⟩
  have e2 : ¬ (nn : Int) ≤ (o : Int) := by omega
  have e3 : ¬ (jo : Int) < 0 := by omega
  have hjo : jo < n + 1 := by have := (List.getElem?_eq_some_iff.1 hpo).1; omega
  have hjs : (jo : Int) < ((n + 1 : Nat) : Int) := by omega
  have HPO := Lib.hid hpo
  have CD : Hid (∀ wx, Calls Try.prog 19 #[.string po.tx, .string d] wx fun e w' => e = .returned (.tuple #[.string ⟨#[]⟩, .bool false]) ∧ w' = wx) := fun wx => refDo_no po.tx d hb hsz wx
  clear hpo hpn hb hsz
  obtain ⟨p, hp⟩ : ∃ p, L[0]? = some p := ⟨L[0]'(by omega), List.getElem?_eq_getElem (by omega)⟩
  have hlt : p.num < nn := hP.lo 0 p hi0 hp
  have HP := Lib.hid hp
  have e1 : ¬ (nn : Int) < (p.num : Int) := by omega
  have hs : (0 : Int) < ((n + 1 : Nat) : Int) := by omega
  clear hP hat hp
  go_enter Try.func12, Try.ntmps12
  go_wp2_with fail
  refine (CF.out _ ha).mono ?_
  rintro e w1 ⟨rfl, bb⟩
  have ha1 := ha.keep bb
  have c0 := ha1.num HP.out
  rw [Nat.zero_mul, Nat.add_zero] at c0
  go_wp2_with fail
  refine (CO.out _ ha1).mono ?_
  rintro e w2 ⟨rfl, bb2⟩
  have ha2 := ha1.keep bb2
  replace bb := bb.trans (bb2.mono bb.size)
  clear bb2 c0
  have c1 := ha2.tx HPO.out
  go_wp2_with fail
  refine (CD.out _).mono ?_
  rintro e _ ⟨rfl, rfl⟩
  go_wp2
  go_ret3
  exact ⟨rfl, bb⟩
end Go.Proofs.Ytjfhinhakanhaaa
