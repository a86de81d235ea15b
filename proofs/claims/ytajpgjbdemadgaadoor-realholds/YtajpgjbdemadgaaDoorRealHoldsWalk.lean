/-
  P2.3: RealHolds answers true, at every input.
-/
import Derived.Test.YtajpgjbdemadgaaDoorRRefWhole
import Derived.Test.YtajpgjbdemadgaaDoorRQuo
import Derived.Test.YtajpgjbdemadgaaDoorRFar
import Derived.Test.YtajpgjbdemadgaaDoorRText
namespace Go.Proofs.YtajpgjbdemadgaaDoor.RealHoldsW
open Go.RowKit
set_option linter.unusedVariables false
set_option linter.unusedSimpArgs false

theorem fl_below {w v : World} {a : Option Addr} {len cap : Nat} {zs : List Nat} (h : IsFl w a len cap zs) (hb : Below w.heap.size w v) : IsFl v a len cap zs := by
  rcases h with h | ⟨x, h1, h2, h3, h4, h5, h6⟩
  · exact .inl h
  · refine .inr ⟨x, h1, h2, h3, h4, fun i hi => ?_, h6⟩
    have := h5 i hi
    rw [hb.cell (World.block_lt_of_cell? _ _ this)]; exact this

/-- What the loop holds behind k rounds. -/
def Upto (side : Int) (zs : List Nat) (k m : Nat) : Prop := m < 18446744073709551616 ∧ (k = 0 → m = 9221120237041090561) ∧ (0 < k → m ∈ zs ∧ Far side zs k m)

theorem upto_ext {side : Int} {zs : List Nat} {m : Nat} (h : Upto side zs zs.length m) : Ext side zs m := by
  refine ⟨h.1, fun e => h.2.1 (by rw [e]; rfl), fun hne => ?_, fun z hz => ?_⟩
  · exact (h.2.2 (List.length_pos_iff.2 hne)).1
  · obtain ⟨j, hj⟩ := List.getElem?_of_mem hz
    have hjl := (List.getElem?_eq_some_iff.1 hj).1
    have := (h.2.2 (by omega)).2 j hjl
    rwa [List.getD_eq_getElem?_getD, hj] at this

theorem upto_take {side : Int} (hs : side = 1 ∨ side = -1) {zs : List Nat} {k m z : Nat} (hz : zs.getD k 0 = z) (hm : z ∈ zs) (hl : z < 18446744073709551616) (h : Upto side zs k m) (hc : k = 0 ∨ R.cmpI (R.rank z) (R.rank m) = side) : Upto side zs (k + 1) z := by
  refine ⟨hl, fun e => by omega, fun _ => ⟨hm, ?_⟩⟩
  rcases Nat.eq_zero_or_pos k with h0 | h0
  · subst h0
    intro j hj
    obtain rfl : j = 0 := by omega
    rw [hz, R.cmpI_self]; rcases hs with rfl | rfl <;> decide
  · have := far_take hs (h.2.2 h0).2 (by rw [hz]; exact hc.resolve_left (by omega))
    rwa [hz] at this
theorem upto_keep {side : Int} {zs : List Nat} {k m z : Nat} (hz : zs.getD k 0 = z) (h : Upto side zs k m) (h0 : 0 < k) (hc : R.cmpI (R.rank z) (R.rank m) ≠ side) : Upto side zs (k + 1) m :=
  ⟨h.1, fun e => by omega, fun _ => ⟨(h.2.2 h0).1, far_keep (h.2.2 h0).2 (by rw [hz]; exact hc)⟩⟩

theorem ext_rank {side : Int} (hs : side = 1 ∨ side = -1) {zs : List Nat} {m n : Nat} (hm : Ext side zs m) (hn : Ext side zs n) : R.rank m = R.rank n := by
  by_cases hz : zs = []
  · rw [hm.2.1 hz, hn.2.1 hz]
  · have h1 := hm.2.2.2 n (hn.2.2.1 hz)
    have h2 := hn.2.2.2 m (hm.2.2.1 hz)
    unfold R.cmpI at h1 h2
    rcases hs with rfl | rfl
    · split at h1 <;> split at h2 <;> (try split at h1) <;> (try split at h2) <;> omega
    · split at h1 <;> split at h2 <;> (try split at h1) <;> (try split at h2) <;> omega

set_option maxHeartbeats 4000000 in
set_option maxRecDepth 10000 in
theorem core (l : Option Addr) (len cap : Nat) (zs : List Nat) (x low high most : Nat) (w : World) (hfl : IsFl w l len cap zs) (hlen : zs.length = len) (hl50 : ¬ (50 : Int) < (len : Int))
    (hx : x < 18446744073709551616) (hlow : low < 18446744073709551616) (hhigh : high < 18446744073709551616) (hmost : most < 18446744073709551616)
    (A : Hid (Calls Tryd.prog 8 #[] w fun e w' => e = .returned (.bool true) ∧ Below w.heap.size w w')) :
    Calls Tryd.prog 5 #[.slice l len cap, .float .f64 x, .float .f64 low, .float .f64 high, .int .u64 (most : Int)] w fun e w' => e = .returned (.bool true) ∧ Below w.heap.size w w' := by
  have HF := Lib.hid hfl
  have HL := Lib.hid hlen
  have N := Lib.hid nanF
  have hlm : len ≤ 50 := by omega
  have HX := Lib.hid (And.intro hx (And.intro hlow (And.intro hhigh hmost)))
  clear hfl hlen hx hlow hhigh hmost
  go_enter Tryd.func5, Tryd.ntmps5
  go_wp2_with fail
  refine A.out.mono ?_
  rintro e w1 ⟨rfl, hb⟩
  go_wp2_with fail
  refine (N.out _).mono ?_
  rintro e w' ⟨rfl, rfl⟩
  go_wp2_with fail
  refine (N.out _).mono ?_
  rintro e w' ⟨rfl, rfl⟩
  go_wp2_with fail
  go_loop [11, 12, 26] (fun av bv iv => ∃ (k p q : Nat), k ≤ len ∧ av = .float .f64 p ∧ bv = .float .f64 q ∧ iv = .int .i64 (k : Int) ∧ Hid (Upto (-1) zs k p ∧ Upto 1 zs k q)) (fun _ _ iv => len - (intOf iv).toNat)
  case atStart => exact ⟨0, _, _, Nat.zero_le _, rfl, rfl, rfl, ⟨by decide, fun _ => rfl, fun h => by omega⟩, ⟨by decide, fun _ => rfl, fun h => by omega⟩⟩
  case round =>
    obtain ⟨k, p, q, hk, rfl, rfl, rfl, HU⟩ := hrel
    by_cases hlt : k < len
    · rcases fl_below HF.out hb with ⟨_, h0, _, _⟩ | ⟨x0, rfl, g1, g2, g3, g4, g5⟩
      · omega
      have hck := g4 k hlt
      have hzm : zs.getD k 0 ∈ zs := by
        rw [List.getD_eq_getElem?_getD, List.getElem?_eq_getElem (by omega)]; exact List.getElem_mem _
      have hzl := g5 _ hzm
      generalize hz : zs.getD k 0 = z at *
      have HZ := Lib.hid (And.intro hz (And.intro hzm hzl))
      have R1 := Lib.hid fun v => refCmp_any z p hzl HU.out.1.1 v
      have R2 := Lib.hid fun v => refCmp_any z q hzl HU.out.2.1 v
      have c1r := R.cmpI_range (R.rank z) (R.rank p)
      have c2r := R.cmpI_range (R.rank z) (R.rank q)
      clear hz hzm hzl g1 g2 g3 g4 g5
      rcases Nat.eq_zero_or_pos k with h0 | h0
      · subst h0
        rw [Addr.add_zero'] at hck
        clear c1r c2r R1 R2
        go_wp2_with fail
        go_round
        case rel => exact ⟨1, z, z, by omega, rfl, rfl, rfl, upto_take (.inr rfl) HZ.out.1 HZ.out.2.1 HZ.out.2.2 HU.out.1 (.inl rfl), upto_take (.inl rfl) HZ.out.1 HZ.out.2.1 HZ.out.2.2 HU.out.2 (.inl rfl)⟩
        case measure => simp [intOf]; omega
      · have h0' : ((k : Int) == 0) = false := by simp; omega
        have key1 : (R.cmpI (R.rank z) (R.rank p) < 0 ∧ Upto (-1) zs (k + 1) z) ∨ (¬ R.cmpI (R.rank z) (R.rank p) < 0 ∧ Upto (-1) zs (k + 1) p) := by
          by_cases h : R.cmpI (R.rank z) (R.rank p) < 0
          · exact .inl ⟨h, upto_take (.inr rfl) HZ.out.1 HZ.out.2.1 HZ.out.2.2 HU.out.1 (.inr (by omega))⟩
          · exact .inr ⟨h, upto_keep HZ.out.1 HU.out.1 h0 (by omega)⟩
        have key2 : (0 < R.cmpI (R.rank z) (R.rank q) ∧ Upto 1 zs (k + 1) z) ∨ (¬ 0 < R.cmpI (R.rank z) (R.rank q) ∧ Upto 1 zs (k + 1) q) := by
          by_cases h : 0 < R.cmpI (R.rank z) (R.rank q)
          · exact .inl ⟨h, upto_take (.inl rfl) HZ.out.1 HZ.out.2.1 HZ.out.2.2 HU.out.2 (.inr (by omega))⟩
          · exact .inr ⟨h, upto_keep HZ.out.1 HU.out.2 h0 (by omega)⟩
        have K1 := Lib.hid key1
        have K2 := Lib.hid key2
        clear key1 key2 c1r c2r
        generalize R.cmpI (R.rank z) (R.rank p) = c1 at *
        generalize R.cmpI (R.rank z) (R.rank q) = c2 at *
        rcases K1.out with ⟨j1, u1⟩ | ⟨j1, u1⟩
        all_goals
          rcases K2.out with ⟨j2, u2⟩ | ⟨j2, u2⟩
        all_goals
          have V1 := Lib.hid u1
          have V2 := Lib.hid u2
          clear u1 u2 K1 K2
          go_wp2_with fail
          refine (R1.out _).mono ?_
          rintro e w2 ⟨rfl, rfl⟩
          go_wp2_with fail
          refine (R2.out _).mono ?_
          rintro e w2 ⟨rfl, rfl⟩
          go_wp2_with fail
          go_round
          case rel => exact ⟨k + 1, _, _, by omega, rfl, rfl, by go_num, V1.out, V2.out⟩
          case measure => simp [intOf]; omega
    · obtain rfl : k = len := by omega
      have hE1 : Ext (-1) zs p := upto_ext (by rw [HL.out]; exact HU.out.1)
      have hE2 : Ext 1 zs q := upto_ext (by rw [HL.out]; exact HU.out.2)
      have L := Lib.hid fun v hv => least_fl l k cap zs v (fl_below HF.out hv)
      have M := Lib.hid fun v hv => most_fl l k cap zs v (fl_below HF.out hv)
      have S1 : Hid (∀ m, Ext (-1) zs m → ∀ v, Calls Tryd.prog 13 #[.float .f64 m, .float .f64 p] v fun e w' => e = .returned (.bool true) ∧ w' = v) := fun m hm v => by
        have := same_any m p hm.1 hE1.1 v
        rw [ext_rank (.inr rfl) hm hE1, R.cmpI_self] at this
        exact this
      have S2 : Hid (∀ m, Ext 1 zs m → ∀ v, Calls Tryd.prog 13 #[.float .f64 m, .float .f64 q] v fun e w' => e = .returned (.bool true) ∧ w' = v) := fun m hm v => by
        have := same_any m q hm.1 hE2.1 v
        rw [ext_rank (.inl rfl) hm hE2, R.cmpI_self] at this
        exact this
      obtain ⟨hx, hlow, hhigh, hmost⟩ := HX.out
      have C5 := Lib.hid fun v => refCmp_any x low hx hlow v
      have C6 := Lib.hid fun v => refCmp_any x high hx hhigh v
      have HH := Lib.hid fun v => hold_any x low high hx hlow hhigh v
      have S3 : Hid (∀ v, Calls Tryd.prog 13 #[.float .f64 (holdV x low high), .float .f64 (holdV x low high)] v fun e w' => e = .returned (.bool true) ∧ w' = v) := fun v => by
        have hh : holdV x low high < 18446744073709551616 := by
          unfold holdV
          split
          · exact hlow
          · split
            · exact hhigh
            · exact hx
        have := same_any _ _ hh hh v
        rw [R.cmpI_self] at this
        exact this
      have WH := Lib.hid fun v => whole_any x most hx v
      have RW := Lib.hid fun v => refWhole_any x most hx hmost v
      have RA := Lib.hid fun v => ratio_any x low v
      have hqn : R.nan (R.qv x low) = false ∧ R.qv x low < 18446744073709551616 := by
        unfold R.qv
        cases h : Ieee.double.div x low with
        | none => decide
        | some r => exact ⟨R.div_num h, by have := Ieee.double.div_lt h; rw [show Ieee.double.width = 64 from rfl] at this; simpa using this⟩
      have S4 : Hid (∀ v, Calls Tryd.prog 13 #[.float .f64 (R.qv x low), .float .f64 (R.qv x low)] v fun e w' => e = .returned (.bool true) ∧ w' = v) := fun v => by
        have := same_any _ _ hqn.2 hqn.2 v
        rw [R.cmpI_self] at this
        exact this
      have KQ := Lib.hid fun v => kind_any (R.qv x low) hqn.2 v
      have hkq : (R.kind (R.qv x low) != 0) = true := by have := R.kind_num hqn.1; simp; omega
      have hq : (Ieee.double.div x low = none ∧ R.qv x low = 0) ∨ (∃ r, Ieee.double.div x low = some r ∧ R.qv x low = r ∧ R.nan r = false) := by
        unfold R.qv
        cases h : Ieee.double.div x low with
        | none => exact .inl ⟨rfl, rfl⟩
        | some r => exact .inr ⟨r, rfl, rfl, R.div_num h⟩
      have HQ := Lib.hid hq
      have hcase : (R.cmpI (R.rank x) (R.rank low) < 0 ∧ holdV x low high = low) ∨ (¬ R.cmpI (R.rank x) (R.rank low) < 0 ∧ 0 < R.cmpI (R.rank x) (R.rank high) ∧ holdV x low high = high) ∨ (¬ R.cmpI (R.rank x) (R.rank low) < 0 ∧ ¬ 0 < R.cmpI (R.rank x) (R.rank high) ∧ holdV x low high = x) := by
        rw [R.cmpI_neg, R.cmpI_pos]
        unfold holdV
        by_cases h1 : R.rank x < R.rank low
        · exact .inl ⟨h1, by rw [if_pos h1]⟩
        · by_cases h2 : R.rank high < R.rank x
          · exact .inr (.inl ⟨h1, h2, by rw [if_neg h1, if_pos h2]⟩)
          · exact .inr (.inr ⟨h1, h2, by rw [if_neg h1, if_neg h2]⟩)
      have HCA := Lib.hid hcase
      clear hE1 hE2 hx hlow hhigh hmost hqn hq hcase HU HX
      generalize R.kind (R.qv x low) = kq at *
      generalize R.cmpI (R.rank x) (R.rank low) = c5 at *
      generalize R.cmpI (R.rank x) (R.rank high) = c6 at *
      generalize holdV x low high = hv at *
      generalize wholeV x most = wv at *
      generalize hqv : R.qv x low = qq at *
      clear hqv
      have tail : ∀ (e5 : Nat), True := fun _ => trivial
      clear tail
      rcases HCA.out with ⟨g5, he⟩ | ⟨g5, g6, he⟩ | ⟨g5, g6, he⟩
      all_goals
        rw [he] at HH S3
        clear he HCA
        rcases HQ.out with ⟨hd, he⟩ | ⟨r, hd, he, hrn⟩
      all_goals
        rw [he] at S4 RA KQ
        clear he HQ
      all_goals first
        | (have qr := run_quo_some x low r hd
           have o2 : FloatKind.f64.format.order r r = some .eq := by rw [R.ord r r hrn hrn, Int.compare_eq_eq.2 rfl]
           have hb' : Below w.heap.size w w' := hb
           clear hd hrn hb)
        | (have qr := run_quo_none x low hd
           have o2 := R.ord_nl (nanR x low w') (nanR x low w') (nanR_nan x low w')
           have hb' : Below w.heap.size w w'.drew := hb.drew
           clear hd hb)
      all_goals
        go_wp2_with fail
        refine (C5.out _).mono ?_
        rintro e w2 ⟨rfl, rfl⟩
        go_wp2_with fail
      all_goals try
        (go_at_call 12
         refine (C6.out _).mono ?_
         rintro e w2 ⟨rfl, rfl⟩
         go_wp2_with fail)
      all_goals
        refine (L.out _ hb').mono ?_
        rintro e w3 ⟨m, rfl, rfl, hm⟩
        have HM1 := Lib.hid hm
        clear hm
        go_wp2_with fail
        refine (S1.out m HM1.out _).mono ?_
        rintro e w3 ⟨rfl, rfl⟩
        go_wp2_with fail
        refine (M.out _ hb').mono ?_
        rintro e w3 ⟨m2, rfl, rfl, hm2⟩
        have HM2 := Lib.hid hm2
        clear hm2
        go_wp2_with fail
        refine (S2.out m2 HM2.out _).mono ?_
        rintro e w3 ⟨rfl, rfl⟩
        go_wp2_with fail
        refine (HH.out _).mono ?_
        rintro e w3 ⟨rfl, rfl⟩
        go_wp2_with fail
        refine (S3.out _).mono ?_
        rintro e w3 ⟨rfl, rfl⟩
        go_wp2_with fail
        refine (WH.out _).mono ?_
        rintro e w3 ⟨rfl, rfl⟩
        go_wp2_with fail
        refine (RW.out _).mono ?_
        rintro e w3 ⟨rfl, rfl⟩
        go_wp2_with fail
        refine (RA.out _).mono ?_
        rintro e w6 ⟨rfl, hb6⟩
        replace hb6 := hb'.trans (hb6.mono hb'.size)
        clear hb'
        go_wp2_with fail
        refine (S4.out _).mono ?_
        rintro e w3 ⟨rfl, rfl⟩
        go_wp2_with fail
        refine (RA.out _).mono ?_
        rintro e w7 ⟨rfl, hb7⟩
        replace hb7 := hb6.trans (hb7.mono hb6.size)
        clear hb6
        go_wp2_with fail
        refine (KQ.out _).mono ?_
        rintro e w3 ⟨rfl, rfl⟩
        go_wp2_with fail
        go_ret
        exact ⟨rfl, hb7⟩

theorem long (l : Option Addr) (len cap : Nat) (x low high most : Nat) (w : World) (hl50 : (50 : Int) < (len : Int))
    (A : Hid (Calls Tryd.prog 8 #[] w fun e w' => e = .returned (.bool true) ∧ Below w.heap.size w w')) :
    Calls Tryd.prog 5 #[.slice l len cap, .float .f64 x, .float .f64 low, .float .f64 high, .int .u64 (most : Int)] w fun e w' => e = .returned (.bool true) ∧ Below w.heap.size w w' := by
  go_enter Tryd.func5, Tryd.ntmps5
  go_wp2_with fail
  refine A.out.mono ?_
  rintro e w1 ⟨rfl, hb⟩
  go_wp2_with fail
  go_ret
  exact ⟨rfl, hb⟩

theorem walk (a0 : Option Addr) (len0 cap0 : Nat) (z0 : List Nat) (a1 a2 a3 : Nat) (a4 : Int) (w : World) (htab : Tab w ∧ Pow10T w) (w0 : IsFl w a0 len0 cap0 z0) (w1 : (Lit.float .f64 a1).wf = true) (w2 : (Lit.float .f64 a2).wf = true) (w3 : (Lit.float .f64 a3).wf = true) (w4 : (Lit.int .u64 a4).wf = true) :
    Calls Tryd.prog 5 #[.slice a0 len0 cap0, .float .f64 a1, .float .f64 a2, .float .f64 a3, .int .u64 a4] w fun e w' => e = .returned (.bool true) ∧ Below w.heap.size w w' := by
  have h1 : a1 < 18446744073709551616 := by simpa [Lit.wf] using w1
  have h2 : a2 < 18446744073709551616 := by simpa [Lit.wf] using w2
  have h3 : a3 < 18446744073709551616 := by simpa [Lit.wf] using w3
  have h4 : 0 ≤ a4 ∧ a4 ≤ 18446744073709551615 := by simpa [Lit.wf, IntKind.min, IntKind.max, IntKind.signed, IntKind.bits] using w4
  obtain ⟨most, rfl⟩ := Int.eq_ofNat_of_zero_le h4.1
  have hlen : z0.length = len0 := by
    rcases w0 with ⟨_, h, _, h'⟩ | ⟨x, _, _, _, h, _, _⟩
    · rw [h', h]; rfl
    · exact h
  by_cases hl : (50 : Int) < (len0 : Int)
  · exact long a0 len0 cap0 a1 a2 a3 most w hl (awake2_any w htab.1 htab.2)
  · exact core a0 len0 cap0 z0 a1 a2 a3 most w w0 hlen hl h1 h2 h3 (by omega) (awake2_any w htab.1 htab.2)

end Go.Proofs.YtajpgjbdemadgaaDoor.RealHoldsW
