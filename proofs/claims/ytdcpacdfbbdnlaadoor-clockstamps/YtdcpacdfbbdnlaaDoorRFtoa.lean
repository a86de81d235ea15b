/-
  Layer 2: what strconv.FormatFloat comes to at 0.5.
-/
import Derived.Test.YtdcpacdfbbdnlaaDoorREfg
import Derived.Lib.SmallJoins
import Derived.Deep.QuietTactic
import Derived.BigQuiet
import Derived.BigCall
import Derived.BigGuard
namespace Go.Proofs.YtdcpacdfbbdnlaaDoor
open Go.RowKit
set_option linter.unusedVariables false
set_option maxRecDepth 20000
set_option linter.unusedSimpArgs false

/-- The library's table of powers of ten lies as the program's text lays it. -/
def Pow10T (w : World) : Prop := Lib.TabIs Tryd.prog w "internal/strconv.uint64pow10" .u64 Lib.pow10Tab

@[go_sem] theorem run_strconv_float64bits (x : Nat) (w : World) : (callFunc 52 #[.float .f64 x]).run Tryd.prog w = .ok (.value (.int .u64 x)) w := by
  rw [run_callFunc_extern Tryd.func52 (by kernel_rfl) (by kernel_rfl) (by kernel_rfl) (e := Extern.MathFloatBits.float64bits) (by kernel_rfl)]
  rfl

theorem Tab.alloc {w : World} (h : Tab w) (o : Obj) : Tab (w.alloc o) := by
  have hs : 3 < w.heap.size := World.block_lt_of_cell? _ _ h.1
  exact ⟨by rw [World.cell?_alloc_past _ _ _ hs]; exact h.1, by rw [World.cell?_alloc_past _ _ _ hs]; exact h.2⟩

theorem Tab.drewN {w : World} (h : Tab w) (n : Nat) : Tab (w.drewN n) := by
  unfold Tab; rw [World.cell?_drewN, World.cell?_drewN]; exact h

theorem pow10T_at : Tryd.prog.globalNamed "internal/strconv.uint64pow10" = some 2 := by kernel_rfl

theorem Pow10T.below {w w' : World} (h : Pow10T w) (hb : Below w.heap.size w w') : Pow10T w' := Joins.tab_stays pow10T_at h hb (Nat.le_refl _)
theorem Pow10T.drewN {w : World} (h : Pow10T w) (n : Nat) : Pow10T (w.drewN n) := h.below (Joins.below_draws _ w n)

theorem own_below' {w w' : World} {d : Nat} {T : TypeId} {n cap : Nat} {xs : List Value} (h : w.ownsRow d T 1 (.slice (some ⟨d, 0, none⟩) n cap) n xs) (hb : Below w.heap.size w w') : w'.ownsRow d T 1 (.slice (some ⟨d, 0, none⟩) n cap) n xs := by
  have hlt := (h.lt _ rfl).2
  refine ⟨h.1, ?_⟩
  rcases h.2 with ⟨h1, _⟩ | ⟨g, c, cur, h1, h2, h3, h4⟩
  · cases h1
  · right
    obtain ⟨rfl, rfl⟩ : g = d ∧ c = cap := by
      simp at h1; exact ⟨h1.1.symm, h1.2.symm⟩
    exact ⟨_, _, cur, rfl, h2, by rw [hb.block _ hlt]; exact h3, h4⟩

theorem own_below'' {w w' : World} {d b : Nat} {T : TypeId} {n cap : Nat} {xs : List Value} (h : w.ownsRow d T 1 (.slice (some ⟨d, 0, none⟩) n cap) n xs) (hb : Below b w w') (hd : d < b) : w'.ownsRow d T 1 (.slice (some ⟨d, 0, none⟩) n cap) n xs := by
  refine ⟨h.1, ?_⟩
  rcases h.2 with ⟨h1, _⟩ | ⟨g, c, cur, h1, h2, h3, h4⟩
  · cases h1
  · right
    obtain ⟨rfl, rfl⟩ : g = d ∧ c = cap := by
      simp at h1; exact ⟨h1.1.symm, h1.2.symm⟩
    exact ⟨_, _, cur, rfl, h2, by rw [hb.block _ hd]; exact h3, h4⟩

theorem numDigits_half (w : World) (hp : Pow10T w) : Calls Tryd.prog 59 #[.int .u64 5000000000000000] w fun e w' => e = .returned (.int .i64 16) ∧ w' = w := by
  have h := Tryd.internal_strconv_numDigits 5000000000000000 (by decide) (by decide) w hp
  rw [show Lib.nDigits 5000000000000000 = 16 by decide +kernel] at h
  exact h

theorem holds32 (w : World) (T : TypeId) (o : Obj) : Sort.Holds encB ((w.alloc (.cells #[.int .u8 0, .int .u8 0, .int .u8 0, .int .u8 0, .int .u8 0, .int .u8 0, .int .u8 0, .int .u8 0, .int .u8 0, .int .u8 0, .int .u8 0, .int .u8 0, .int .u8 0, .int .u8 0, .int .u8 0, .int .u8 0, .int .u8 0, .int .u8 0, .int .u8 0, .int .u8 0, .int .u8 0, .int .u8 0, .int .u8 0, .int .u8 0, .int .u8 0, .int .u8 0, .int .u8 0, .int .u8 0, .int .u8 0, .int .u8 0, .int .u8 0, .int .u8 0] T)).alloc o) w.heap.size 0 (Array.replicate 16 0) := fun j hj => by
  have hj' : j < 16 := by simpa using hj
  have e : (#[.int .u8 0, .int .u8 0, .int .u8 0, .int .u8 0, .int .u8 0, .int .u8 0, .int .u8 0, .int .u8 0, .int .u8 0, .int .u8 0, .int .u8 0, .int .u8 0, .int .u8 0, .int .u8 0, .int .u8 0, .int .u8 0, .int .u8 0, .int .u8 0, .int .u8 0, .int .u8 0, .int .u8 0, .int .u8 0, .int .u8 0, .int .u8 0, .int .u8 0, .int .u8 0, .int .u8 0, .int .u8 0, .int .u8 0, .int .u8 0, .int .u8 0, .int .u8 0] : Array Value) = Array.replicate 32 (.int .u8 0) := rfl
  refine ⟨?_, ?_⟩
  · rw [World.cell?_alloc_past _ _ _ (by simp), World.cell?_alloc_new, e, Array.getElem?_replicate, if_pos (by omega), getElem!_pos _ j hj]
    simp
  · rw [Below.frozen ((Below.refl (w.heap.size + 1) _).alloc (by simp) o) (by simp)]
    exact World.frozen?_alloc_new _ _ _ _

theorem holds_drewN {w : World} {b : Nat} {dk : Array UInt8} (h : Sort.Holds encB w b 0 dk) (n : Nat) : Sort.Holds encB (w.drewN n) b 0 dk := fun j hj => by
  rw [World.cell?_drewN]; exact ⟨(h j hj).1, (h j hj).2⟩

set_option maxHeartbeats 4000000 in
set_option maxRecDepth 100000 in
theorem ftoa64_half (d : Nat) (w : World) (ho : w.ownsRow d 5 1 (.slice (some ⟨d, 0, none⟩) 0 24) 0 []) (ht : Tab w) (hp : Pow10T w) :
    Calls Tryd.prog 49 #[.slice (some ⟨d, 0, none⟩) 0 24, .float .f64 4602678819172646912, .int .u8 103, .int .i64 (-1)] w fun e w' =>
      e = .returned (.slice (some ⟨d, 0, none⟩) 3 24) ∧ w'.ownsRow d 5 1 (.slice (some ⟨d, 0, none⟩) 3 24) 3 [.int .u8 48, .int .u8 46, .int .u8 53] ∧ Below d w w' := by
  have b1 : bits .and .i64 1022 2047 = 1022 := by kernel_rfl
  have b2 : bits .and .u64 4602678819172646912 4503599627370495 = 0 := by kernel_rfl
  have b3 : bits .or .u64 0 4503599627370496 = 4503599627370496 := by kernel_rfl
  have HT := Lib.hid ht
  have HP := Lib.hid hp
  have HO := Lib.hid ho
  clear ht hp ho
  go_enter Tryd.func49, Tryd.ntmps49
  go_wp2_with fail
  go_quiet (fail)
  go_wp2_with fail
  go_at_call 56
  refine (Tryd.bits_Len64 4503599627370496 _ (by decide) (by decide)).mono ?_
  rintro e w' ⟨rfl, rfl⟩
  have hl : Lib.bitLen (4503599627370496 : Int).toNat = 53 := by kernel_rfl
  rw [hl]
  go_wp2_with fail
  go_at_call 65
  refine (shortFloat_half _ (Tab.alloc (Tab.drewN HT.out _) _)).mono ?_
  rintro e w' ⟨rfl, rfl⟩
  go_wp2_with fail
  generalize hW : ((w.drewN nq).alloc (.cells #[.int .u8 0, .int .u8 0, .int .u8 0, .int .u8 0, .int .u8 0, .int .u8 0, .int .u8 0, .int .u8 0, .int .u8 0, .int .u8 0, .int .u8 0, .int .u8 0, .int .u8 0, .int .u8 0, .int .u8 0, .int .u8 0, .int .u8 0, .int .u8 0, .int .u8 0, .int .u8 0, .int .u8 0, .int .u8 0, .int .u8 0, .int .u8 0, .int .u8 0, .int .u8 0, .int .u8 0, .int .u8 0, .int .u8 0, .int .u8 0, .int .u8 0, .int .u8 0] 75)).alloc (.cells #[.int .u64 12800000000000000000, .int .u64 0, .int .i64 5] 96) = W
  have hs : W.heap.size = w.heap.size + 2 := by rw [← hW]; simp
  have hbel : Below w.heap.size w W := by
    rw [← hW]; exact ((Joins.below_draws _ w nq).alloc (by simp) _).alloc (by simp) _
  have hlt := (HO.out.lt _ rfl).2
  have hH : Sort.Holds encB W w.heap.size 0 (Array.replicate 16 0) := by
    rw [← hW]; exact holds32 (w.drewN nq) _ _
  have hoW : W.ownsRow d 5 1 (.slice (some ⟨d, 0, none⟩) 0 24) 0 [] := own_below' HO.out hbel
  have hpW : Pow10T W := Joins.tab_stays pow10T_at HP.out hbel (Nat.le_refl _)
  have Q0 := Lib.hid fun n : Nat => numDigits_half (W.drewN n) (hpW.drewN n)
  have Q1 := Lib.hid fun n : Nat => setDigits_half w.heap.size (W.drewN n) (holds_drewN hH n)
  have HO' := Lib.hid hoW
  clear hW HT HP HO hpW hH hoW
  go_region_with (first | (go_at_call 59; refine (Q0.out _).mono ?_; rintro e w' ⟨rfl, rfl⟩) | (go_at_call 58; refine (Q1.out _).mono ?_; rintro e w' ⟨rfl, h5, hb5, hs5⟩))
  all_goals
    have hbW : Below w.heap.size w w' := hbel.trans ((Joins.below_draws _ W _).trans hb5)
    have ho5 : w'.ownsRow d 5 1 (.slice (some ⟨d, 0, none⟩) 0 24) 0 [] := own_below'' HO'.out ((Joins.below_draws _ W _).trans hb5) hlt
    have Q2 := Lib.hid (fmtEFG_half d w.heap.size w' hlt ho5 h5)
    clear hbel ho5 h5 hb5 Q0 Q1 HO'
    go_wp2_with (go_at_call 55; refine Q2.out.mono ?_; rintro e w'' ⟨rfl, ho6, hb6⟩)
    go_ret
    exact ⟨rfl, ho6, (hbW.mono (by omega)).trans hb6⟩

end Go.Proofs.YtdcpacdfbbdnlaaDoor
