/-
  Layer 15: SenderFull, the walk: there are never more than eight states: as long as none is known of the other side what is new waits behind seven; once the last is known it goes, from that one on.
-/
import Derived.Test.YtglfbmgnndebiaaVLaw
import Derived.OpenShut
import Derived.Deep.RegionHeld3
namespace Go.Proofs.Ytglfbmgnndebiaa.SenderFullW
open Go.RowKit
set_option linter.unusedVariables false
set_option linter.unusedSimpArgs false
set_option maxRecDepth 20000
open S15

def rep (j : Nat) : ByteArray := ⟨(List.replicate j (120 : UInt8)).toArray⟩
theorem rep_size (j : Nat) : (rep j).size = j := by show (List.replicate j (120 : UInt8)).toArray.size = j; simp
theorem rep_ne {i j : Nat} (h : i ≠ j) : rep i ≠ rep j := fun e => h (by rw [← rep_size i, ← rep_size j, e])
theorem repL (n : Nat) : Lib.repeatL [120] n = List.replicate n (120 : UInt8) := by
  induction n with
  | zero => rfl
  | succ n ih => show (120 : UInt8) :: Lib.repeatL [120] n = _; rw [ih]; rfl
def stj (j : Nat) : St := ⟨j, j - 1, rep j⟩
/-- A sender behind so many states, none of them known. -/
def full (i : Nat) : Sn := ⟨rep i, (List.range (min i 7 + 1)).map stj, min i 7 - 1⟩
theorem full_len (i : Nat) : (full i).L.length = min i 7 + 1 := by simp [full]
theorem full_at {i j : Nat} (h : j < min i 7 + 1) : (full i).L[j]? = some (stj j) := by simp [full, h]
theorem full_top (i : Nat) : (full i).top = stj (min i 7) := top_at (full_len i) (full_at (by omega))
theorem full_base (i : Nat) : (full i).base = stj 0 := base_of (full_at (by omega))
theorem full_ok {i : Nat} (h : i ≤ 29) : Ok 29 7 29 (full i) := by
  have mem : ∀ p ∈ (full i).L, ∃ j, j < min i 7 + 1 ∧ p = stj j := fun p hp => by simp [full] at hp; obtain ⟨j, h1, h2⟩ := hp; exact ⟨j, by omega, h2.symm⟩
  refine ⟨by rw [full_len]; omega, by rw [full_len]; omega, fun j p hp => ?_, fun p hp => ?_, fun p hp => ?_, fun p hp => ?_, by show (rep i).size ≤ 29; rw [rep_size]; exact h, by show min i 7 - 1 ≤ 29; omega⟩
  · have hj := (List.getElem?_eq_some_iff.1 hp).1
    rw [full_len] at hj
    rw [full_at hj] at hp
    cases hp
    rw [full_base]
    show j = 0 + j
    omega
  all_goals (obtain ⟨j, h1, rfl⟩ := mem p hp)
  · show j ≤ 7; omega
  · show j - 1 ≤ 29; omega
  · show (rep j).size ≤ 29; rw [rep_size]; omega
/-- Set to the next text. -/
def nxt (i : Nat) : Sn := (full i).set (rep (i + 1))
theorem nxt_ok {i : Nat} (h : i ≤ 28) : Ok 29 7 29 (nxt i) := (full_ok (by omega)).set (by rw [rep_size]; omega)
theorem nxt_top (i : Nat) : (nxt i).top = stj (min i 7) := full_top i
theorem nxt_new {i : Nat} (h : i < 7) : (nxt i).hasNew = true := by
  unfold Sn.hasNew Sn.unsent
  rw [nxt_top, show (nxt i).L.length = min i 7 + 1 from full_len i]
  have : (nxt i).now ≠ (stj (min i 7)).tx := rep_ne (by omega)
  simp [this]; omega
theorem nxt_old {i : Nat} (h : 7 ≤ i) : (nxt i).hasNew = false := by
  unfold Sn.hasNew
  rw [show (nxt i).L.length = min i 7 + 1 from full_len i, decide_eq_false (by omega)]; rfl
theorem again_big {s : Sn} {wt bt : Nat} (hw : 100 ≤ wt) (hb : 100 ≤ bt) : 100 ≤ s.again wt bt := by
  have : ∀ a b : Nat, 100 ≤ b → 100 ≤ addS a b := fun a b h => by unfold addS; split <;> omega
  have h1 := this s.last bt hb
  have h2 := this s.top.tick wt hw
  unfold Sn.again
  split <;> omega
theorem nxt_goes {i wt bt : Nat} (h : i ≤ 28) (hw : 100 ≤ wt) (hb : 100 ≤ bt) : (nxt i).goes i wt bt = decide ((i : Int) < 7) := by
  unfold Sn.goes
  by_cases c : i < 7
  · rw [nxt_new c, decide_eq_true (by omega : (i : Int) < 7)]; rfl
  · have := again_big (s := nxt i) hw hb
    rw [nxt_old (by omega), decide_eq_false (by omega), decide_eq_false (by omega)]; rfl
theorem nxt_next {i wt bt : Nat} (h : i ≤ 28) (hw : 100 ≤ wt) (hb : 100 ≤ bt) : (nxt i).next i wt bt = full (i + 1) := by
  unfold Sn.next
  by_cases c : i < 7
  · rw [if_pos (nxt_new c)]
    unfold Sn.grown
    rw [nxt_top]
    have e1 : min (i + 1) 7 = i + 1 := by omega
    have e2 : min i 7 = i := by omega
    unfold full
    rw [e1, e2, List.range_succ (n := i + 1), List.map_append]
    have hL : (nxt i).L = (List.range (i + 1)).map stj := by show (full i).L = _; unfold full; rw [e2]
    rw [hL]
    rfl
  · have := again_big (s := nxt i) hw hb
    rw [if_neg (by rw [nxt_old (by omega)]; decide), if_neg (by omega)]
    unfold nxt full Sn.set
    rw [show min i 7 = 7 by omega, show min (i + 1) 7 = 7 by omega]
/-- The last one known. -/
def kn (k : Nat) : Sn := (full k).acked (min k 7)
theorem kn_L (k : Nat) : (kn k).L = [stj (min k 7)] := by
  unfold kn Sn.acked
  have h1 := full_len k
  rw [ackL_some (n := min k 7) (full_at (i := k) (j := min k 7) (by omega)) rfl (fun j q hj hq => by rw [full_at (by omega)] at hq; cases hq; show j ≠ _; omega)]
  show (full k).L.drop (min k 7) = _
  obtain ⟨hl, hv⟩ := List.getElem?_eq_some_iff.1 (full_at (i := k) (j := min k 7) (by omega))
  rw [List.drop_eq_getElem_cons hl, hv, List.drop_of_length_le (by omega)]
theorem kn_ok {k : Nat} (h : k ≤ 29) : Ok 29 7 29 (kn k) := (full_ok h).acked _
theorem kn_top (k : Nat) : (kn k).top = stj (min k 7) := top_of (l := []) (kn_L k)
theorem kn_base (k : Nat) : (kn k).base = stj (min k 7) := base_of (by rw [kn_L]; rfl)
theorem kn_now (k : Nat) : (kn k).now = rep k := rfl
theorem kn_new (k : Nat) : (kn k).hasNew = decide (7 < k) := by
  unfold Sn.hasNew Sn.unsent
  rw [kn_top, kn_L, kn_now]
  by_cases c : 7 < k
  · have : rep k ≠ (stj (min k 7)).tx := rep_ne (by omega)
    simp [this, c]
  · have : rep k = (stj (min k 7)).tx := by show rep k = rep (min k 7); rw [show min k 7 = k by omega]
    simp [this, c]
theorem kn_quiet {k : Nat} (h : k ≤ 7) : (kn k).quiet = true := by
  unfold Sn.quiet Sn.unsent
  rw [kn_top, kn_L, kn_now]
  have : rep k = (stj (min k 7)).tx := by show rep k = rep (min k 7); rw [show min k 7 = k by omega]
  simp [this]
theorem kn_goes {k wt bt : Nat} (h : k ≤ 29) (hw : 100 ≤ wt) (hb : 100 ≤ bt) : (kn k).goes k wt bt = decide (7 < k) := by
  have := again_big (s := kn k) hw hb
  unfold Sn.goes
  rw [kn_new, decide_eq_false (p := (kn k).again wt bt ≤ k) (by omega), Bool.or_false]
theorem kn_next {k wt bt : Nat} (h : 7 < k) : (kn k).next k wt bt = (kn k).grown k := by
  unfold Sn.next; rw [if_pos (by rw [kn_new]; exact decide_eq_true h)]
theorem gr_L {k : Nat} (h : 7 < k) : ((kn k).grown k).L = [stj 7, ⟨8, k, rep k⟩] := by
  unfold Sn.grown
  rw [kn_L, kn_top, show min k 7 = 7 by omega]; rfl
theorem gr_top {k : Nat} (h : 7 < k) : ((kn k).grown k).top = ⟨8, k, rep k⟩ := top_of (l := [stj 7]) (gr_L h)
theorem gr_quiet {k : Nat} (h : 7 < k) : (((kn k).grown k).acked 8).quiet = true := by
  have hL : (((kn k).grown k).acked 8).L = [⟨8, k, rep k⟩] := by
    unfold Sn.acked
    rw [ackL_some (L := ((kn k).grown k).L) (i := 1) (p := ⟨8, k, rep k⟩) (by rw [gr_L h]; rfl) rfl (fun j q hj hq => by
      obtain rfl : j = 0 := by omega
      rw [gr_L h] at hq
      simp at hq
      subst hq
      show (7 : Nat) ≠ 8
      decide)]
    show ((kn k).grown k).L.drop 1 = _
    rw [gr_L h]; rfl
  have ht : (((kn k).grown k).acked 8).top = ⟨8, k, rep k⟩ := top_of (l := []) hL
  unfold Sn.quiet Sn.unsent
  rw [hL, ht]
  show (decide (([⟨8, k, rep k⟩] : List St).length = 1) && !decide (rep k ≠ rep k)) = true
  simp

theorem held_neq {w : World} {s : Sn} {g cap p : Nat} {t : TypeId} {l : List Value} (h : Held w s g cap) (hp : 1 ≤ s.L.length) (r : Row w p t l) (hl : ∀ (q : St) (r : List Value), l ≠ q.c ++ r) : g ≠ p := by
  rintro rfl
  obtain ⟨⟨t', pre, sp, h1, r'⟩, _, _⟩ := h
  have e := r.symm.trans r'
  obtain ⟨q, L, hq⟩ : ∃ q L, s.L = q :: L := by
    cases hL : s.L with
    | nil => rw [hL] at hp; simp at hp
    | cons q L => exact ⟨q, L, rfl⟩
  obtain rfl : pre = [] := List.eq_nil_of_length_eq_zero h1
  rw [hq] at e
  simp only [List.nil_append, cellsL, List.append_assoc, Option.some.injEq, Obj.cells.injEq] at e
  have e2 := congrArg Array.toList e.1
  simp only [List.toList_toArray] at e2
  exact hl q _ e2

set_option maxHeartbeats 8000000 in
theorem walk (a0 : Int) (a1 : Int) (a2 : Int) (w : World) (w0 : (Lit.int .u8 a0).wf = true) (w1 : (Lit.int .u64 a1).wf = true) (w2 : (Lit.int .u64 a2).wf = true) :
    Calls Try.prog 7 #[.int .u8 a0, .int .u64 a1, .int .u64 a2] w fun e w' => e = .returned (.bool true) ∧ Below w.heap.size w w' := by
  obtain ⟨z0, z1⟩ := Go.bounds_u8 w0
  obtain ⟨y0, y1⟩ := Go.bounds_u64 w1
  obtain ⟨x0, x1⟩ := Go.bounds_u64 w2
  obtain ⟨n, rfl⟩ := Int.eq_ofNat_of_zero_le z0
  obtain ⟨wt, rfl⟩ := Int.eq_ofNat_of_zero_le y0
  obtain ⟨bt, rfl⟩ := Int.eq_ofNat_of_zero_le x0
  have CL := Lib.hid awake15_any
  clear w0 w1 w2 z0 y0 x0
  by_cases hb : 100 ≤ wt ∧ 100 ≤ bt
  · obtain ⟨hb1, hb2⟩ := hb
    have g1 : ¬ (wt : Int) < 100 := by omega
    have g2 : ¬ (bt : Int) < 100 := by omega
    obtain ⟨k, hk⟩ : ∃ k, k = n % 30 := ⟨_, rfl⟩
    have hk29 : k ≤ 29 := by omega
    have t1 : ((n : Int).tmod 30) = (k : Int) := by rw [hk]; rfl
    have q1 : ((n : Int) % 30) = (k : Int) := by rw [hk]; rfl
    clear hk
    have HB : Hid (wt ≤ 18446744073709551615 ∧ bt ≤ 18446744073709551615) := ⟨by omega, by omega⟩
    have CR := Lib.hid rule_any
    have HK := Lib.hid hk29
    have CW : Hid (∀ wx, Calls Try.prog 13 #[.string ⟨#[]⟩, .agg #[.func (.func 34) #[] #[], .func (.func 35) #[] #[]]] wx fun e w' => ∃ g cap, e = .returned (.agg ((full 0).c g cap).toArray) ∧ Held w' (full 0) g cap ∧ Below wx.heap.size wx w') := fun wx => new_sn ⟨#[]⟩ wx
    have CRp : Hid (∀ (j : Nat) (wx : World), j ≤ 30 → Calls Try.prog 27 #[.string ⟨#[120]⟩, .int .i64 (j : Int)] wx fun e w' => e = .returned (.string (rep j)) ∧ Below wx.heap.size wx w') := fun j wx hj => by
      have := Try.strings_Repeat ⟨#[120]⟩ j wx (by omega) (by show 1 * j ≤ _; omega)
      rw [show (⟨#[120]⟩ : ByteArray).data.toList = [120] from rfl, repL] at this
      exact this
    have CS : Hid (∀ (i g cap : Nat) (wx : World), i ≤ 28 → Held wx (full i) g cap → Calls Try.prog 16 #[.agg ((full i).c g cap).toArray, .string (rep (i + 1))] wx fun e w' => e = .returned (.agg ((nxt i).c g cap).toArray) ∧ Below wx.heap.size wx w') := fun i g cap wx hi hx => by
      refine (set_sn (full i) (rep (i + 1)) g cap wx hx (by rw [full_len]; omega)).mono ?_
      rintro e w' ⟨rfl, _, hbb⟩
      exact ⟨rfl, hbb⟩
    have CX : Hid (∀ (i g cap : Nat) (wx : World), i ≤ 28 → Held wx (full i) g cap → Calls Try.prog 22 #[.agg ((nxt i).c g cap).toArray, .int .u64 (i : Int), .int .u64 (wt : Int), .int .u64 (bt : Int), .int .u64 0] wx fun e w' => ∃ g' cap' o m a d, e = .returned (.tuple #[.agg ((full (i + 1)).c g' cap').toArray, .agg #[.int .u64 ((o : Nat) : Int), .int .u64 ((m : Nat) : Int), .int .u64 ((a : Nat) : Int), .int .u64 (o : Int), .string d], .bool (decide ((i : Int) < 7))]) ∧ Held w' (full (i + 1)) g' cap' ∧ Below wx.heap.size wx w') := fun i g cap wx hi hx => by
      have := next_sn (nxt i) g cap i wt bt 0 wx (nxt_ok hi) (by decide) (by decide) (by decide) HB.out.1 HB.out.2 ⟨hx.st, hx.le, hx.top⟩
      rw [nxt_goes hi hb1 hb2, nxt_next hi hb1 hb2] at this
      refine this.mono ?_
      rintro e w' ⟨g', cap', rfl, hh, hbb⟩
      exact ⟨g', cap', _, _, _, _, rfl, hh, hbb⟩
    have CN : Hid (∀ (i g cap : Nat) (wx : World), i ≤ 29 → Held wx (full i) g cap → Calls Try.prog 21 #[.agg ((full i).c g cap).toArray] wx fun e w' => ∃ g', e = .returned (.slice (some ⟨g', 0, none⟩) (min i 7 + 1) (min i 7 + 1)) ∧ Below wx.heap.size wx w') := fun i g cap wx hi hx => by
      refine (nums_sn (full i) g cap wx (full_ok hi) hx).mono ?_
      rintro e w' ⟨g', rfl, _, hbb⟩
      exact ⟨g', by rw [full_len], hbb⟩
    have CA : Hid (∀ (i g cap : Nat) (wx : World), i ≤ 29 → Held wx (full i) g cap → Calls Try.prog 17 #[.agg ((full i).c g cap).toArray, .int .u64 ((min i 7 : Nat) : Int)] wx fun e w' => ∃ g' cap', e = .returned (.agg ((kn i).c g' cap').toArray) ∧ Held w' (kn i) g' cap' ∧ Below wx.heap.size wx w') := fun i g cap wx hi hx => acked_sn (full i) g cap (min i 7) wx (full_ok hi) hx
    have CQ : Hid (∀ (g cap : Nat) (wx : World), k ≤ 7 → Held wx (kn k) g cap → Calls Try.prog 26 #[.agg ((kn k).c g cap).toArray] wx fun e w' => e = .returned (.bool true) ∧ Below wx.heap.size wx w') := fun g cap wx hi hx => by
      have := quiet_sn (kn k) g cap wx (kn_ok HK.out) hx
      rw [kn_quiet hi] at this
      exact this
    have CY : Hid (∀ (g cap : Nat) (wx : World), k ≤ 7 → Held wx (kn k) g cap → Calls Try.prog 22 #[.agg ((kn k).c g cap).toArray, .int .u64 (k : Int), .int .u64 (wt : Int), .int .u64 (bt : Int), .int .u64 3] wx fun e w' => ∃ s2 g' cap' o m a d, e = .returned (.tuple #[.agg (Sn.c s2 g' cap').toArray, .agg #[.int .u64 ((o : Nat) : Int), .int .u64 ((m : Nat) : Int), .int .u64 ((a : Nat) : Int), .int .u64 (o : Int), .string d], .bool false]) ∧ Held w' s2 g' cap' ∧ Below wx.heap.size wx w') := fun g cap wx hi hx => by
      have := next_sn (kn k) g cap k wt bt 3 wx (kn_ok HK.out) (by decide) (by decide) (by decide) HB.out.1 HB.out.2 hx
      rw [kn_goes HK.out hb1 hb2, decide_eq_false (by omega)] at this
      refine this.mono ?_
      rintro e w' ⟨g', cap', rfl, hh, hbb⟩
      exact ⟨_, g', cap', _, _, _, _, rfl, hh, hbb⟩
    have CZ : Hid (∀ (g cap : Nat) (wx : World), 7 < k → Held wx (kn k) g cap → Calls Try.prog 22 #[.agg ((kn k).c g cap).toArray, .int .u64 (k : Int), .int .u64 (wt : Int), .int .u64 (bt : Int), .int .u64 3] wx fun e w' => ∃ g' cap', e = .returned (.tuple #[.agg (((kn k).grown k).c g' cap').toArray, .agg #[.int .u64 7, .int .u64 8, .int .u64 3, .int .u64 7, .string (rep 7 ++ ⟨#[62]⟩ ++ rep k)], .bool true]) ∧ Held w' ((kn k).grown k) g' cap' ∧ Below wx.heap.size wx w') := fun g cap wx hi hx => by
      have hg : (kn k).goes k wt bt = true := by rw [kn_goes HK.out hb1 hb2, decide_eq_true hi]
      have h7 : (kn k).base = stj 7 := by rw [kn_base, show min k 7 = 7 by omega]
      have := next_sn (kn k) g cap k wt bt 3 wx (kn_ok HK.out) (by decide) (by decide) (by decide) HB.out.1 HB.out.2 hx
      rw [hg, show (kn k).io k wt bt = 7 by unfold Sn.io; rw [if_pos hg, h7]; rfl, show (kn k).iN k wt bt = 8 by unfold Sn.iN; rw [if_pos hg, kn_next hi, gr_top hi], show (kn k).ia k wt bt 3 = 3 by unfold Sn.ia; rw [if_pos hg], show (kn k).id k wt bt = rep 7 ++ ⟨#[62]⟩ ++ rep k by unfold Sn.id; rw [if_pos hg, kn_next hi, gr_top hi, h7]; rfl, kn_next hi] at this
      exact this
    have CK : Hid (∀ (g cap : Nat) (wx : World), 7 < k → Held wx ((kn k).grown k) g cap → Calls Try.prog 17 #[.agg (((kn k).grown k).c g cap).toArray, .int .u64 8] wx fun e w' => ∃ s3 g' cap', e = .returned (.agg (Sn.c s3 g' cap').toArray) ∧ Held w' s3 g' cap' ∧ (∀ wy, Held wy s3 g' cap' → Calls Try.prog 26 #[.agg (Sn.c s3 g' cap').toArray] wy fun e w' => e = .returned (.bool true) ∧ Below wy.heap.size wy w') ∧ Below wx.heap.size wx w') := fun g cap wx hi hx => by
      have hO : Ok 29 8 29 ((kn k).grown k) := (kn_ok HK.out).grown (by rw [kn_new]; exact decide_eq_true hi) HK.out
      refine (acked_sn ((kn k).grown k) g cap 8 wx hO hx).mono ?_
      rintro e w' ⟨g', cap', rfl, hh, hbb⟩
      refine ⟨_, g', cap', rfl, hh, fun wy hy => ?_, hbb⟩
      have := quiet_sn _ g' cap' wy (hO.acked 8) hy
      rw [gr_quiet hi] at this
      exact this
    have HP : Hid (∀ i, 1 ≤ (full i).L.length) := fun i => by show 1 ≤ _; rw [full_len]; omega
    have HPk : Hid (1 ≤ (kn k).L.length) := by show 1 ≤ _; rw [kn_L]; exact Nat.le_refl _
    generalize full = full at *
    generalize nxt = nxt at *
    have HR : Hid (∀ j, (rep j).size = j) := rep_size
    generalize rep = rep at *
    clear hb1 hb2
    have bb : Below w.heap.size w w := Below.refl _ _
    go_enter Try.func7, Try.ntmps7
    go_wp2_with fail
    refine (CL.out _).mono ?_
    rintro e wa2 ⟨rfl, bwa2⟩
    replace bb := bb.trans (bwa2.mono bb.size)
    clear bwa2
    go_wp2_with fail
    refine (CR.out _).mono ?_
    rintro e wa3 ⟨rfl, bwa3⟩
    replace bb := bb.trans (bwa3.mono bb.size)
    clear bwa3
    go_wp2_with fail
    refine (CW.out _).mono ?_
    rintro e wa4 ⟨g0, cap0, rfl, H0, bwa4⟩
    replace bb := bb.trans (bwa4.mono bb.size)
    clear bwa4
    have x1 : Row (wa4.alloc (.cells #[.nilFunc, .nilFunc, .string ⟨#[]⟩, .slice none 0 0, .int .u64 0] 42 (0, 0))) wa4.heap.size 42 ([.nilFunc, .nilFunc, .string ⟨#[]⟩, .slice none 0 0, .int .u64 0]) := Row.new' rfl rfl
    have lH0x1 : g0 < wa4.heap.size := H0.lt
    have lzx1 := bb.size
    replace H0 := (H0).alloc (.cells #[.nilFunc, .nilFunc, .string ⟨#[]⟩, .slice none 0 0, .int .u64 0] 42 (0, 0))
    replace bb := (bb).alloc bb.size (.cells #[.nilFunc, .nilFunc, .string ⟨#[]⟩, .slice none 0 0, .int .u64 0] 42 (0, 0))
    have tok5 : True := True.intro
    go_wp2_with (first | (refine at_op (.store 42 (.tmp 7) (.tmp 26)) (by with_reducible rfl) ?_; clear tok5; refine wpList_store_row rfl 42 (.tmp 7) (.tmp 26) rfl (wa4.heap.size) _ rfl rfl _ _ x1 infoSn rfl (by first | (simp [Value.oneCell']; done) | exact S15.Sn.c_all _ _ _) ?_))
    obtain ⟨p1, hp1⟩ : ∃ p1, p1 = wa4.heap.size := ⟨_, rfl⟩
    rw [← hp1] at x1 lH0x1 lzx1 ⊢
    generalize wa4.alloc (.cells #[.nilFunc, .nilFunc, .string ⟨#[]⟩, .slice none 0 0, .int .u64 0] 42 (0, 0)) = wa6 at *
    clear hp1
    replace H0 := H0.setRow (k := (p1)) (by omega) (List.toArray ((full 0).c g0 cap0))
    replace x1 := x1.setRow ((full 0).c g0 cap0)
    replace bb := below_row bb (show _ ≤ p1 by omega) (List.toArray ((full 0).c g0 cap0))
    generalize wa6.setRow p1 (List.toArray ((full 0).c g0 cap0)) = wa7 at *
    clear CR CW CL
    go_wp2
    go_loopw [31] (fun iv wr => ∃ (i g cap : Nat), i ≤ k ∧ iv = .int .i64 (i : Int) ∧ Row wr p1 42 ((full i).c g cap) ∧ Held wr (full i) g cap ∧ Below w.heap.size w wr) (fun iv _ => k - (intOf iv).toNat)
    case atStart => exact ⟨0, g0, cap0, Nat.zero_le _, rfl, x1, H0, bb⟩
    case round =>
      clear x1 H0 bb
      obtain ⟨i, g, cap, hi, rfl, x1, H0, bb⟩ := hrel
      by_cases hlt : i < k
      · have hs : (i : Int) < (k : Int) := by omega
        obtain ⟨j, hj⟩ : ∃ j, j = i + 1 := ⟨_, rfl⟩
        have y1 : (i : Int) + 1 = (j : Int) := by omega
        have y2 : IntKind.i64.wrap (j : Int) = (j : Int) := by rw [IntKind.wrap_i64]; omega
        have y5 : IntKind.i64.wrap ((i : Int) + 1) = (j : Int) := by rw [IntKind.wrap_i64]; omega
        have y3 : IntKind.u64.wrap (i : Int) = (i : Int) := by rw [IntKind.wrap_u64]; omega
        have C1 : Hid (∀ wx, Calls Try.prog 27 #[.string ⟨#[120]⟩, .int .i64 (j : Int)] wx fun e w' => e = .returned (.string (rep j)) ∧ Below wx.heap.size wx w') := fun wx => CRp.out j wx (by omega)
        have C2 := Lib.hid (fun wx hx => CS.out i g cap wx (by omega) hx)
        have C3 := Lib.hid (fun wx hx => CX.out i g cap wx (by omega) hx)
        have C4 := Lib.hid (fun g cap wx hx => CN.out (i + 1) g cap wx (by omega) hx)
        rw [← hj] at C2 C3 C4
        have hlx := x1.lt
        have hgx := H0.lt
        have hj29 : j ≤ 29 := by omega
        have hij : Hid (j = i + 1) := hj
        clear hj
        generalize hs1 : nxt i = s1 at *
        generalize hs2 : full j = s2 at *
        clear hs1
        go_wp2
        refine wp_region_held_drew (S := fun w' => Row w' p1 42 ((full i).c g cap) ∧ S15.Held w' (full i) g cap ∧ Below w.heap.size w w') (by kernel_rfl) (⟨x1.drew, H0.drew, bb.drew⟩) (fun hHeld => ?_)
        generalize wr.drew = wd21 at *
        obtain ⟨Bz, hBz⟩ : ∃ B, B = wd21.heap.size := ⟨_, rfl⟩
        have lB0 : p1 < Bz := by rw [hBz]; exact (hHeld.1).lt
        have lB1 : g < Bz := by rw [hBz]; exact (hHeld.2.1).lt
        have lBw : w.heap.size ≤ Bz := by rw [hBz]; exact (hHeld.2.2).size
        have lw : Bz ≤ wd21.heap.size := by rw [hBz]; exact Nat.le_refl _
        clear hBz
        refine cut_hereT (G := ∀ (p10 p11 g2 cap2 o2 m2 a2 : Nat) (d2 : ByteArray) (wz : World), (Bz ≤ p10 ∧ Bz ≤ p11 ∧ p10 ≠ p11) → S15.Held wz s2 g2 cap2 → Row wz p10 42 ([.nilFunc, .nilFunc, .string ⟨#[]⟩, .slice none 0 0, .int .u64 0]) → Row wz p11 24 ([.int .u64 0, .int .u64 0, .int .u64 0, .int .u64 0, .string ⟨#[]⟩]) → (Row wz p1 42 ((full i).c g cap) ∧ S15.Held wz (full i) g cap ∧ Below w.heap.size w wz) → (?B : Nat → Nat → Nat → Nat → Nat → Nat → Nat → ByteArray → World → Prop) p10 p11 g2 cap2 o2 m2 a2 d2 wz) ?tree ?lf
        case tree =>
          intro leaf
          refine take_d 0 (some 35) (.agg ((full i).c g cap).toArray) rfl (by kernel_rfl) (by kernel_rfl) (by kernel_rfl) (fun _ _ _ h => h) (fun oi h => by cases h; exact yieldsIf_load_mid (by rfl) 42 (.tmp 7) rfl p1 0 rfl ((full i).c g cap) _ (fun w' hS' => hS'.1.range) Try.underlying42 rfl infoSn) hHeld ?_
          try simp only [Act.put, List.setIfInBounds_toArray, List.set_cons_zero, List.set_cons_succ]
          refine take_d 1 (some 36) (.int .i64 (i : Int)) rfl (by kernel_rfl) (by kernel_rfl) (by kernel_rfl) (fun _ _ _ h => h) (fun oi h => by cases h; exact Or.inl ⟨by rfl, fun w' hS' => by go_simp⟩) hHeld ?_
          try simp only [Act.put, List.setIfInBounds_toArray, List.set_cons_zero, List.set_cons_succ]
          refine take_d 2 (some 37) (.int .i64 (j : Int)) rfl (by kernel_rfl) (by kernel_rfl) (by kernel_rfl) (fun _ _ _ h => h) (fun oi h => by cases h; exact Or.inl ⟨by rfl, fun w' hS' => by go_simp⟩) hHeld ?_
          try simp only [Act.put, List.setIfInBounds_toArray, List.set_cons_zero, List.set_cons_succ]
          refine take_d 5 (some 40) (.int .i64 (i : Int)) rfl (by kernel_rfl) (by kernel_rfl) (by kernel_rfl) (fun _ _ _ h => h) (fun oi h => by cases h; exact Or.inl ⟨by rfl, fun w' hS' => by go_simp⟩) hHeld ?_
          try simp only [Act.put, List.setIfInBounds_toArray, List.set_cons_zero, List.set_cons_succ]
          refine take_d 6 (some 41) (.int .u64 (i : Int)) rfl (by kernel_rfl) (by kernel_rfl) (by kernel_rfl) (fun _ _ _ h => h) (fun oi h => by cases h; exact Or.inl ⟨by rfl, fun w' hS' => by go_simp⟩) hHeld ?_
          try simp only [Act.put, List.setIfInBounds_toArray, List.set_cons_zero, List.set_cons_succ]
          refine take_d 7 (some 42) (.int .u64 (wt : Int)) rfl (by kernel_rfl) (by kernel_rfl) (by kernel_rfl) (fun _ _ _ h => h) (fun oi h => by cases h; exact Or.inl ⟨by rfl, fun w' hS' => by go_simp⟩) hHeld ?_
          try simp only [Act.put, List.setIfInBounds_toArray, List.set_cons_zero, List.set_cons_succ]
          refine take_d 8 (some 43) (.int .u64 (bt : Int)) rfl (by kernel_rfl) (by kernel_rfl) (by kernel_rfl) (fun _ _ _ h => h) (fun oi h => by cases h; exact Or.inl ⟨by rfl, fun w' hS' => by go_simp⟩) hHeld ?_
          try simp only [Act.put, List.setIfInBounds_toArray, List.set_cons_zero, List.set_cons_succ]
          refine three_dT 3 14 15 rfl rfl rfl (by kernel_rfl) ?_ ?_ ?_
          · intro K hK
            go_simp
            refine (C1.out _).mono ?_
            rintro e v22 ⟨rfl, bb0⟩
            replace lw := Nat.le_trans lw bb0.size
            refine hK.out _ _ (⟨hHeld.1.below bb0 hHeld.1.lt, hHeld.2.1.keep bb0, hHeld.2.2.trans (bb0.mono hHeld.2.2.size)⟩) (fun hHeld => ?_)
            clear bb0
            clear hK K
            try simp only [Act.put, List.setIfInBounds_toArray, List.set_cons_zero, List.set_cons_succ]
            refine three_dT 4 14 15 rfl rfl rfl (by kernel_rfl) ?_ ?_ ?_
            · intro K hK
              go_simp
              refine (C2.out _ hHeld.2.1).mono ?_
              rintro e v23 ⟨rfl, bb0⟩
              replace lw := Nat.le_trans lw bb0.size
              refine hK.out _ _ (⟨hHeld.1.below bb0 hHeld.1.lt, hHeld.2.1.keep bb0, hHeld.2.2.trans (bb0.mono hHeld.2.2.size)⟩) (fun hHeld => ?_)
              clear bb0
              clear hK K
              try simp only [Act.put, List.setIfInBounds_toArray, List.set_cons_zero, List.set_cons_succ]
              refine three_dT 9 14 15 rfl rfl rfl (by kernel_rfl) ?_ ?_ ?_
              · intro K hK
                go_simp
                refine (C3.out _ hHeld.2.1).mono ?_
                rintro e v24 ⟨g2, cap2, o2, m2, a2, d2, rfl, H2, bb0⟩
                replace lw := Nat.le_trans lw bb0.size
                refine hK.out _ _ (⟨hHeld.1.below bb0 hHeld.1.lt, hHeld.2.1.keep bb0, hHeld.2.2.trans (bb0.mono hHeld.2.2.size)⟩) (fun hHeld => ?_)
                clear bb0
                clear hK K
                try simp only [Act.put, List.setIfInBounds_toArray, List.set_cons_zero, List.set_cons_succ]
                refine take_d 10 (some 34) (.tuple #[.agg (s2.c g2 cap2).toArray, .agg #[.int .u64 (o2 : Int), .int .u64 (m2 : Int), .int .u64 (a2 : Int), .int .u64 (o2 : Int), .string d2], .bool (decide ((i : Int) < 7))]) rfl (by kernel_rfl) (by kernel_rfl) (by kernel_rfl) (fun _ _ _ h => h) (fun oi h => by cases h; exact Or.inl ⟨by rfl, fun w' hS' => by go_simp⟩) hHeld ?_
                try simp only [Act.put, List.setIfInBounds_toArray, List.set_cons_zero, List.set_cons_succ]
                refine take_d 11 (some 45) (.agg (s2.c g2 cap2).toArray) rfl (by kernel_rfl) (by kernel_rfl) (by kernel_rfl) (fun _ _ _ h => h) (fun oi h => by cases h; exact Or.inl ⟨by rfl, fun w' hS' => by go_simp⟩) hHeld ?_
                try simp only [Act.put, List.setIfInBounds_toArray, List.set_cons_zero, List.set_cons_succ]
                refine take_d 12 (some 46) (.agg #[.int .u64 (o2 : Int), .int .u64 (m2 : Int), .int .u64 (a2 : Int), .int .u64 (o2 : Int), .string d2]) rfl (by kernel_rfl) (by kernel_rfl) (by kernel_rfl) (fun _ _ _ h => h) (fun oi h => by cases h; exact Or.inl ⟨by rfl, fun w' hS' => by go_simp⟩) hHeld ?_
                try simp only [Act.put, List.setIfInBounds_toArray, List.set_cons_zero, List.set_cons_succ]
                refine take_d 13 (some 47) (.bool (decide ((i : Int) < 7))) rfl (by kernel_rfl) (by kernel_rfl) (by kernel_rfl) (fun _ _ _ h => h) (fun oi h => by cases h; exact Or.inl ⟨by rfl, fun w' hS' => by go_simp⟩) hHeld ?_
                try simp only [Act.put, List.setIfInBounds_toArray, List.set_cons_zero, List.set_cons_succ]
                refine two_d 14 15 rfl rfl (by kernel_rfl) ?_ ?_
                · intro K hK
                  go_simp
                  refine hK.out _ _ ⟨hHeld.1.alloc _, hHeld.2.1.alloc _, hHeld.2.2.alloc hHeld.2.2.size _⟩ (fun hHeld => ?_)
                  clear hK K
                  try simp only [Act.put, List.setIfInBounds_toArray, List.set_cons_zero, List.set_cons_succ]
                  have lp10 : Bz ≤ v24.heap.size := lw
                  have x2 : Row (v24.alloc (.cells #[.nilFunc, .nilFunc, .string ⟨#[]⟩, .slice none 0 0, .int .u64 0] 42 (0, 0))) v24.heap.size 42 [.nilFunc, .nilFunc, .string ⟨#[]⟩, .slice none 0 0, .int .u64 0] := Row.new' rfl rfl
                  replace H2 := H2.alloc (.cells #[.nilFunc, .nilFunc, .string ⟨#[]⟩, .slice none 0 0, .int .u64 0] 42 (0, 0))
                  replace lw : Bz ≤ (v24.alloc (.cells #[.nilFunc, .nilFunc, .string ⟨#[]⟩, .slice none 0 0, .int .u64 0] 42 (0, 0))).heap.size := Nat.le_trans lw (by simp)
                  generalize v24.heap.size = p10 at *
                  generalize v24.alloc (.cells #[.nilFunc, .nilFunc, .string ⟨#[]⟩, .slice none 0 0, .int .u64 0] 42 (0, 0)) = v25 at *
                  refine one_d 15 (some 11) rfl (by kernel_rfl) ?_
                  intro o ho1 hd K hK
                  cases ho1
                  go_simp
                  refine hK.out _ _ ⟨hHeld.1.alloc _, hHeld.2.1.alloc _, hHeld.2.2.alloc hHeld.2.2.size _⟩ (fun hHeld => ?_)
                  clear hK K hd
                  try simp only [Act.put, List.setIfInBounds_toArray, List.set_cons_zero, List.set_cons_succ]
                  have lp11 : Bz ≤ v25.heap.size := lw
                  have lp10p11 : p10 < v25.heap.size := x2.lt
                  have x3 : Row (v25.alloc (.cells #[.int .u64 0, .int .u64 0, .int .u64 0, .int .u64 0, .string ⟨#[]⟩] 24 (0, 0))) v25.heap.size 24 [.int .u64 0, .int .u64 0, .int .u64 0, .int .u64 0, .string ⟨#[]⟩] := Row.new' rfl rfl
                  replace H2 := H2.alloc (.cells #[.int .u64 0, .int .u64 0, .int .u64 0, .int .u64 0, .string ⟨#[]⟩] 24 (0, 0))
                  replace x2 := x2.alloc (.cells #[.int .u64 0, .int .u64 0, .int .u64 0, .int .u64 0, .string ⟨#[]⟩] 24 (0, 0))
                  replace lw : Bz ≤ (v25.alloc (.cells #[.int .u64 0, .int .u64 0, .int .u64 0, .int .u64 0, .string ⟨#[]⟩] 24 (0, 0))).heap.size := Nat.le_trans lw (by simp)
                  generalize v25.heap.size = p11 at *
                  generalize v25.alloc (.cells #[.int .u64 0, .int .u64 0, .int .u64 0, .int .u64 0, .string ⟨#[]⟩] 24 (0, 0)) = v26 at *
                  exact leaf.out p10 p11 g2 cap2 o2 m2 a2 d2 _ (by omega) H2 x2 x3 hHeld
                · intro K hK
                  go_simp
                  refine hK.out _ _ ⟨hHeld.1.alloc _, hHeld.2.1.alloc _, hHeld.2.2.alloc hHeld.2.2.size _⟩ (fun hHeld => ?_)
                  clear hK K
                  try simp only [Act.put, List.setIfInBounds_toArray, List.set_cons_zero, List.set_cons_succ]
                  have lp11 : Bz ≤ v24.heap.size := lw
                  have x3 : Row (v24.alloc (.cells #[.int .u64 0, .int .u64 0, .int .u64 0, .int .u64 0, .string ⟨#[]⟩] 24 (0, 0))) v24.heap.size 24 [.int .u64 0, .int .u64 0, .int .u64 0, .int .u64 0, .string ⟨#[]⟩] := Row.new' rfl rfl
                  replace H2 := H2.alloc (.cells #[.int .u64 0, .int .u64 0, .int .u64 0, .int .u64 0, .string ⟨#[]⟩] 24 (0, 0))
                  replace lw : Bz ≤ (v24.alloc (.cells #[.int .u64 0, .int .u64 0, .int .u64 0, .int .u64 0, .string ⟨#[]⟩] 24 (0, 0))).heap.size := Nat.le_trans lw (by simp)
                  generalize v24.heap.size = p11 at *
                  generalize v24.alloc (.cells #[.int .u64 0, .int .u64 0, .int .u64 0, .int .u64 0, .string ⟨#[]⟩] 24 (0, 0)) = v25 at *
                  refine one_d 14 (some 10) rfl (by kernel_rfl) ?_
                  intro o ho1 hd K hK
                  cases ho1
                  go_simp
                  refine hK.out _ _ ⟨hHeld.1.alloc _, hHeld.2.1.alloc _, hHeld.2.2.alloc hHeld.2.2.size _⟩ (fun hHeld => ?_)
                  clear hK K hd
                  try simp only [Act.put, List.setIfInBounds_toArray, List.set_cons_zero, List.set_cons_succ]
                  have lp10 : Bz ≤ v25.heap.size := lw
                  have lp11p10 : p11 < v25.heap.size := x3.lt
                  have x2 : Row (v25.alloc (.cells #[.nilFunc, .nilFunc, .string ⟨#[]⟩, .slice none 0 0, .int .u64 0] 42 (0, 0))) v25.heap.size 42 [.nilFunc, .nilFunc, .string ⟨#[]⟩, .slice none 0 0, .int .u64 0] := Row.new' rfl rfl
                  replace H2 := H2.alloc (.cells #[.nilFunc, .nilFunc, .string ⟨#[]⟩, .slice none 0 0, .int .u64 0] 42 (0, 0))
                  replace x3 := x3.alloc (.cells #[.nilFunc, .nilFunc, .string ⟨#[]⟩, .slice none 0 0, .int .u64 0] 42 (0, 0))
                  replace lw : Bz ≤ (v25.alloc (.cells #[.nilFunc, .nilFunc, .string ⟨#[]⟩, .slice none 0 0, .int .u64 0] 42 (0, 0))).heap.size := Nat.le_trans lw (by simp)
                  generalize v25.heap.size = p10 at *
                  generalize v25.alloc (.cells #[.nilFunc, .nilFunc, .string ⟨#[]⟩, .slice none 0 0, .int .u64 0] 42 (0, 0)) = v26 at *
                  exact leaf.out p10 p11 g2 cap2 o2 m2 a2 d2 _ (by omega) H2 x2 x3 hHeld
              · intro K hK
                go_simp
                refine hK.out _ _ ⟨hHeld.1.alloc _, hHeld.2.1.alloc _, hHeld.2.2.alloc hHeld.2.2.size _⟩ (fun hHeld => ?_)
                clear hK K
                try simp only [Act.put, List.setIfInBounds_toArray, List.set_cons_zero, List.set_cons_succ]
                have lp10 : Bz ≤ v23.heap.size := lw
                have x2 : Row (v23.alloc (.cells #[.nilFunc, .nilFunc, .string ⟨#[]⟩, .slice none 0 0, .int .u64 0] 42 (0, 0))) v23.heap.size 42 [.nilFunc, .nilFunc, .string ⟨#[]⟩, .slice none 0 0, .int .u64 0] := Row.new' rfl rfl
                replace lw : Bz ≤ (v23.alloc (.cells #[.nilFunc, .nilFunc, .string ⟨#[]⟩, .slice none 0 0, .int .u64 0] 42 (0, 0))).heap.size := Nat.le_trans lw (by simp)
                generalize v23.heap.size = p10 at *
                generalize v23.alloc (.cells #[.nilFunc, .nilFunc, .string ⟨#[]⟩, .slice none 0 0, .int .u64 0] 42 (0, 0)) = v24 at *
                refine two_d 9 15 rfl rfl (by kernel_rfl) ?_ ?_
                · intro K hK
                  go_simp
                  refine (C3.out _ hHeld.2.1).mono ?_
                  rintro e v25 ⟨g2, cap2, o2, m2, a2, d2, rfl, H2, bb0⟩
                  replace x2 := x2.below bb0 x2.lt
                  replace lw := Nat.le_trans lw bb0.size
                  refine hK.out _ _ (⟨hHeld.1.below bb0 hHeld.1.lt, hHeld.2.1.keep bb0, hHeld.2.2.trans (bb0.mono hHeld.2.2.size)⟩) (fun hHeld => ?_)
                  clear bb0
                  clear hK K
                  try simp only [Act.put, List.setIfInBounds_toArray, List.set_cons_zero, List.set_cons_succ]
                  refine take_d 10 (some 34) (.tuple #[.agg (s2.c g2 cap2).toArray, .agg #[.int .u64 (o2 : Int), .int .u64 (m2 : Int), .int .u64 (a2 : Int), .int .u64 (o2 : Int), .string d2], .bool (decide ((i : Int) < 7))]) rfl (by kernel_rfl) (by kernel_rfl) (by kernel_rfl) (fun _ _ _ h => h) (fun oi h => by cases h; exact Or.inl ⟨by rfl, fun w' hS' => by go_simp⟩) hHeld ?_
                  try simp only [Act.put, List.setIfInBounds_toArray, List.set_cons_zero, List.set_cons_succ]
                  refine take_d 11 (some 45) (.agg (s2.c g2 cap2).toArray) rfl (by kernel_rfl) (by kernel_rfl) (by kernel_rfl) (fun _ _ _ h => h) (fun oi h => by cases h; exact Or.inl ⟨by rfl, fun w' hS' => by go_simp⟩) hHeld ?_
                  try simp only [Act.put, List.setIfInBounds_toArray, List.set_cons_zero, List.set_cons_succ]
                  refine take_d 12 (some 46) (.agg #[.int .u64 (o2 : Int), .int .u64 (m2 : Int), .int .u64 (a2 : Int), .int .u64 (o2 : Int), .string d2]) rfl (by kernel_rfl) (by kernel_rfl) (by kernel_rfl) (fun _ _ _ h => h) (fun oi h => by cases h; exact Or.inl ⟨by rfl, fun w' hS' => by go_simp⟩) hHeld ?_
                  try simp only [Act.put, List.setIfInBounds_toArray, List.set_cons_zero, List.set_cons_succ]
                  refine take_d 13 (some 47) (.bool (decide ((i : Int) < 7))) rfl (by kernel_rfl) (by kernel_rfl) (by kernel_rfl) (fun _ _ _ h => h) (fun oi h => by cases h; exact Or.inl ⟨by rfl, fun w' hS' => by go_simp⟩) hHeld ?_
                  try simp only [Act.put, List.setIfInBounds_toArray, List.set_cons_zero, List.set_cons_succ]
                  refine one_d 15 (some 11) rfl (by kernel_rfl) ?_
                  intro o ho1 hd K hK
                  cases ho1
                  go_simp
                  refine hK.out _ _ ⟨hHeld.1.alloc _, hHeld.2.1.alloc _, hHeld.2.2.alloc hHeld.2.2.size _⟩ (fun hHeld => ?_)
                  clear hK K hd
                  try simp only [Act.put, List.setIfInBounds_toArray, List.set_cons_zero, List.set_cons_succ]
                  have lp11 : Bz ≤ v25.heap.size := lw
                  have lp10p11 : p10 < v25.heap.size := x2.lt
                  have x3 : Row (v25.alloc (.cells #[.int .u64 0, .int .u64 0, .int .u64 0, .int .u64 0, .string ⟨#[]⟩] 24 (0, 0))) v25.heap.size 24 [.int .u64 0, .int .u64 0, .int .u64 0, .int .u64 0, .string ⟨#[]⟩] := Row.new' rfl rfl
                  replace x2 := x2.alloc (.cells #[.int .u64 0, .int .u64 0, .int .u64 0, .int .u64 0, .string ⟨#[]⟩] 24 (0, 0))
                  replace H2 := H2.alloc (.cells #[.int .u64 0, .int .u64 0, .int .u64 0, .int .u64 0, .string ⟨#[]⟩] 24 (0, 0))
                  replace lw : Bz ≤ (v25.alloc (.cells #[.int .u64 0, .int .u64 0, .int .u64 0, .int .u64 0, .string ⟨#[]⟩] 24 (0, 0))).heap.size := Nat.le_trans lw (by simp)
                  generalize v25.heap.size = p11 at *
                  generalize v25.alloc (.cells #[.int .u64 0, .int .u64 0, .int .u64 0, .int .u64 0, .string ⟨#[]⟩] 24 (0, 0)) = v26 at *
                  exact leaf.out p10 p11 g2 cap2 o2 m2 a2 d2 _ (by omega) H2 x2 x3 hHeld
                · intro K hK
                  go_simp
                  refine hK.out _ _ ⟨hHeld.1.alloc _, hHeld.2.1.alloc _, hHeld.2.2.alloc hHeld.2.2.size _⟩ (fun hHeld => ?_)
                  clear hK K
                  try simp only [Act.put, List.setIfInBounds_toArray, List.set_cons_zero, List.set_cons_succ]
                  have lp11 : Bz ≤ v24.heap.size := lw
                  have lp10p11 : p10 < v24.heap.size := x2.lt
                  have x3 : Row (v24.alloc (.cells #[.int .u64 0, .int .u64 0, .int .u64 0, .int .u64 0, .string ⟨#[]⟩] 24 (0, 0))) v24.heap.size 24 [.int .u64 0, .int .u64 0, .int .u64 0, .int .u64 0, .string ⟨#[]⟩] := Row.new' rfl rfl
                  replace x2 := x2.alloc (.cells #[.int .u64 0, .int .u64 0, .int .u64 0, .int .u64 0, .string ⟨#[]⟩] 24 (0, 0))
                  replace lw : Bz ≤ (v24.alloc (.cells #[.int .u64 0, .int .u64 0, .int .u64 0, .int .u64 0, .string ⟨#[]⟩] 24 (0, 0))).heap.size := Nat.le_trans lw (by simp)
                  generalize v24.heap.size = p11 at *
                  generalize v24.alloc (.cells #[.int .u64 0, .int .u64 0, .int .u64 0, .int .u64 0, .string ⟨#[]⟩] 24 (0, 0)) = v25 at *
                  refine one_d 9 (some 44) rfl (by kernel_rfl) ?_
                  intro o ho1 hd K hK
                  cases ho1
                  go_simp
                  refine (C3.out _ hHeld.2.1).mono ?_
                  rintro e v26 ⟨g2, cap2, o2, m2, a2, d2, rfl, H2, bb0⟩
                  replace x2 := x2.below bb0 x2.lt
                  replace x3 := x3.below bb0 x3.lt
                  replace lw := Nat.le_trans lw bb0.size
                  refine hK.out _ _ (⟨hHeld.1.below bb0 hHeld.1.lt, hHeld.2.1.keep bb0, hHeld.2.2.trans (bb0.mono hHeld.2.2.size)⟩) (fun hHeld => ?_)
                  clear bb0
                  clear hK K hd
                  try simp only [Act.put, List.setIfInBounds_toArray, List.set_cons_zero, List.set_cons_succ]
                  refine take_d 10 (some 34) (.tuple #[.agg (s2.c g2 cap2).toArray, .agg #[.int .u64 (o2 : Int), .int .u64 (m2 : Int), .int .u64 (a2 : Int), .int .u64 (o2 : Int), .string d2], .bool (decide ((i : Int) < 7))]) rfl (by kernel_rfl) (by kernel_rfl) (by kernel_rfl) (fun _ _ _ h => h) (fun oi h => by cases h; exact Or.inl ⟨by rfl, fun w' hS' => by go_simp⟩) hHeld ?_
                  try simp only [Act.put, List.setIfInBounds_toArray, List.set_cons_zero, List.set_cons_succ]
                  refine take_d 11 (some 45) (.agg (s2.c g2 cap2).toArray) rfl (by kernel_rfl) (by kernel_rfl) (by kernel_rfl) (fun _ _ _ h => h) (fun oi h => by cases h; exact Or.inl ⟨by rfl, fun w' hS' => by go_simp⟩) hHeld ?_
                  try simp only [Act.put, List.setIfInBounds_toArray, List.set_cons_zero, List.set_cons_succ]
                  refine take_d 12 (some 46) (.agg #[.int .u64 (o2 : Int), .int .u64 (m2 : Int), .int .u64 (a2 : Int), .int .u64 (o2 : Int), .string d2]) rfl (by kernel_rfl) (by kernel_rfl) (by kernel_rfl) (fun _ _ _ h => h) (fun oi h => by cases h; exact Or.inl ⟨by rfl, fun w' hS' => by go_simp⟩) hHeld ?_
                  try simp only [Act.put, List.setIfInBounds_toArray, List.set_cons_zero, List.set_cons_succ]
                  refine take_d 13 (some 47) (.bool (decide ((i : Int) < 7))) rfl (by kernel_rfl) (by kernel_rfl) (by kernel_rfl) (fun _ _ _ h => h) (fun oi h => by cases h; exact Or.inl ⟨by rfl, fun w' hS' => by go_simp⟩) hHeld ?_
                  try simp only [Act.put, List.setIfInBounds_toArray, List.set_cons_zero, List.set_cons_succ]
                  exact leaf.out p10 p11 g2 cap2 o2 m2 a2 d2 _ (by omega) H2 x2 x3 hHeld
              · intro K hK
                go_simp
                refine hK.out _ _ ⟨hHeld.1.alloc _, hHeld.2.1.alloc _, hHeld.2.2.alloc hHeld.2.2.size _⟩ (fun hHeld => ?_)
                clear hK K
                try simp only [Act.put, List.setIfInBounds_toArray, List.set_cons_zero, List.set_cons_succ]
                have lp11 : Bz ≤ v23.heap.size := lw
                have x3 : Row (v23.alloc (.cells #[.int .u64 0, .int .u64 0, .int .u64 0, .int .u64 0, .string ⟨#[]⟩] 24 (0, 0))) v23.heap.size 24 [.int .u64 0, .int .u64 0, .int .u64 0, .int .u64 0, .string ⟨#[]⟩] := Row.new' rfl rfl
                replace lw : Bz ≤ (v23.alloc (.cells #[.int .u64 0, .int .u64 0, .int .u64 0, .int .u64 0, .string ⟨#[]⟩] 24 (0, 0))).heap.size := Nat.le_trans lw (by simp)
                generalize v23.heap.size = p11 at *
                generalize v23.alloc (.cells #[.int .u64 0, .int .u64 0, .int .u64 0, .int .u64 0, .string ⟨#[]⟩] 24 (0, 0)) = v24 at *
                refine two_d 9 14 rfl rfl (by kernel_rfl) ?_ ?_
                · intro K hK
                  go_simp
                  refine (C3.out _ hHeld.2.1).mono ?_
                  rintro e v25 ⟨g2, cap2, o2, m2, a2, d2, rfl, H2, bb0⟩
                  replace x3 := x3.below bb0 x3.lt
                  replace lw := Nat.le_trans lw bb0.size
                  refine hK.out _ _ (⟨hHeld.1.below bb0 hHeld.1.lt, hHeld.2.1.keep bb0, hHeld.2.2.trans (bb0.mono hHeld.2.2.size)⟩) (fun hHeld => ?_)
                  clear bb0
                  clear hK K
                  try simp only [Act.put, List.setIfInBounds_toArray, List.set_cons_zero, List.set_cons_succ]
                  refine take_d 10 (some 34) (.tuple #[.agg (s2.c g2 cap2).toArray, .agg #[.int .u64 (o2 : Int), .int .u64 (m2 : Int), .int .u64 (a2 : Int), .int .u64 (o2 : Int), .string d2], .bool (decide ((i : Int) < 7))]) rfl (by kernel_rfl) (by kernel_rfl) (by kernel_rfl) (fun _ _ _ h => h) (fun oi h => by cases h; exact Or.inl ⟨by rfl, fun w' hS' => by go_simp⟩) hHeld ?_
                  try simp only [Act.put, List.setIfInBounds_toArray, List.set_cons_zero, List.set_cons_succ]
                  refine take_d 11 (some 45) (.agg (s2.c g2 cap2).toArray) rfl (by kernel_rfl) (by kernel_rfl) (by kernel_rfl) (fun _ _ _ h => h) (fun oi h => by cases h; exact Or.inl ⟨by rfl, fun w' hS' => by go_simp⟩) hHeld ?_
                  try simp only [Act.put, List.setIfInBounds_toArray, List.set_cons_zero, List.set_cons_succ]
                  refine take_d 12 (some 46) (.agg #[.int .u64 (o2 : Int), .int .u64 (m2 : Int), .int .u64 (a2 : Int), .int .u64 (o2 : Int), .string d2]) rfl (by kernel_rfl) (by kernel_rfl) (by kernel_rfl) (fun _ _ _ h => h) (fun oi h => by cases h; exact Or.inl ⟨by rfl, fun w' hS' => by go_simp⟩) hHeld ?_
                  try simp only [Act.put, List.setIfInBounds_toArray, List.set_cons_zero, List.set_cons_succ]
                  refine take_d 13 (some 47) (.bool (decide ((i : Int) < 7))) rfl (by kernel_rfl) (by kernel_rfl) (by kernel_rfl) (fun _ _ _ h => h) (fun oi h => by cases h; exact Or.inl ⟨by rfl, fun w' hS' => by go_simp⟩) hHeld ?_
                  try simp only [Act.put, List.setIfInBounds_toArray, List.set_cons_zero, List.set_cons_succ]
                  refine one_d 14 (some 10) rfl (by kernel_rfl) ?_
                  intro o ho1 hd K hK
                  cases ho1
                  go_simp
                  refine hK.out _ _ ⟨hHeld.1.alloc _, hHeld.2.1.alloc _, hHeld.2.2.alloc hHeld.2.2.size _⟩ (fun hHeld => ?_)
                  clear hK K hd
                  try simp only [Act.put, List.setIfInBounds_toArray, List.set_cons_zero, List.set_cons_succ]
                  have lp10 : Bz ≤ v25.heap.size := lw
                  have lp11p10 : p11 < v25.heap.size := x3.lt
                  have x2 : Row (v25.alloc (.cells #[.nilFunc, .nilFunc, .string ⟨#[]⟩, .slice none 0 0, .int .u64 0] 42 (0, 0))) v25.heap.size 42 [.nilFunc, .nilFunc, .string ⟨#[]⟩, .slice none 0 0, .int .u64 0] := Row.new' rfl rfl
                  replace x3 := x3.alloc (.cells #[.nilFunc, .nilFunc, .string ⟨#[]⟩, .slice none 0 0, .int .u64 0] 42 (0, 0))
                  replace H2 := H2.alloc (.cells #[.nilFunc, .nilFunc, .string ⟨#[]⟩, .slice none 0 0, .int .u64 0] 42 (0, 0))
                  replace lw : Bz ≤ (v25.alloc (.cells #[.nilFunc, .nilFunc, .string ⟨#[]⟩, .slice none 0 0, .int .u64 0] 42 (0, 0))).heap.size := Nat.le_trans lw (by simp)
                  generalize v25.heap.size = p10 at *
                  generalize v25.alloc (.cells #[.nilFunc, .nilFunc, .string ⟨#[]⟩, .slice none 0 0, .int .u64 0] 42 (0, 0)) = v26 at *
                  exact leaf.out p10 p11 g2 cap2 o2 m2 a2 d2 _ (by omega) H2 x2 x3 hHeld
                · intro K hK
                  go_simp
                  refine hK.out _ _ ⟨hHeld.1.alloc _, hHeld.2.1.alloc _, hHeld.2.2.alloc hHeld.2.2.size _⟩ (fun hHeld => ?_)
                  clear hK K
                  try simp only [Act.put, List.setIfInBounds_toArray, List.set_cons_zero, List.set_cons_succ]
                  have lp10 : Bz ≤ v24.heap.size := lw
                  have lp11p10 : p11 < v24.heap.size := x3.lt
                  have x2 : Row (v24.alloc (.cells #[.nilFunc, .nilFunc, .string ⟨#[]⟩, .slice none 0 0, .int .u64 0] 42 (0, 0))) v24.heap.size 42 [.nilFunc, .nilFunc, .string ⟨#[]⟩, .slice none 0 0, .int .u64 0] := Row.new' rfl rfl
                  replace x3 := x3.alloc (.cells #[.nilFunc, .nilFunc, .string ⟨#[]⟩, .slice none 0 0, .int .u64 0] 42 (0, 0))
                  replace lw : Bz ≤ (v24.alloc (.cells #[.nilFunc, .nilFunc, .string ⟨#[]⟩, .slice none 0 0, .int .u64 0] 42 (0, 0))).heap.size := Nat.le_trans lw (by simp)
                  generalize v24.heap.size = p10 at *
                  generalize v24.alloc (.cells #[.nilFunc, .nilFunc, .string ⟨#[]⟩, .slice none 0 0, .int .u64 0] 42 (0, 0)) = v25 at *
                  refine one_d 9 (some 44) rfl (by kernel_rfl) ?_
                  intro o ho1 hd K hK
                  cases ho1
                  go_simp
                  refine (C3.out _ hHeld.2.1).mono ?_
                  rintro e v26 ⟨g2, cap2, o2, m2, a2, d2, rfl, H2, bb0⟩
                  replace x3 := x3.below bb0 x3.lt
                  replace x2 := x2.below bb0 x2.lt
                  replace lw := Nat.le_trans lw bb0.size
                  refine hK.out _ _ (⟨hHeld.1.below bb0 hHeld.1.lt, hHeld.2.1.keep bb0, hHeld.2.2.trans (bb0.mono hHeld.2.2.size)⟩) (fun hHeld => ?_)
                  clear bb0
                  clear hK K hd
                  try simp only [Act.put, List.setIfInBounds_toArray, List.set_cons_zero, List.set_cons_succ]
                  refine take_d 10 (some 34) (.tuple #[.agg (s2.c g2 cap2).toArray, .agg #[.int .u64 (o2 : Int), .int .u64 (m2 : Int), .int .u64 (a2 : Int), .int .u64 (o2 : Int), .string d2], .bool (decide ((i : Int) < 7))]) rfl (by kernel_rfl) (by kernel_rfl) (by kernel_rfl) (fun _ _ _ h => h) (fun oi h => by cases h; exact Or.inl ⟨by rfl, fun w' hS' => by go_simp⟩) hHeld ?_
                  try simp only [Act.put, List.setIfInBounds_toArray, List.set_cons_zero, List.set_cons_succ]
                  refine take_d 11 (some 45) (.agg (s2.c g2 cap2).toArray) rfl (by kernel_rfl) (by kernel_rfl) (by kernel_rfl) (fun _ _ _ h => h) (fun oi h => by cases h; exact Or.inl ⟨by rfl, fun w' hS' => by go_simp⟩) hHeld ?_
                  try simp only [Act.put, List.setIfInBounds_toArray, List.set_cons_zero, List.set_cons_succ]
                  refine take_d 12 (some 46) (.agg #[.int .u64 (o2 : Int), .int .u64 (m2 : Int), .int .u64 (a2 : Int), .int .u64 (o2 : Int), .string d2]) rfl (by kernel_rfl) (by kernel_rfl) (by kernel_rfl) (fun _ _ _ h => h) (fun oi h => by cases h; exact Or.inl ⟨by rfl, fun w' hS' => by go_simp⟩) hHeld ?_
                  try simp only [Act.put, List.setIfInBounds_toArray, List.set_cons_zero, List.set_cons_succ]
                  refine take_d 13 (some 47) (.bool (decide ((i : Int) < 7))) rfl (by kernel_rfl) (by kernel_rfl) (by kernel_rfl) (fun _ _ _ h => h) (fun oi h => by cases h; exact Or.inl ⟨by rfl, fun w' hS' => by go_simp⟩) hHeld ?_
                  try simp only [Act.put, List.setIfInBounds_toArray, List.set_cons_zero, List.set_cons_succ]
                  exact leaf.out p10 p11 g2 cap2 o2 m2 a2 d2 _ (by omega) H2 x2 x3 hHeld
            · intro K hK
              go_simp
              refine hK.out _ _ ⟨hHeld.1.alloc _, hHeld.2.1.alloc _, hHeld.2.2.alloc hHeld.2.2.size _⟩ (fun hHeld => ?_)
              clear hK K
              try simp only [Act.put, List.setIfInBounds_toArray, List.set_cons_zero, List.set_cons_succ]
              have lp10 : Bz ≤ v22.heap.size := lw
              have x2 : Row (v22.alloc (.cells #[.nilFunc, .nilFunc, .string ⟨#[]⟩, .slice none 0 0, .int .u64 0] 42 (0, 0))) v22.heap.size 42 [.nilFunc, .nilFunc, .string ⟨#[]⟩, .slice none 0 0, .int .u64 0] := Row.new' rfl rfl
              replace lw : Bz ≤ (v22.alloc (.cells #[.nilFunc, .nilFunc, .string ⟨#[]⟩, .slice none 0 0, .int .u64 0] 42 (0, 0))).heap.size := Nat.le_trans lw (by simp)
              generalize v22.heap.size = p10 at *
              generalize v22.alloc (.cells #[.nilFunc, .nilFunc, .string ⟨#[]⟩, .slice none 0 0, .int .u64 0] 42 (0, 0)) = v23 at *
              refine two_d 4 15 rfl rfl (by kernel_rfl) ?_ ?_
              · intro K hK
                go_simp
                refine (C2.out _ hHeld.2.1).mono ?_
                rintro e v24 ⟨rfl, bb0⟩
                replace x2 := x2.below bb0 x2.lt
                replace lw := Nat.le_trans lw bb0.size
                refine hK.out _ _ (⟨hHeld.1.below bb0 hHeld.1.lt, hHeld.2.1.keep bb0, hHeld.2.2.trans (bb0.mono hHeld.2.2.size)⟩) (fun hHeld => ?_)
                clear bb0
                clear hK K
                try simp only [Act.put, List.setIfInBounds_toArray, List.set_cons_zero, List.set_cons_succ]
                refine two_d 9 15 rfl rfl (by kernel_rfl) ?_ ?_
                · intro K hK
                  go_simp
                  refine (C3.out _ hHeld.2.1).mono ?_
                  rintro e v25 ⟨g2, cap2, o2, m2, a2, d2, rfl, H2, bb0⟩
                  replace x2 := x2.below bb0 x2.lt
                  replace lw := Nat.le_trans lw bb0.size
                  refine hK.out _ _ (⟨hHeld.1.below bb0 hHeld.1.lt, hHeld.2.1.keep bb0, hHeld.2.2.trans (bb0.mono hHeld.2.2.size)⟩) (fun hHeld => ?_)
                  clear bb0
                  clear hK K
                  try simp only [Act.put, List.setIfInBounds_toArray, List.set_cons_zero, List.set_cons_succ]
                  refine take_d 10 (some 34) (.tuple #[.agg (s2.c g2 cap2).toArray, .agg #[.int .u64 (o2 : Int), .int .u64 (m2 : Int), .int .u64 (a2 : Int), .int .u64 (o2 : Int), .string d2], .bool (decide ((i : Int) < 7))]) rfl (by kernel_rfl) (by kernel_rfl) (by kernel_rfl) (fun _ _ _ h => h) (fun oi h => by cases h; exact Or.inl ⟨by rfl, fun w' hS' => by go_simp⟩) hHeld ?_
                  try simp only [Act.put, List.setIfInBounds_toArray, List.set_cons_zero, List.set_cons_succ]
                  refine take_d 11 (some 45) (.agg (s2.c g2 cap2).toArray) rfl (by kernel_rfl) (by kernel_rfl) (by kernel_rfl) (fun _ _ _ h => h) (fun oi h => by cases h; exact Or.inl ⟨by rfl, fun w' hS' => by go_simp⟩) hHeld ?_
                  try simp only [Act.put, List.setIfInBounds_toArray, List.set_cons_zero, List.set_cons_succ]
                  refine take_d 12 (some 46) (.agg #[.int .u64 (o2 : Int), .int .u64 (m2 : Int), .int .u64 (a2 : Int), .int .u64 (o2 : Int), .string d2]) rfl (by kernel_rfl) (by kernel_rfl) (by kernel_rfl) (fun _ _ _ h => h) (fun oi h => by cases h; exact Or.inl ⟨by rfl, fun w' hS' => by go_simp⟩) hHeld ?_
                  try simp only [Act.put, List.setIfInBounds_toArray, List.set_cons_zero, List.set_cons_succ]
                  refine take_d 13 (some 47) (.bool (decide ((i : Int) < 7))) rfl (by kernel_rfl) (by kernel_rfl) (by kernel_rfl) (fun _ _ _ h => h) (fun oi h => by cases h; exact Or.inl ⟨by rfl, fun w' hS' => by go_simp⟩) hHeld ?_
                  try simp only [Act.put, List.setIfInBounds_toArray, List.set_cons_zero, List.set_cons_succ]
                  refine one_d 15 (some 11) rfl (by kernel_rfl) ?_
                  intro o ho1 hd K hK
                  cases ho1
                  go_simp
                  refine hK.out _ _ ⟨hHeld.1.alloc _, hHeld.2.1.alloc _, hHeld.2.2.alloc hHeld.2.2.size _⟩ (fun hHeld => ?_)
                  clear hK K hd
                  try simp only [Act.put, List.setIfInBounds_toArray, List.set_cons_zero, List.set_cons_succ]
                  have lp11 : Bz ≤ v25.heap.size := lw
                  have lp10p11 : p10 < v25.heap.size := x2.lt
                  have x3 : Row (v25.alloc (.cells #[.int .u64 0, .int .u64 0, .int .u64 0, .int .u64 0, .string ⟨#[]⟩] 24 (0, 0))) v25.heap.size 24 [.int .u64 0, .int .u64 0, .int .u64 0, .int .u64 0, .string ⟨#[]⟩] := Row.new' rfl rfl
                  replace x2 := x2.alloc (.cells #[.int .u64 0, .int .u64 0, .int .u64 0, .int .u64 0, .string ⟨#[]⟩] 24 (0, 0))
                  replace H2 := H2.alloc (.cells #[.int .u64 0, .int .u64 0, .int .u64 0, .int .u64 0, .string ⟨#[]⟩] 24 (0, 0))
                  replace lw : Bz ≤ (v25.alloc (.cells #[.int .u64 0, .int .u64 0, .int .u64 0, .int .u64 0, .string ⟨#[]⟩] 24 (0, 0))).heap.size := Nat.le_trans lw (by simp)
                  generalize v25.heap.size = p11 at *
                  generalize v25.alloc (.cells #[.int .u64 0, .int .u64 0, .int .u64 0, .int .u64 0, .string ⟨#[]⟩] 24 (0, 0)) = v26 at *
                  exact leaf.out p10 p11 g2 cap2 o2 m2 a2 d2 _ (by omega) H2 x2 x3 hHeld
                · intro K hK
                  go_simp
                  refine hK.out _ _ ⟨hHeld.1.alloc _, hHeld.2.1.alloc _, hHeld.2.2.alloc hHeld.2.2.size _⟩ (fun hHeld => ?_)
                  clear hK K
                  try simp only [Act.put, List.setIfInBounds_toArray, List.set_cons_zero, List.set_cons_succ]
                  have lp11 : Bz ≤ v24.heap.size := lw
                  have lp10p11 : p10 < v24.heap.size := x2.lt
                  have x3 : Row (v24.alloc (.cells #[.int .u64 0, .int .u64 0, .int .u64 0, .int .u64 0, .string ⟨#[]⟩] 24 (0, 0))) v24.heap.size 24 [.int .u64 0, .int .u64 0, .int .u64 0, .int .u64 0, .string ⟨#[]⟩] := Row.new' rfl rfl
                  replace x2 := x2.alloc (.cells #[.int .u64 0, .int .u64 0, .int .u64 0, .int .u64 0, .string ⟨#[]⟩] 24 (0, 0))
                  replace lw : Bz ≤ (v24.alloc (.cells #[.int .u64 0, .int .u64 0, .int .u64 0, .int .u64 0, .string ⟨#[]⟩] 24 (0, 0))).heap.size := Nat.le_trans lw (by simp)
                  generalize v24.heap.size = p11 at *
                  generalize v24.alloc (.cells #[.int .u64 0, .int .u64 0, .int .u64 0, .int .u64 0, .string ⟨#[]⟩] 24 (0, 0)) = v25 at *
                  refine one_d 9 (some 44) rfl (by kernel_rfl) ?_
                  intro o ho1 hd K hK
                  cases ho1
                  go_simp
                  refine (C3.out _ hHeld.2.1).mono ?_
                  rintro e v26 ⟨g2, cap2, o2, m2, a2, d2, rfl, H2, bb0⟩
                  replace x2 := x2.below bb0 x2.lt
                  replace x3 := x3.below bb0 x3.lt
                  replace lw := Nat.le_trans lw bb0.size
                  refine hK.out _ _ (⟨hHeld.1.below bb0 hHeld.1.lt, hHeld.2.1.keep bb0, hHeld.2.2.trans (bb0.mono hHeld.2.2.size)⟩) (fun hHeld => ?_)
                  clear bb0
                  clear hK K hd
                  try simp only [Act.put, List.setIfInBounds_toArray, List.set_cons_zero, List.set_cons_succ]
                  refine take_d 10 (some 34) (.tuple #[.agg (s2.c g2 cap2).toArray, .agg #[.int .u64 (o2 : Int), .int .u64 (m2 : Int), .int .u64 (a2 : Int), .int .u64 (o2 : Int), .string d2], .bool (decide ((i : Int) < 7))]) rfl (by kernel_rfl) (by kernel_rfl) (by kernel_rfl) (fun _ _ _ h => h) (fun oi h => by cases h; exact Or.inl ⟨by rfl, fun w' hS' => by go_simp⟩) hHeld ?_
                  try simp only [Act.put, List.setIfInBounds_toArray, List.set_cons_zero, List.set_cons_succ]
                  refine take_d 11 (some 45) (.agg (s2.c g2 cap2).toArray) rfl (by kernel_rfl) (by kernel_rfl) (by kernel_rfl) (fun _ _ _ h => h) (fun oi h => by cases h; exact Or.inl ⟨by rfl, fun w' hS' => by go_simp⟩) hHeld ?_
                  try simp only [Act.put, List.setIfInBounds_toArray, List.set_cons_zero, List.set_cons_succ]
                  refine take_d 12 (some 46) (.agg #[.int .u64 (o2 : Int), .int .u64 (m2 : Int), .int .u64 (a2 : Int), .int .u64 (o2 : Int), .string d2]) rfl (by kernel_rfl) (by kernel_rfl) (by kernel_rfl) (fun _ _ _ h => h) (fun oi h => by cases h; exact Or.inl ⟨by rfl, fun w' hS' => by go_simp⟩) hHeld ?_
                  try simp only [Act.put, List.setIfInBounds_toArray, List.set_cons_zero, List.set_cons_succ]
                  refine take_d 13 (some 47) (.bool (decide ((i : Int) < 7))) rfl (by kernel_rfl) (by kernel_rfl) (by kernel_rfl) (fun _ _ _ h => h) (fun oi h => by cases h; exact Or.inl ⟨by rfl, fun w' hS' => by go_simp⟩) hHeld ?_
                  try simp only [Act.put, List.setIfInBounds_toArray, List.set_cons_zero, List.set_cons_succ]
                  exact leaf.out p10 p11 g2 cap2 o2 m2 a2 d2 _ (by omega) H2 x2 x3 hHeld
              · intro K hK
                go_simp
                refine hK.out _ _ ⟨hHeld.1.alloc _, hHeld.2.1.alloc _, hHeld.2.2.alloc hHeld.2.2.size _⟩ (fun hHeld => ?_)
                clear hK K
                try simp only [Act.put, List.setIfInBounds_toArray, List.set_cons_zero, List.set_cons_succ]
                have lp11 : Bz ≤ v23.heap.size := lw
                have lp10p11 : p10 < v23.heap.size := x2.lt
                have x3 : Row (v23.alloc (.cells #[.int .u64 0, .int .u64 0, .int .u64 0, .int .u64 0, .string ⟨#[]⟩] 24 (0, 0))) v23.heap.size 24 [.int .u64 0, .int .u64 0, .int .u64 0, .int .u64 0, .string ⟨#[]⟩] := Row.new' rfl rfl
                replace x2 := x2.alloc (.cells #[.int .u64 0, .int .u64 0, .int .u64 0, .int .u64 0, .string ⟨#[]⟩] 24 (0, 0))
                replace lw : Bz ≤ (v23.alloc (.cells #[.int .u64 0, .int .u64 0, .int .u64 0, .int .u64 0, .string ⟨#[]⟩] 24 (0, 0))).heap.size := Nat.le_trans lw (by simp)
                generalize v23.heap.size = p11 at *
                generalize v23.alloc (.cells #[.int .u64 0, .int .u64 0, .int .u64 0, .int .u64 0, .string ⟨#[]⟩] 24 (0, 0)) = v24 at *
                refine one_d 4 (some 39) rfl (by kernel_rfl) ?_
                intro o ho1 hd K hK
                cases ho1
                go_simp
                refine (C2.out _ hHeld.2.1).mono ?_
                rintro e v25 ⟨rfl, bb0⟩
                replace x2 := x2.below bb0 x2.lt
                replace x3 := x3.below bb0 x3.lt
                replace lw := Nat.le_trans lw bb0.size
                refine hK.out _ _ (⟨hHeld.1.below bb0 hHeld.1.lt, hHeld.2.1.keep bb0, hHeld.2.2.trans (bb0.mono hHeld.2.2.size)⟩) (fun hHeld => ?_)
                clear bb0
                clear hK K hd
                try simp only [Act.put, List.setIfInBounds_toArray, List.set_cons_zero, List.set_cons_succ]
                refine one_d 9 (some 44) rfl (by kernel_rfl) ?_
                intro o ho1 hd K hK
                cases ho1
                go_simp
                refine (C3.out _ hHeld.2.1).mono ?_
                rintro e v26 ⟨g2, cap2, o2, m2, a2, d2, rfl, H2, bb0⟩
                replace x2 := x2.below bb0 x2.lt
                replace x3 := x3.below bb0 x3.lt
                replace lw := Nat.le_trans lw bb0.size
                refine hK.out _ _ (⟨hHeld.1.below bb0 hHeld.1.lt, hHeld.2.1.keep bb0, hHeld.2.2.trans (bb0.mono hHeld.2.2.size)⟩) (fun hHeld => ?_)
                clear bb0
                clear hK K hd
                try simp only [Act.put, List.setIfInBounds_toArray, List.set_cons_zero, List.set_cons_succ]
                refine take_d 10 (some 34) (.tuple #[.agg (s2.c g2 cap2).toArray, .agg #[.int .u64 (o2 : Int), .int .u64 (m2 : Int), .int .u64 (a2 : Int), .int .u64 (o2 : Int), .string d2], .bool (decide ((i : Int) < 7))]) rfl (by kernel_rfl) (by kernel_rfl) (by kernel_rfl) (fun _ _ _ h => h) (fun oi h => by cases h; exact Or.inl ⟨by rfl, fun w' hS' => by go_simp⟩) hHeld ?_
                try simp only [Act.put, List.setIfInBounds_toArray, List.set_cons_zero, List.set_cons_succ]
                refine take_d 11 (some 45) (.agg (s2.c g2 cap2).toArray) rfl (by kernel_rfl) (by kernel_rfl) (by kernel_rfl) (fun _ _ _ h => h) (fun oi h => by cases h; exact Or.inl ⟨by rfl, fun w' hS' => by go_simp⟩) hHeld ?_
                try simp only [Act.put, List.setIfInBounds_toArray, List.set_cons_zero, List.set_cons_succ]
                refine take_d 12 (some 46) (.agg #[.int .u64 (o2 : Int), .int .u64 (m2 : Int), .int .u64 (a2 : Int), .int .u64 (o2 : Int), .string d2]) rfl (by kernel_rfl) (by kernel_rfl) (by kernel_rfl) (fun _ _ _ h => h) (fun oi h => by cases h; exact Or.inl ⟨by rfl, fun w' hS' => by go_simp⟩) hHeld ?_
                try simp only [Act.put, List.setIfInBounds_toArray, List.set_cons_zero, List.set_cons_succ]
                refine take_d 13 (some 47) (.bool (decide ((i : Int) < 7))) rfl (by kernel_rfl) (by kernel_rfl) (by kernel_rfl) (fun _ _ _ h => h) (fun oi h => by cases h; exact Or.inl ⟨by rfl, fun w' hS' => by go_simp⟩) hHeld ?_
                try simp only [Act.put, List.setIfInBounds_toArray, List.set_cons_zero, List.set_cons_succ]
                exact leaf.out p10 p11 g2 cap2 o2 m2 a2 d2 _ (by omega) H2 x2 x3 hHeld
            · intro K hK
              go_simp
              refine hK.out _ _ ⟨hHeld.1.alloc _, hHeld.2.1.alloc _, hHeld.2.2.alloc hHeld.2.2.size _⟩ (fun hHeld => ?_)
              clear hK K
              try simp only [Act.put, List.setIfInBounds_toArray, List.set_cons_zero, List.set_cons_succ]
              have lp11 : Bz ≤ v22.heap.size := lw
              have x3 : Row (v22.alloc (.cells #[.int .u64 0, .int .u64 0, .int .u64 0, .int .u64 0, .string ⟨#[]⟩] 24 (0, 0))) v22.heap.size 24 [.int .u64 0, .int .u64 0, .int .u64 0, .int .u64 0, .string ⟨#[]⟩] := Row.new' rfl rfl
              replace lw : Bz ≤ (v22.alloc (.cells #[.int .u64 0, .int .u64 0, .int .u64 0, .int .u64 0, .string ⟨#[]⟩] 24 (0, 0))).heap.size := Nat.le_trans lw (by simp)
              generalize v22.heap.size = p11 at *
              generalize v22.alloc (.cells #[.int .u64 0, .int .u64 0, .int .u64 0, .int .u64 0, .string ⟨#[]⟩] 24 (0, 0)) = v23 at *
              refine two_d 4 14 rfl rfl (by kernel_rfl) ?_ ?_
              · intro K hK
                go_simp
                refine (C2.out _ hHeld.2.1).mono ?_
                rintro e v24 ⟨rfl, bb0⟩
                replace x3 := x3.below bb0 x3.lt
                replace lw := Nat.le_trans lw bb0.size
                refine hK.out _ _ (⟨hHeld.1.below bb0 hHeld.1.lt, hHeld.2.1.keep bb0, hHeld.2.2.trans (bb0.mono hHeld.2.2.size)⟩) (fun hHeld => ?_)
                clear bb0
                clear hK K
                try simp only [Act.put, List.setIfInBounds_toArray, List.set_cons_zero, List.set_cons_succ]
                refine two_d 9 14 rfl rfl (by kernel_rfl) ?_ ?_
                · intro K hK
                  go_simp
                  refine (C3.out _ hHeld.2.1).mono ?_
                  rintro e v25 ⟨g2, cap2, o2, m2, a2, d2, rfl, H2, bb0⟩
                  replace x3 := x3.below bb0 x3.lt
                  replace lw := Nat.le_trans lw bb0.size
                  refine hK.out _ _ (⟨hHeld.1.below bb0 hHeld.1.lt, hHeld.2.1.keep bb0, hHeld.2.2.trans (bb0.mono hHeld.2.2.size)⟩) (fun hHeld => ?_)
                  clear bb0
                  clear hK K
                  try simp only [Act.put, List.setIfInBounds_toArray, List.set_cons_zero, List.set_cons_succ]
                  refine take_d 10 (some 34) (.tuple #[.agg (s2.c g2 cap2).toArray, .agg #[.int .u64 (o2 : Int), .int .u64 (m2 : Int), .int .u64 (a2 : Int), .int .u64 (o2 : Int), .string d2], .bool (decide ((i : Int) < 7))]) rfl (by kernel_rfl) (by kernel_rfl) (by kernel_rfl) (fun _ _ _ h => h) (fun oi h => by cases h; exact Or.inl ⟨by rfl, fun w' hS' => by go_simp⟩) hHeld ?_
                  try simp only [Act.put, List.setIfInBounds_toArray, List.set_cons_zero, List.set_cons_succ]
                  refine take_d 11 (some 45) (.agg (s2.c g2 cap2).toArray) rfl (by kernel_rfl) (by kernel_rfl) (by kernel_rfl) (fun _ _ _ h => h) (fun oi h => by cases h; exact Or.inl ⟨by rfl, fun w' hS' => by go_simp⟩) hHeld ?_
                  try simp only [Act.put, List.setIfInBounds_toArray, List.set_cons_zero, List.set_cons_succ]
                  refine take_d 12 (some 46) (.agg #[.int .u64 (o2 : Int), .int .u64 (m2 : Int), .int .u64 (a2 : Int), .int .u64 (o2 : Int), .string d2]) rfl (by kernel_rfl) (by kernel_rfl) (by kernel_rfl) (fun _ _ _ h => h) (fun oi h => by cases h; exact Or.inl ⟨by rfl, fun w' hS' => by go_simp⟩) hHeld ?_
                  try simp only [Act.put, List.setIfInBounds_toArray, List.set_cons_zero, List.set_cons_succ]
                  refine take_d 13 (some 47) (.bool (decide ((i : Int) < 7))) rfl (by kernel_rfl) (by kernel_rfl) (by kernel_rfl) (fun _ _ _ h => h) (fun oi h => by cases h; exact Or.inl ⟨by rfl, fun w' hS' => by go_simp⟩) hHeld ?_
                  try simp only [Act.put, List.setIfInBounds_toArray, List.set_cons_zero, List.set_cons_succ]
                  refine one_d 14 (some 10) rfl (by kernel_rfl) ?_
                  intro o ho1 hd K hK
                  cases ho1
                  go_simp
                  refine hK.out _ _ ⟨hHeld.1.alloc _, hHeld.2.1.alloc _, hHeld.2.2.alloc hHeld.2.2.size _⟩ (fun hHeld => ?_)
                  clear hK K hd
                  try simp only [Act.put, List.setIfInBounds_toArray, List.set_cons_zero, List.set_cons_succ]
                  have lp10 : Bz ≤ v25.heap.size := lw
                  have lp11p10 : p11 < v25.heap.size := x3.lt
                  have x2 : Row (v25.alloc (.cells #[.nilFunc, .nilFunc, .string ⟨#[]⟩, .slice none 0 0, .int .u64 0] 42 (0, 0))) v25.heap.size 42 [.nilFunc, .nilFunc, .string ⟨#[]⟩, .slice none 0 0, .int .u64 0] := Row.new' rfl rfl
                  replace x3 := x3.alloc (.cells #[.nilFunc, .nilFunc, .string ⟨#[]⟩, .slice none 0 0, .int .u64 0] 42 (0, 0))
                  replace H2 := H2.alloc (.cells #[.nilFunc, .nilFunc, .string ⟨#[]⟩, .slice none 0 0, .int .u64 0] 42 (0, 0))
                  replace lw : Bz ≤ (v25.alloc (.cells #[.nilFunc, .nilFunc, .string ⟨#[]⟩, .slice none 0 0, .int .u64 0] 42 (0, 0))).heap.size := Nat.le_trans lw (by simp)
                  generalize v25.heap.size = p10 at *
                  generalize v25.alloc (.cells #[.nilFunc, .nilFunc, .string ⟨#[]⟩, .slice none 0 0, .int .u64 0] 42 (0, 0)) = v26 at *
                  exact leaf.out p10 p11 g2 cap2 o2 m2 a2 d2 _ (by omega) H2 x2 x3 hHeld
                · intro K hK
                  go_simp
                  refine hK.out _ _ ⟨hHeld.1.alloc _, hHeld.2.1.alloc _, hHeld.2.2.alloc hHeld.2.2.size _⟩ (fun hHeld => ?_)
                  clear hK K
                  try simp only [Act.put, List.setIfInBounds_toArray, List.set_cons_zero, List.set_cons_succ]
                  have lp10 : Bz ≤ v24.heap.size := lw
                  have lp11p10 : p11 < v24.heap.size := x3.lt
                  have x2 : Row (v24.alloc (.cells #[.nilFunc, .nilFunc, .string ⟨#[]⟩, .slice none 0 0, .int .u64 0] 42 (0, 0))) v24.heap.size 42 [.nilFunc, .nilFunc, .string ⟨#[]⟩, .slice none 0 0, .int .u64 0] := Row.new' rfl rfl
                  replace x3 := x3.alloc (.cells #[.nilFunc, .nilFunc, .string ⟨#[]⟩, .slice none 0 0, .int .u64 0] 42 (0, 0))
                  replace lw : Bz ≤ (v24.alloc (.cells #[.nilFunc, .nilFunc, .string ⟨#[]⟩, .slice none 0 0, .int .u64 0] 42 (0, 0))).heap.size := Nat.le_trans lw (by simp)
                  generalize v24.heap.size = p10 at *
                  generalize v24.alloc (.cells #[.nilFunc, .nilFunc, .string ⟨#[]⟩, .slice none 0 0, .int .u64 0] 42 (0, 0)) = v25 at *
                  refine one_d 9 (some 44) rfl (by kernel_rfl) ?_
                  intro o ho1 hd K hK
                  cases ho1
                  go_simp
                  refine (C3.out _ hHeld.2.1).mono ?_
                  rintro e v26 ⟨g2, cap2, o2, m2, a2, d2, rfl, H2, bb0⟩
                  replace x3 := x3.below bb0 x3.lt
                  replace x2 := x2.below bb0 x2.lt
                  replace lw := Nat.le_trans lw bb0.size
                  refine hK.out _ _ (⟨hHeld.1.below bb0 hHeld.1.lt, hHeld.2.1.keep bb0, hHeld.2.2.trans (bb0.mono hHeld.2.2.size)⟩) (fun hHeld => ?_)
                  clear bb0
                  clear hK K hd
                  try simp only [Act.put, List.setIfInBounds_toArray, List.set_cons_zero, List.set_cons_succ]
                  refine take_d 10 (some 34) (.tuple #[.agg (s2.c g2 cap2).toArray, .agg #[.int .u64 (o2 : Int), .int .u64 (m2 : Int), .int .u64 (a2 : Int), .int .u64 (o2 : Int), .string d2], .bool (decide ((i : Int) < 7))]) rfl (by kernel_rfl) (by kernel_rfl) (by kernel_rfl) (fun _ _ _ h => h) (fun oi h => by cases h; exact Or.inl ⟨by rfl, fun w' hS' => by go_simp⟩) hHeld ?_
                  try simp only [Act.put, List.setIfInBounds_toArray, List.set_cons_zero, List.set_cons_succ]
                  refine take_d 11 (some 45) (.agg (s2.c g2 cap2).toArray) rfl (by kernel_rfl) (by kernel_rfl) (by kernel_rfl) (fun _ _ _ h => h) (fun oi h => by cases h; exact Or.inl ⟨by rfl, fun w' hS' => by go_simp⟩) hHeld ?_
                  try simp only [Act.put, List.setIfInBounds_toArray, List.set_cons_zero, List.set_cons_succ]
                  refine take_d 12 (some 46) (.agg #[.int .u64 (o2 : Int), .int .u64 (m2 : Int), .int .u64 (a2 : Int), .int .u64 (o2 : Int), .string d2]) rfl (by kernel_rfl) (by kernel_rfl) (by kernel_rfl) (fun _ _ _ h => h) (fun oi h => by cases h; exact Or.inl ⟨by rfl, fun w' hS' => by go_simp⟩) hHeld ?_
                  try simp only [Act.put, List.setIfInBounds_toArray, List.set_cons_zero, List.set_cons_succ]
                  refine take_d 13 (some 47) (.bool (decide ((i : Int) < 7))) rfl (by kernel_rfl) (by kernel_rfl) (by kernel_rfl) (fun _ _ _ h => h) (fun oi h => by cases h; exact Or.inl ⟨by rfl, fun w' hS' => by go_simp⟩) hHeld ?_
                  try simp only [Act.put, List.setIfInBounds_toArray, List.set_cons_zero, List.set_cons_succ]
                  exact leaf.out p10 p11 g2 cap2 o2 m2 a2 d2 _ (by omega) H2 x2 x3 hHeld
              · intro K hK
                go_simp
                refine hK.out _ _ ⟨hHeld.1.alloc _, hHeld.2.1.alloc _, hHeld.2.2.alloc hHeld.2.2.size _⟩ (fun hHeld => ?_)
                clear hK K
                try simp only [Act.put, List.setIfInBounds_toArray, List.set_cons_zero, List.set_cons_succ]
                have lp10 : Bz ≤ v23.heap.size := lw
                have lp11p10 : p11 < v23.heap.size := x3.lt
                have x2 : Row (v23.alloc (.cells #[.nilFunc, .nilFunc, .string ⟨#[]⟩, .slice none 0 0, .int .u64 0] 42 (0, 0))) v23.heap.size 42 [.nilFunc, .nilFunc, .string ⟨#[]⟩, .slice none 0 0, .int .u64 0] := Row.new' rfl rfl
                replace x3 := x3.alloc (.cells #[.nilFunc, .nilFunc, .string ⟨#[]⟩, .slice none 0 0, .int .u64 0] 42 (0, 0))
                replace lw : Bz ≤ (v23.alloc (.cells #[.nilFunc, .nilFunc, .string ⟨#[]⟩, .slice none 0 0, .int .u64 0] 42 (0, 0))).heap.size := Nat.le_trans lw (by simp)
                generalize v23.heap.size = p10 at *
                generalize v23.alloc (.cells #[.nilFunc, .nilFunc, .string ⟨#[]⟩, .slice none 0 0, .int .u64 0] 42 (0, 0)) = v24 at *
                refine one_d 4 (some 39) rfl (by kernel_rfl) ?_
                intro o ho1 hd K hK
                cases ho1
                go_simp
                refine (C2.out _ hHeld.2.1).mono ?_
                rintro e v25 ⟨rfl, bb0⟩
                replace x3 := x3.below bb0 x3.lt
                replace x2 := x2.below bb0 x2.lt
                replace lw := Nat.le_trans lw bb0.size
                refine hK.out _ _ (⟨hHeld.1.below bb0 hHeld.1.lt, hHeld.2.1.keep bb0, hHeld.2.2.trans (bb0.mono hHeld.2.2.size)⟩) (fun hHeld => ?_)
                clear bb0
                clear hK K hd
                try simp only [Act.put, List.setIfInBounds_toArray, List.set_cons_zero, List.set_cons_succ]
                refine one_d 9 (some 44) rfl (by kernel_rfl) ?_
                intro o ho1 hd K hK
                cases ho1
                go_simp
                refine (C3.out _ hHeld.2.1).mono ?_
                rintro e v26 ⟨g2, cap2, o2, m2, a2, d2, rfl, H2, bb0⟩
                replace x3 := x3.below bb0 x3.lt
                replace x2 := x2.below bb0 x2.lt
                replace lw := Nat.le_trans lw bb0.size
                refine hK.out _ _ (⟨hHeld.1.below bb0 hHeld.1.lt, hHeld.2.1.keep bb0, hHeld.2.2.trans (bb0.mono hHeld.2.2.size)⟩) (fun hHeld => ?_)
                clear bb0
                clear hK K hd
                try simp only [Act.put, List.setIfInBounds_toArray, List.set_cons_zero, List.set_cons_succ]
                refine take_d 10 (some 34) (.tuple #[.agg (s2.c g2 cap2).toArray, .agg #[.int .u64 (o2 : Int), .int .u64 (m2 : Int), .int .u64 (a2 : Int), .int .u64 (o2 : Int), .string d2], .bool (decide ((i : Int) < 7))]) rfl (by kernel_rfl) (by kernel_rfl) (by kernel_rfl) (fun _ _ _ h => h) (fun oi h => by cases h; exact Or.inl ⟨by rfl, fun w' hS' => by go_simp⟩) hHeld ?_
                try simp only [Act.put, List.setIfInBounds_toArray, List.set_cons_zero, List.set_cons_succ]
                refine take_d 11 (some 45) (.agg (s2.c g2 cap2).toArray) rfl (by kernel_rfl) (by kernel_rfl) (by kernel_rfl) (fun _ _ _ h => h) (fun oi h => by cases h; exact Or.inl ⟨by rfl, fun w' hS' => by go_simp⟩) hHeld ?_
                try simp only [Act.put, List.setIfInBounds_toArray, List.set_cons_zero, List.set_cons_succ]
                refine take_d 12 (some 46) (.agg #[.int .u64 (o2 : Int), .int .u64 (m2 : Int), .int .u64 (a2 : Int), .int .u64 (o2 : Int), .string d2]) rfl (by kernel_rfl) (by kernel_rfl) (by kernel_rfl) (fun _ _ _ h => h) (fun oi h => by cases h; exact Or.inl ⟨by rfl, fun w' hS' => by go_simp⟩) hHeld ?_
                try simp only [Act.put, List.setIfInBounds_toArray, List.set_cons_zero, List.set_cons_succ]
                refine take_d 13 (some 47) (.bool (decide ((i : Int) < 7))) rfl (by kernel_rfl) (by kernel_rfl) (by kernel_rfl) (fun _ _ _ h => h) (fun oi h => by cases h; exact Or.inl ⟨by rfl, fun w' hS' => by go_simp⟩) hHeld ?_
                try simp only [Act.put, List.setIfInBounds_toArray, List.set_cons_zero, List.set_cons_succ]
                exact leaf.out p10 p11 g2 cap2 o2 m2 a2 d2 _ (by omega) H2 x2 x3 hHeld
          · intro K hK
            go_simp
            refine hK.out _ _ ⟨hHeld.1.alloc _, hHeld.2.1.alloc _, hHeld.2.2.alloc hHeld.2.2.size _⟩ (fun hHeld => ?_)
            clear hK K
            try simp only [Act.put, List.setIfInBounds_toArray, List.set_cons_zero, List.set_cons_succ]
            have lp10 : Bz ≤ wd21.heap.size := lw
            have x2 : Row (wd21.alloc (.cells #[.nilFunc, .nilFunc, .string ⟨#[]⟩, .slice none 0 0, .int .u64 0] 42 (0, 0))) wd21.heap.size 42 [.nilFunc, .nilFunc, .string ⟨#[]⟩, .slice none 0 0, .int .u64 0] := Row.new' rfl rfl
            replace lw : Bz ≤ (wd21.alloc (.cells #[.nilFunc, .nilFunc, .string ⟨#[]⟩, .slice none 0 0, .int .u64 0] 42 (0, 0))).heap.size := Nat.le_trans lw (by simp)
            generalize wd21.heap.size = p10 at *
            generalize wd21.alloc (.cells #[.nilFunc, .nilFunc, .string ⟨#[]⟩, .slice none 0 0, .int .u64 0] 42 (0, 0)) = v22 at *
            refine two_d 3 15 rfl rfl (by kernel_rfl) ?_ ?_
            · intro K hK
              go_simp
              refine (C1.out _).mono ?_
              rintro e v23 ⟨rfl, bb0⟩
              replace x2 := x2.below bb0 x2.lt
              replace lw := Nat.le_trans lw bb0.size
              refine hK.out _ _ (⟨hHeld.1.below bb0 hHeld.1.lt, hHeld.2.1.keep bb0, hHeld.2.2.trans (bb0.mono hHeld.2.2.size)⟩) (fun hHeld => ?_)
              clear bb0
              clear hK K
              try simp only [Act.put, List.setIfInBounds_toArray, List.set_cons_zero, List.set_cons_succ]
              refine two_d 4 15 rfl rfl (by kernel_rfl) ?_ ?_
              · intro K hK
                go_simp
                refine (C2.out _ hHeld.2.1).mono ?_
                rintro e v24 ⟨rfl, bb0⟩
                replace x2 := x2.below bb0 x2.lt
                replace lw := Nat.le_trans lw bb0.size
                refine hK.out _ _ (⟨hHeld.1.below bb0 hHeld.1.lt, hHeld.2.1.keep bb0, hHeld.2.2.trans (bb0.mono hHeld.2.2.size)⟩) (fun hHeld => ?_)
                clear bb0
                clear hK K
                try simp only [Act.put, List.setIfInBounds_toArray, List.set_cons_zero, List.set_cons_succ]
                refine two_d 9 15 rfl rfl (by kernel_rfl) ?_ ?_
                · intro K hK
                  go_simp
                  refine (C3.out _ hHeld.2.1).mono ?_
                  rintro e v25 ⟨g2, cap2, o2, m2, a2, d2, rfl, H2, bb0⟩
                  replace x2 := x2.below bb0 x2.lt
                  replace lw := Nat.le_trans lw bb0.size
                  refine hK.out _ _ (⟨hHeld.1.below bb0 hHeld.1.lt, hHeld.2.1.keep bb0, hHeld.2.2.trans (bb0.mono hHeld.2.2.size)⟩) (fun hHeld => ?_)
                  clear bb0
                  clear hK K
                  try simp only [Act.put, List.setIfInBounds_toArray, List.set_cons_zero, List.set_cons_succ]
                  refine take_d 10 (some 34) (.tuple #[.agg (s2.c g2 cap2).toArray, .agg #[.int .u64 (o2 : Int), .int .u64 (m2 : Int), .int .u64 (a2 : Int), .int .u64 (o2 : Int), .string d2], .bool (decide ((i : Int) < 7))]) rfl (by kernel_rfl) (by kernel_rfl) (by kernel_rfl) (fun _ _ _ h => h) (fun oi h => by cases h; exact Or.inl ⟨by rfl, fun w' hS' => by go_simp⟩) hHeld ?_
                  try simp only [Act.put, List.setIfInBounds_toArray, List.set_cons_zero, List.set_cons_succ]
                  refine take_d 11 (some 45) (.agg (s2.c g2 cap2).toArray) rfl (by kernel_rfl) (by kernel_rfl) (by kernel_rfl) (fun _ _ _ h => h) (fun oi h => by cases h; exact Or.inl ⟨by rfl, fun w' hS' => by go_simp⟩) hHeld ?_
                  try simp only [Act.put, List.setIfInBounds_toArray, List.set_cons_zero, List.set_cons_succ]
                  refine take_d 12 (some 46) (.agg #[.int .u64 (o2 : Int), .int .u64 (m2 : Int), .int .u64 (a2 : Int), .int .u64 (o2 : Int), .string d2]) rfl (by kernel_rfl) (by kernel_rfl) (by kernel_rfl) (fun _ _ _ h => h) (fun oi h => by cases h; exact Or.inl ⟨by rfl, fun w' hS' => by go_simp⟩) hHeld ?_
                  try simp only [Act.put, List.setIfInBounds_toArray, List.set_cons_zero, List.set_cons_succ]
                  refine take_d 13 (some 47) (.bool (decide ((i : Int) < 7))) rfl (by kernel_rfl) (by kernel_rfl) (by kernel_rfl) (fun _ _ _ h => h) (fun oi h => by cases h; exact Or.inl ⟨by rfl, fun w' hS' => by go_simp⟩) hHeld ?_
                  try simp only [Act.put, List.setIfInBounds_toArray, List.set_cons_zero, List.set_cons_succ]
                  refine one_d 15 (some 11) rfl (by kernel_rfl) ?_
                  intro o ho1 hd K hK
                  cases ho1
                  go_simp
                  refine hK.out _ _ ⟨hHeld.1.alloc _, hHeld.2.1.alloc _, hHeld.2.2.alloc hHeld.2.2.size _⟩ (fun hHeld => ?_)
                  clear hK K hd
                  try simp only [Act.put, List.setIfInBounds_toArray, List.set_cons_zero, List.set_cons_succ]
                  have lp11 : Bz ≤ v25.heap.size := lw
                  have lp10p11 : p10 < v25.heap.size := x2.lt
                  have x3 : Row (v25.alloc (.cells #[.int .u64 0, .int .u64 0, .int .u64 0, .int .u64 0, .string ⟨#[]⟩] 24 (0, 0))) v25.heap.size 24 [.int .u64 0, .int .u64 0, .int .u64 0, .int .u64 0, .string ⟨#[]⟩] := Row.new' rfl rfl
                  replace x2 := x2.alloc (.cells #[.int .u64 0, .int .u64 0, .int .u64 0, .int .u64 0, .string ⟨#[]⟩] 24 (0, 0))
                  replace H2 := H2.alloc (.cells #[.int .u64 0, .int .u64 0, .int .u64 0, .int .u64 0, .string ⟨#[]⟩] 24 (0, 0))
                  replace lw : Bz ≤ (v25.alloc (.cells #[.int .u64 0, .int .u64 0, .int .u64 0, .int .u64 0, .string ⟨#[]⟩] 24 (0, 0))).heap.size := Nat.le_trans lw (by simp)
                  generalize v25.heap.size = p11 at *
                  generalize v25.alloc (.cells #[.int .u64 0, .int .u64 0, .int .u64 0, .int .u64 0, .string ⟨#[]⟩] 24 (0, 0)) = v26 at *
                  exact leaf.out p10 p11 g2 cap2 o2 m2 a2 d2 _ (by omega) H2 x2 x3 hHeld
                · intro K hK
                  go_simp
                  refine hK.out _ _ ⟨hHeld.1.alloc _, hHeld.2.1.alloc _, hHeld.2.2.alloc hHeld.2.2.size _⟩ (fun hHeld => ?_)
                  clear hK K
                  try simp only [Act.put, List.setIfInBounds_toArray, List.set_cons_zero, List.set_cons_succ]
                  have lp11 : Bz ≤ v24.heap.size := lw
                  have lp10p11 : p10 < v24.heap.size := x2.lt
                  have x3 : Row (v24.alloc (.cells #[.int .u64 0, .int .u64 0, .int .u64 0, .int .u64 0, .string ⟨#[]⟩] 24 (0, 0))) v24.heap.size 24 [.int .u64 0, .int .u64 0, .int .u64 0, .int .u64 0, .string ⟨#[]⟩] := Row.new' rfl rfl
                  replace x2 := x2.alloc (.cells #[.int .u64 0, .int .u64 0, .int .u64 0, .int .u64 0, .string ⟨#[]⟩] 24 (0, 0))
                  replace lw : Bz ≤ (v24.alloc (.cells #[.int .u64 0, .int .u64 0, .int .u64 0, .int .u64 0, .string ⟨#[]⟩] 24 (0, 0))).heap.size := Nat.le_trans lw (by simp)
                  generalize v24.heap.size = p11 at *
                  generalize v24.alloc (.cells #[.int .u64 0, .int .u64 0, .int .u64 0, .int .u64 0, .string ⟨#[]⟩] 24 (0, 0)) = v25 at *
                  refine one_d 9 (some 44) rfl (by kernel_rfl) ?_
                  intro o ho1 hd K hK
                  cases ho1
                  go_simp
                  refine (C3.out _ hHeld.2.1).mono ?_
                  rintro e v26 ⟨g2, cap2, o2, m2, a2, d2, rfl, H2, bb0⟩
                  replace x2 := x2.below bb0 x2.lt
                  replace x3 := x3.below bb0 x3.lt
                  replace lw := Nat.le_trans lw bb0.size
                  refine hK.out _ _ (⟨hHeld.1.below bb0 hHeld.1.lt, hHeld.2.1.keep bb0, hHeld.2.2.trans (bb0.mono hHeld.2.2.size)⟩) (fun hHeld => ?_)
                  clear bb0
                  clear hK K hd
                  try simp only [Act.put, List.setIfInBounds_toArray, List.set_cons_zero, List.set_cons_succ]
                  refine take_d 10 (some 34) (.tuple #[.agg (s2.c g2 cap2).toArray, .agg #[.int .u64 (o2 : Int), .int .u64 (m2 : Int), .int .u64 (a2 : Int), .int .u64 (o2 : Int), .string d2], .bool (decide ((i : Int) < 7))]) rfl (by kernel_rfl) (by kernel_rfl) (by kernel_rfl) (fun _ _ _ h => h) (fun oi h => by cases h; exact Or.inl ⟨by rfl, fun w' hS' => by go_simp⟩) hHeld ?_
                  try simp only [Act.put, List.setIfInBounds_toArray, List.set_cons_zero, List.set_cons_succ]
                  refine take_d 11 (some 45) (.agg (s2.c g2 cap2).toArray) rfl (by kernel_rfl) (by kernel_rfl) (by kernel_rfl) (fun _ _ _ h => h) (fun oi h => by cases h; exact Or.inl ⟨by rfl, fun w' hS' => by go_simp⟩) hHeld ?_
                  try simp only [Act.put, List.setIfInBounds_toArray, List.set_cons_zero, List.set_cons_succ]
                  refine take_d 12 (some 46) (.agg #[.int .u64 (o2 : Int), .int .u64 (m2 : Int), .int .u64 (a2 : Int), .int .u64 (o2 : Int), .string d2]) rfl (by kernel_rfl) (by kernel_rfl) (by kernel_rfl) (fun _ _ _ h => h) (fun oi h => by cases h; exact Or.inl ⟨by rfl, fun w' hS' => by go_simp⟩) hHeld ?_
                  try simp only [Act.put, List.setIfInBounds_toArray, List.set_cons_zero, List.set_cons_succ]
                  refine take_d 13 (some 47) (.bool (decide ((i : Int) < 7))) rfl (by kernel_rfl) (by kernel_rfl) (by kernel_rfl) (fun _ _ _ h => h) (fun oi h => by cases h; exact Or.inl ⟨by rfl, fun w' hS' => by go_simp⟩) hHeld ?_
                  try simp only [Act.put, List.setIfInBounds_toArray, List.set_cons_zero, List.set_cons_succ]
                  exact leaf.out p10 p11 g2 cap2 o2 m2 a2 d2 _ (by omega) H2 x2 x3 hHeld
              · intro K hK
                go_simp
                refine hK.out _ _ ⟨hHeld.1.alloc _, hHeld.2.1.alloc _, hHeld.2.2.alloc hHeld.2.2.size _⟩ (fun hHeld => ?_)
                clear hK K
                try simp only [Act.put, List.setIfInBounds_toArray, List.set_cons_zero, List.set_cons_succ]
                have lp11 : Bz ≤ v23.heap.size := lw
                have lp10p11 : p10 < v23.heap.size := x2.lt
                have x3 : Row (v23.alloc (.cells #[.int .u64 0, .int .u64 0, .int .u64 0, .int .u64 0, .string ⟨#[]⟩] 24 (0, 0))) v23.heap.size 24 [.int .u64 0, .int .u64 0, .int .u64 0, .int .u64 0, .string ⟨#[]⟩] := Row.new' rfl rfl
                replace x2 := x2.alloc (.cells #[.int .u64 0, .int .u64 0, .int .u64 0, .int .u64 0, .string ⟨#[]⟩] 24 (0, 0))
                replace lw : Bz ≤ (v23.alloc (.cells #[.int .u64 0, .int .u64 0, .int .u64 0, .int .u64 0, .string ⟨#[]⟩] 24 (0, 0))).heap.size := Nat.le_trans lw (by simp)
                generalize v23.heap.size = p11 at *
                generalize v23.alloc (.cells #[.int .u64 0, .int .u64 0, .int .u64 0, .int .u64 0, .string ⟨#[]⟩] 24 (0, 0)) = v24 at *
                refine one_d 4 (some 39) rfl (by kernel_rfl) ?_
                intro o ho1 hd K hK
                cases ho1
                go_simp
                refine (C2.out _ hHeld.2.1).mono ?_
                rintro e v25 ⟨rfl, bb0⟩
                replace x2 := x2.below bb0 x2.lt
                replace x3 := x3.below bb0 x3.lt
                replace lw := Nat.le_trans lw bb0.size
                refine hK.out _ _ (⟨hHeld.1.below bb0 hHeld.1.lt, hHeld.2.1.keep bb0, hHeld.2.2.trans (bb0.mono hHeld.2.2.size)⟩) (fun hHeld => ?_)
                clear bb0
                clear hK K hd
                try simp only [Act.put, List.setIfInBounds_toArray, List.set_cons_zero, List.set_cons_succ]
                refine one_d 9 (some 44) rfl (by kernel_rfl) ?_
                intro o ho1 hd K hK
                cases ho1
                go_simp
                refine (C3.out _ hHeld.2.1).mono ?_
                rintro e v26 ⟨g2, cap2, o2, m2, a2, d2, rfl, H2, bb0⟩
                replace x2 := x2.below bb0 x2.lt
                replace x3 := x3.below bb0 x3.lt
                replace lw := Nat.le_trans lw bb0.size
                refine hK.out _ _ (⟨hHeld.1.below bb0 hHeld.1.lt, hHeld.2.1.keep bb0, hHeld.2.2.trans (bb0.mono hHeld.2.2.size)⟩) (fun hHeld => ?_)
                clear bb0
                clear hK K hd
                try simp only [Act.put, List.setIfInBounds_toArray, List.set_cons_zero, List.set_cons_succ]
                refine take_d 10 (some 34) (.tuple #[.agg (s2.c g2 cap2).toArray, .agg #[.int .u64 (o2 : Int), .int .u64 (m2 : Int), .int .u64 (a2 : Int), .int .u64 (o2 : Int), .string d2], .bool (decide ((i : Int) < 7))]) rfl (by kernel_rfl) (by kernel_rfl) (by kernel_rfl) (fun _ _ _ h => h) (fun oi h => by cases h; exact Or.inl ⟨by rfl, fun w' hS' => by go_simp⟩) hHeld ?_
                try simp only [Act.put, List.setIfInBounds_toArray, List.set_cons_zero, List.set_cons_succ]
                refine take_d 11 (some 45) (.agg (s2.c g2 cap2).toArray) rfl (by kernel_rfl) (by kernel_rfl) (by kernel_rfl) (fun _ _ _ h => h) (fun oi h => by cases h; exact Or.inl ⟨by rfl, fun w' hS' => by go_simp⟩) hHeld ?_
                try simp only [Act.put, List.setIfInBounds_toArray, List.set_cons_zero, List.set_cons_succ]
                refine take_d 12 (some 46) (.agg #[.int .u64 (o2 : Int), .int .u64 (m2 : Int), .int .u64 (a2 : Int), .int .u64 (o2 : Int), .string d2]) rfl (by kernel_rfl) (by kernel_rfl) (by kernel_rfl) (fun _ _ _ h => h) (fun oi h => by cases h; exact Or.inl ⟨by rfl, fun w' hS' => by go_simp⟩) hHeld ?_
                try simp only [Act.put, List.setIfInBounds_toArray, List.set_cons_zero, List.set_cons_succ]
                refine take_d 13 (some 47) (.bool (decide ((i : Int) < 7))) rfl (by kernel_rfl) (by kernel_rfl) (by kernel_rfl) (fun _ _ _ h => h) (fun oi h => by cases h; exact Or.inl ⟨by rfl, fun w' hS' => by go_simp⟩) hHeld ?_
                try simp only [Act.put, List.setIfInBounds_toArray, List.set_cons_zero, List.set_cons_succ]
                exact leaf.out p10 p11 g2 cap2 o2 m2 a2 d2 _ (by omega) H2 x2 x3 hHeld
            · intro K hK
              go_simp
              refine hK.out _ _ ⟨hHeld.1.alloc _, hHeld.2.1.alloc _, hHeld.2.2.alloc hHeld.2.2.size _⟩ (fun hHeld => ?_)
              clear hK K
              try simp only [Act.put, List.setIfInBounds_toArray, List.set_cons_zero, List.set_cons_succ]
              have lp11 : Bz ≤ v22.heap.size := lw
              have lp10p11 : p10 < v22.heap.size := x2.lt
              have x3 : Row (v22.alloc (.cells #[.int .u64 0, .int .u64 0, .int .u64 0, .int .u64 0, .string ⟨#[]⟩] 24 (0, 0))) v22.heap.size 24 [.int .u64 0, .int .u64 0, .int .u64 0, .int .u64 0, .string ⟨#[]⟩] := Row.new' rfl rfl
              replace x2 := x2.alloc (.cells #[.int .u64 0, .int .u64 0, .int .u64 0, .int .u64 0, .string ⟨#[]⟩] 24 (0, 0))
              replace lw : Bz ≤ (v22.alloc (.cells #[.int .u64 0, .int .u64 0, .int .u64 0, .int .u64 0, .string ⟨#[]⟩] 24 (0, 0))).heap.size := Nat.le_trans lw (by simp)
              generalize v22.heap.size = p11 at *
              generalize v22.alloc (.cells #[.int .u64 0, .int .u64 0, .int .u64 0, .int .u64 0, .string ⟨#[]⟩] 24 (0, 0)) = v23 at *
              refine one_d 3 (some 38) rfl (by kernel_rfl) ?_
              intro o ho1 hd K hK
              cases ho1
              go_simp
              refine (C1.out _).mono ?_
              rintro e v24 ⟨rfl, bb0⟩
              replace x2 := x2.below bb0 x2.lt
              replace x3 := x3.below bb0 x3.lt
              replace lw := Nat.le_trans lw bb0.size
              refine hK.out _ _ (⟨hHeld.1.below bb0 hHeld.1.lt, hHeld.2.1.keep bb0, hHeld.2.2.trans (bb0.mono hHeld.2.2.size)⟩) (fun hHeld => ?_)
              clear bb0
              clear hK K hd
              try simp only [Act.put, List.setIfInBounds_toArray, List.set_cons_zero, List.set_cons_succ]
              refine one_d 4 (some 39) rfl (by kernel_rfl) ?_
              intro o ho1 hd K hK
              cases ho1
              go_simp
              refine (C2.out _ hHeld.2.1).mono ?_
              rintro e v25 ⟨rfl, bb0⟩
              replace x2 := x2.below bb0 x2.lt
              replace x3 := x3.below bb0 x3.lt
              replace lw := Nat.le_trans lw bb0.size
              refine hK.out _ _ (⟨hHeld.1.below bb0 hHeld.1.lt, hHeld.2.1.keep bb0, hHeld.2.2.trans (bb0.mono hHeld.2.2.size)⟩) (fun hHeld => ?_)
              clear bb0
              clear hK K hd
              try simp only [Act.put, List.setIfInBounds_toArray, List.set_cons_zero, List.set_cons_succ]
              refine one_d 9 (some 44) rfl (by kernel_rfl) ?_
              intro o ho1 hd K hK
              cases ho1
              go_simp
              refine (C3.out _ hHeld.2.1).mono ?_
              rintro e v26 ⟨g2, cap2, o2, m2, a2, d2, rfl, H2, bb0⟩
              replace x2 := x2.below bb0 x2.lt
              replace x3 := x3.below bb0 x3.lt
              replace lw := Nat.le_trans lw bb0.size
              refine hK.out _ _ (⟨hHeld.1.below bb0 hHeld.1.lt, hHeld.2.1.keep bb0, hHeld.2.2.trans (bb0.mono hHeld.2.2.size)⟩) (fun hHeld => ?_)
              clear bb0
              clear hK K hd
              try simp only [Act.put, List.setIfInBounds_toArray, List.set_cons_zero, List.set_cons_succ]
              refine take_d 10 (some 34) (.tuple #[.agg (s2.c g2 cap2).toArray, .agg #[.int .u64 (o2 : Int), .int .u64 (m2 : Int), .int .u64 (a2 : Int), .int .u64 (o2 : Int), .string d2], .bool (decide ((i : Int) < 7))]) rfl (by kernel_rfl) (by kernel_rfl) (by kernel_rfl) (fun _ _ _ h => h) (fun oi h => by cases h; exact Or.inl ⟨by rfl, fun w' hS' => by go_simp⟩) hHeld ?_
              try simp only [Act.put, List.setIfInBounds_toArray, List.set_cons_zero, List.set_cons_succ]
              refine take_d 11 (some 45) (.agg (s2.c g2 cap2).toArray) rfl (by kernel_rfl) (by kernel_rfl) (by kernel_rfl) (fun _ _ _ h => h) (fun oi h => by cases h; exact Or.inl ⟨by rfl, fun w' hS' => by go_simp⟩) hHeld ?_
              try simp only [Act.put, List.setIfInBounds_toArray, List.set_cons_zero, List.set_cons_succ]
              refine take_d 12 (some 46) (.agg #[.int .u64 (o2 : Int), .int .u64 (m2 : Int), .int .u64 (a2 : Int), .int .u64 (o2 : Int), .string d2]) rfl (by kernel_rfl) (by kernel_rfl) (by kernel_rfl) (fun _ _ _ h => h) (fun oi h => by cases h; exact Or.inl ⟨by rfl, fun w' hS' => by go_simp⟩) hHeld ?_
              try simp only [Act.put, List.setIfInBounds_toArray, List.set_cons_zero, List.set_cons_succ]
              refine take_d 13 (some 47) (.bool (decide ((i : Int) < 7))) rfl (by kernel_rfl) (by kernel_rfl) (by kernel_rfl) (fun _ _ _ h => h) (fun oi h => by cases h; exact Or.inl ⟨by rfl, fun w' hS' => by go_simp⟩) hHeld ?_
              try simp only [Act.put, List.setIfInBounds_toArray, List.set_cons_zero, List.set_cons_succ]
              exact leaf.out p10 p11 g2 cap2 o2 m2 a2 d2 _ (by omega) H2 x2 x3 hHeld
          · intro K hK
            go_simp
            refine hK.out _ _ ⟨hHeld.1.alloc _, hHeld.2.1.alloc _, hHeld.2.2.alloc hHeld.2.2.size _⟩ (fun hHeld => ?_)
            clear hK K
            try simp only [Act.put, List.setIfInBounds_toArray, List.set_cons_zero, List.set_cons_succ]
            have lp11 : Bz ≤ wd21.heap.size := lw
            have x3 : Row (wd21.alloc (.cells #[.int .u64 0, .int .u64 0, .int .u64 0, .int .u64 0, .string ⟨#[]⟩] 24 (0, 0))) wd21.heap.size 24 [.int .u64 0, .int .u64 0, .int .u64 0, .int .u64 0, .string ⟨#[]⟩] := Row.new' rfl rfl
            replace lw : Bz ≤ (wd21.alloc (.cells #[.int .u64 0, .int .u64 0, .int .u64 0, .int .u64 0, .string ⟨#[]⟩] 24 (0, 0))).heap.size := Nat.le_trans lw (by simp)
            generalize wd21.heap.size = p11 at *
            generalize wd21.alloc (.cells #[.int .u64 0, .int .u64 0, .int .u64 0, .int .u64 0, .string ⟨#[]⟩] 24 (0, 0)) = v22 at *
            refine two_d 3 14 rfl rfl (by kernel_rfl) ?_ ?_
            · intro K hK
              go_simp
              refine (C1.out _).mono ?_
              rintro e v23 ⟨rfl, bb0⟩
              replace x3 := x3.below bb0 x3.lt
              replace lw := Nat.le_trans lw bb0.size
              refine hK.out _ _ (⟨hHeld.1.below bb0 hHeld.1.lt, hHeld.2.1.keep bb0, hHeld.2.2.trans (bb0.mono hHeld.2.2.size)⟩) (fun hHeld => ?_)
              clear bb0
              clear hK K
              try simp only [Act.put, List.setIfInBounds_toArray, List.set_cons_zero, List.set_cons_succ]
              refine two_d 4 14 rfl rfl (by kernel_rfl) ?_ ?_
              · intro K hK
                go_simp
                refine (C2.out _ hHeld.2.1).mono ?_
                rintro e v24 ⟨rfl, bb0⟩
                replace x3 := x3.below bb0 x3.lt
                replace lw := Nat.le_trans lw bb0.size
                refine hK.out _ _ (⟨hHeld.1.below bb0 hHeld.1.lt, hHeld.2.1.keep bb0, hHeld.2.2.trans (bb0.mono hHeld.2.2.size)⟩) (fun hHeld => ?_)
                clear bb0
                clear hK K
                try simp only [Act.put, List.setIfInBounds_toArray, List.set_cons_zero, List.set_cons_succ]
                refine two_d 9 14 rfl rfl (by kernel_rfl) ?_ ?_
                · intro K hK
                  go_simp
                  refine (C3.out _ hHeld.2.1).mono ?_
                  rintro e v25 ⟨g2, cap2, o2, m2, a2, d2, rfl, H2, bb0⟩
                  replace x3 := x3.below bb0 x3.lt
                  replace lw := Nat.le_trans lw bb0.size
                  refine hK.out _ _ (⟨hHeld.1.below bb0 hHeld.1.lt, hHeld.2.1.keep bb0, hHeld.2.2.trans (bb0.mono hHeld.2.2.size)⟩) (fun hHeld => ?_)
                  clear bb0
                  clear hK K
                  try simp only [Act.put, List.setIfInBounds_toArray, List.set_cons_zero, List.set_cons_succ]
                  refine take_d 10 (some 34) (.tuple #[.agg (s2.c g2 cap2).toArray, .agg #[.int .u64 (o2 : Int), .int .u64 (m2 : Int), .int .u64 (a2 : Int), .int .u64 (o2 : Int), .string d2], .bool (decide ((i : Int) < 7))]) rfl (by kernel_rfl) (by kernel_rfl) (by kernel_rfl) (fun _ _ _ h => h) (fun oi h => by cases h; exact Or.inl ⟨by rfl, fun w' hS' => by go_simp⟩) hHeld ?_
                  try simp only [Act.put, List.setIfInBounds_toArray, List.set_cons_zero, List.set_cons_succ]
                  refine take_d 11 (some 45) (.agg (s2.c g2 cap2).toArray) rfl (by kernel_rfl) (by kernel_rfl) (by kernel_rfl) (fun _ _ _ h => h) (fun oi h => by cases h; exact Or.inl ⟨by rfl, fun w' hS' => by go_simp⟩) hHeld ?_
                  try simp only [Act.put, List.setIfInBounds_toArray, List.set_cons_zero, List.set_cons_succ]
                  refine take_d 12 (some 46) (.agg #[.int .u64 (o2 : Int), .int .u64 (m2 : Int), .int .u64 (a2 : Int), .int .u64 (o2 : Int), .string d2]) rfl (by kernel_rfl) (by kernel_rfl) (by kernel_rfl) (fun _ _ _ h => h) (fun oi h => by cases h; exact Or.inl ⟨by rfl, fun w' hS' => by go_simp⟩) hHeld ?_
                  try simp only [Act.put, List.setIfInBounds_toArray, List.set_cons_zero, List.set_cons_succ]
                  refine take_d 13 (some 47) (.bool (decide ((i : Int) < 7))) rfl (by kernel_rfl) (by kernel_rfl) (by kernel_rfl) (fun _ _ _ h => h) (fun oi h => by cases h; exact Or.inl ⟨by rfl, fun w' hS' => by go_simp⟩) hHeld ?_
                  try simp only [Act.put, List.setIfInBounds_toArray, List.set_cons_zero, List.set_cons_succ]
                  refine one_d 14 (some 10) rfl (by kernel_rfl) ?_
                  intro o ho1 hd K hK
                  cases ho1
                  go_simp
                  refine hK.out _ _ ⟨hHeld.1.alloc _, hHeld.2.1.alloc _, hHeld.2.2.alloc hHeld.2.2.size _⟩ (fun hHeld => ?_)
                  clear hK K hd
                  try simp only [Act.put, List.setIfInBounds_toArray, List.set_cons_zero, List.set_cons_succ]
                  have lp10 : Bz ≤ v25.heap.size := lw
                  have lp11p10 : p11 < v25.heap.size := x3.lt
                  have x2 : Row (v25.alloc (.cells #[.nilFunc, .nilFunc, .string ⟨#[]⟩, .slice none 0 0, .int .u64 0] 42 (0, 0))) v25.heap.size 42 [.nilFunc, .nilFunc, .string ⟨#[]⟩, .slice none 0 0, .int .u64 0] := Row.new' rfl rfl
                  replace x3 := x3.alloc (.cells #[.nilFunc, .nilFunc, .string ⟨#[]⟩, .slice none 0 0, .int .u64 0] 42 (0, 0))
                  replace H2 := H2.alloc (.cells #[.nilFunc, .nilFunc, .string ⟨#[]⟩, .slice none 0 0, .int .u64 0] 42 (0, 0))
                  replace lw : Bz ≤ (v25.alloc (.cells #[.nilFunc, .nilFunc, .string ⟨#[]⟩, .slice none 0 0, .int .u64 0] 42 (0, 0))).heap.size := Nat.le_trans lw (by simp)
                  generalize v25.heap.size = p10 at *
                  generalize v25.alloc (.cells #[.nilFunc, .nilFunc, .string ⟨#[]⟩, .slice none 0 0, .int .u64 0] 42 (0, 0)) = v26 at *
                  exact leaf.out p10 p11 g2 cap2 o2 m2 a2 d2 _ (by omega) H2 x2 x3 hHeld
                · intro K hK
                  go_simp
                  refine hK.out _ _ ⟨hHeld.1.alloc _, hHeld.2.1.alloc _, hHeld.2.2.alloc hHeld.2.2.size _⟩ (fun hHeld => ?_)
                  clear hK K
                  try simp only [Act.put, List.setIfInBounds_toArray, List.set_cons_zero, List.set_cons_succ]
                  have lp10 : Bz ≤ v24.heap.size := lw
                  have lp11p10 : p11 < v24.heap.size := x3.lt
                  have x2 : Row (v24.alloc (.cells #[.nilFunc, .nilFunc, .string ⟨#[]⟩, .slice none 0 0, .int .u64 0] 42 (0, 0))) v24.heap.size 42 [.nilFunc, .nilFunc, .string ⟨#[]⟩, .slice none 0 0, .int .u64 0] := Row.new' rfl rfl
                  replace x3 := x3.alloc (.cells #[.nilFunc, .nilFunc, .string ⟨#[]⟩, .slice none 0 0, .int .u64 0] 42 (0, 0))
                  replace lw : Bz ≤ (v24.alloc (.cells #[.nilFunc, .nilFunc, .string ⟨#[]⟩, .slice none 0 0, .int .u64 0] 42 (0, 0))).heap.size := Nat.le_trans lw (by simp)
                  generalize v24.heap.size = p10 at *
                  generalize v24.alloc (.cells #[.nilFunc, .nilFunc, .string ⟨#[]⟩, .slice none 0 0, .int .u64 0] 42 (0, 0)) = v25 at *
                  refine one_d 9 (some 44) rfl (by kernel_rfl) ?_
                  intro o ho1 hd K hK
                  cases ho1
                  go_simp
                  refine (C3.out _ hHeld.2.1).mono ?_
                  rintro e v26 ⟨g2, cap2, o2, m2, a2, d2, rfl, H2, bb0⟩
                  replace x3 := x3.below bb0 x3.lt
                  replace x2 := x2.below bb0 x2.lt
                  replace lw := Nat.le_trans lw bb0.size
                  refine hK.out _ _ (⟨hHeld.1.below bb0 hHeld.1.lt, hHeld.2.1.keep bb0, hHeld.2.2.trans (bb0.mono hHeld.2.2.size)⟩) (fun hHeld => ?_)
                  clear bb0
                  clear hK K hd
                  try simp only [Act.put, List.setIfInBounds_toArray, List.set_cons_zero, List.set_cons_succ]
                  refine take_d 10 (some 34) (.tuple #[.agg (s2.c g2 cap2).toArray, .agg #[.int .u64 (o2 : Int), .int .u64 (m2 : Int), .int .u64 (a2 : Int), .int .u64 (o2 : Int), .string d2], .bool (decide ((i : Int) < 7))]) rfl (by kernel_rfl) (by kernel_rfl) (by kernel_rfl) (fun _ _ _ h => h) (fun oi h => by cases h; exact Or.inl ⟨by rfl, fun w' hS' => by go_simp⟩) hHeld ?_
                  try simp only [Act.put, List.setIfInBounds_toArray, List.set_cons_zero, List.set_cons_succ]
                  refine take_d 11 (some 45) (.agg (s2.c g2 cap2).toArray) rfl (by kernel_rfl) (by kernel_rfl) (by kernel_rfl) (fun _ _ _ h => h) (fun oi h => by cases h; exact Or.inl ⟨by rfl, fun w' hS' => by go_simp⟩) hHeld ?_
                  try simp only [Act.put, List.setIfInBounds_toArray, List.set_cons_zero, List.set_cons_succ]
                  refine take_d 12 (some 46) (.agg #[.int .u64 (o2 : Int), .int .u64 (m2 : Int), .int .u64 (a2 : Int), .int .u64 (o2 : Int), .string d2]) rfl (by kernel_rfl) (by kernel_rfl) (by kernel_rfl) (fun _ _ _ h => h) (fun oi h => by cases h; exact Or.inl ⟨by rfl, fun w' hS' => by go_simp⟩) hHeld ?_
                  try simp only [Act.put, List.setIfInBounds_toArray, List.set_cons_zero, List.set_cons_succ]
                  refine take_d 13 (some 47) (.bool (decide ((i : Int) < 7))) rfl (by kernel_rfl) (by kernel_rfl) (by kernel_rfl) (fun _ _ _ h => h) (fun oi h => by cases h; exact Or.inl ⟨by rfl, fun w' hS' => by go_simp⟩) hHeld ?_
                  try simp only [Act.put, List.setIfInBounds_toArray, List.set_cons_zero, List.set_cons_succ]
                  exact leaf.out p10 p11 g2 cap2 o2 m2 a2 d2 _ (by omega) H2 x2 x3 hHeld
              · intro K hK
                go_simp
                refine hK.out _ _ ⟨hHeld.1.alloc _, hHeld.2.1.alloc _, hHeld.2.2.alloc hHeld.2.2.size _⟩ (fun hHeld => ?_)
                clear hK K
                try simp only [Act.put, List.setIfInBounds_toArray, List.set_cons_zero, List.set_cons_succ]
                have lp10 : Bz ≤ v23.heap.size := lw
                have lp11p10 : p11 < v23.heap.size := x3.lt
                have x2 : Row (v23.alloc (.cells #[.nilFunc, .nilFunc, .string ⟨#[]⟩, .slice none 0 0, .int .u64 0] 42 (0, 0))) v23.heap.size 42 [.nilFunc, .nilFunc, .string ⟨#[]⟩, .slice none 0 0, .int .u64 0] := Row.new' rfl rfl
                replace x3 := x3.alloc (.cells #[.nilFunc, .nilFunc, .string ⟨#[]⟩, .slice none 0 0, .int .u64 0] 42 (0, 0))
                replace lw : Bz ≤ (v23.alloc (.cells #[.nilFunc, .nilFunc, .string ⟨#[]⟩, .slice none 0 0, .int .u64 0] 42 (0, 0))).heap.size := Nat.le_trans lw (by simp)
                generalize v23.heap.size = p10 at *
                generalize v23.alloc (.cells #[.nilFunc, .nilFunc, .string ⟨#[]⟩, .slice none 0 0, .int .u64 0] 42 (0, 0)) = v24 at *
                refine one_d 4 (some 39) rfl (by kernel_rfl) ?_
                intro o ho1 hd K hK
                cases ho1
                go_simp
                refine (C2.out _ hHeld.2.1).mono ?_
                rintro e v25 ⟨rfl, bb0⟩
                replace x3 := x3.below bb0 x3.lt
                replace x2 := x2.below bb0 x2.lt
                replace lw := Nat.le_trans lw bb0.size
                refine hK.out _ _ (⟨hHeld.1.below bb0 hHeld.1.lt, hHeld.2.1.keep bb0, hHeld.2.2.trans (bb0.mono hHeld.2.2.size)⟩) (fun hHeld => ?_)
                clear bb0
                clear hK K hd
                try simp only [Act.put, List.setIfInBounds_toArray, List.set_cons_zero, List.set_cons_succ]
                refine one_d 9 (some 44) rfl (by kernel_rfl) ?_
                intro o ho1 hd K hK
                cases ho1
                go_simp
                refine (C3.out _ hHeld.2.1).mono ?_
                rintro e v26 ⟨g2, cap2, o2, m2, a2, d2, rfl, H2, bb0⟩
                replace x3 := x3.below bb0 x3.lt
                replace x2 := x2.below bb0 x2.lt
                replace lw := Nat.le_trans lw bb0.size
                refine hK.out _ _ (⟨hHeld.1.below bb0 hHeld.1.lt, hHeld.2.1.keep bb0, hHeld.2.2.trans (bb0.mono hHeld.2.2.size)⟩) (fun hHeld => ?_)
                clear bb0
                clear hK K hd
                try simp only [Act.put, List.setIfInBounds_toArray, List.set_cons_zero, List.set_cons_succ]
                refine take_d 10 (some 34) (.tuple #[.agg (s2.c g2 cap2).toArray, .agg #[.int .u64 (o2 : Int), .int .u64 (m2 : Int), .int .u64 (a2 : Int), .int .u64 (o2 : Int), .string d2], .bool (decide ((i : Int) < 7))]) rfl (by kernel_rfl) (by kernel_rfl) (by kernel_rfl) (fun _ _ _ h => h) (fun oi h => by cases h; exact Or.inl ⟨by rfl, fun w' hS' => by go_simp⟩) hHeld ?_
                try simp only [Act.put, List.setIfInBounds_toArray, List.set_cons_zero, List.set_cons_succ]
                refine take_d 11 (some 45) (.agg (s2.c g2 cap2).toArray) rfl (by kernel_rfl) (by kernel_rfl) (by kernel_rfl) (fun _ _ _ h => h) (fun oi h => by cases h; exact Or.inl ⟨by rfl, fun w' hS' => by go_simp⟩) hHeld ?_
                try simp only [Act.put, List.setIfInBounds_toArray, List.set_cons_zero, List.set_cons_succ]
                refine take_d 12 (some 46) (.agg #[.int .u64 (o2 : Int), .int .u64 (m2 : Int), .int .u64 (a2 : Int), .int .u64 (o2 : Int), .string d2]) rfl (by kernel_rfl) (by kernel_rfl) (by kernel_rfl) (fun _ _ _ h => h) (fun oi h => by cases h; exact Or.inl ⟨by rfl, fun w' hS' => by go_simp⟩) hHeld ?_
                try simp only [Act.put, List.setIfInBounds_toArray, List.set_cons_zero, List.set_cons_succ]
                refine take_d 13 (some 47) (.bool (decide ((i : Int) < 7))) rfl (by kernel_rfl) (by kernel_rfl) (by kernel_rfl) (fun _ _ _ h => h) (fun oi h => by cases h; exact Or.inl ⟨by rfl, fun w' hS' => by go_simp⟩) hHeld ?_
                try simp only [Act.put, List.setIfInBounds_toArray, List.set_cons_zero, List.set_cons_succ]
                exact leaf.out p10 p11 g2 cap2 o2 m2 a2 d2 _ (by omega) H2 x2 x3 hHeld
            · intro K hK
              go_simp
              refine hK.out _ _ ⟨hHeld.1.alloc _, hHeld.2.1.alloc _, hHeld.2.2.alloc hHeld.2.2.size _⟩ (fun hHeld => ?_)
              clear hK K
              try simp only [Act.put, List.setIfInBounds_toArray, List.set_cons_zero, List.set_cons_succ]
              have lp10 : Bz ≤ v22.heap.size := lw
              have lp11p10 : p11 < v22.heap.size := x3.lt
              have x2 : Row (v22.alloc (.cells #[.nilFunc, .nilFunc, .string ⟨#[]⟩, .slice none 0 0, .int .u64 0] 42 (0, 0))) v22.heap.size 42 [.nilFunc, .nilFunc, .string ⟨#[]⟩, .slice none 0 0, .int .u64 0] := Row.new' rfl rfl
              replace x3 := x3.alloc (.cells #[.nilFunc, .nilFunc, .string ⟨#[]⟩, .slice none 0 0, .int .u64 0] 42 (0, 0))
              replace lw : Bz ≤ (v22.alloc (.cells #[.nilFunc, .nilFunc, .string ⟨#[]⟩, .slice none 0 0, .int .u64 0] 42 (0, 0))).heap.size := Nat.le_trans lw (by simp)
              generalize v22.heap.size = p10 at *
              generalize v22.alloc (.cells #[.nilFunc, .nilFunc, .string ⟨#[]⟩, .slice none 0 0, .int .u64 0] 42 (0, 0)) = v23 at *
              refine one_d 3 (some 38) rfl (by kernel_rfl) ?_
              intro o ho1 hd K hK
              cases ho1
              go_simp
              refine (C1.out _).mono ?_
              rintro e v24 ⟨rfl, bb0⟩
              replace x3 := x3.below bb0 x3.lt
              replace x2 := x2.below bb0 x2.lt
              replace lw := Nat.le_trans lw bb0.size
              refine hK.out _ _ (⟨hHeld.1.below bb0 hHeld.1.lt, hHeld.2.1.keep bb0, hHeld.2.2.trans (bb0.mono hHeld.2.2.size)⟩) (fun hHeld => ?_)
              clear bb0
              clear hK K hd
              try simp only [Act.put, List.setIfInBounds_toArray, List.set_cons_zero, List.set_cons_succ]
              refine one_d 4 (some 39) rfl (by kernel_rfl) ?_
              intro o ho1 hd K hK
              cases ho1
              go_simp
              refine (C2.out _ hHeld.2.1).mono ?_
              rintro e v25 ⟨rfl, bb0⟩
              replace x3 := x3.below bb0 x3.lt
              replace x2 := x2.below bb0 x2.lt
              replace lw := Nat.le_trans lw bb0.size
              refine hK.out _ _ (⟨hHeld.1.below bb0 hHeld.1.lt, hHeld.2.1.keep bb0, hHeld.2.2.trans (bb0.mono hHeld.2.2.size)⟩) (fun hHeld => ?_)
              clear bb0
              clear hK K hd
              try simp only [Act.put, List.setIfInBounds_toArray, List.set_cons_zero, List.set_cons_succ]
              refine one_d 9 (some 44) rfl (by kernel_rfl) ?_
              intro o ho1 hd K hK
              cases ho1
              go_simp
              refine (C3.out _ hHeld.2.1).mono ?_
              rintro e v26 ⟨g2, cap2, o2, m2, a2, d2, rfl, H2, bb0⟩
              replace x3 := x3.below bb0 x3.lt
              replace x2 := x2.below bb0 x2.lt
              replace lw := Nat.le_trans lw bb0.size
              refine hK.out _ _ (⟨hHeld.1.below bb0 hHeld.1.lt, hHeld.2.1.keep bb0, hHeld.2.2.trans (bb0.mono hHeld.2.2.size)⟩) (fun hHeld => ?_)
              clear bb0
              clear hK K hd
              try simp only [Act.put, List.setIfInBounds_toArray, List.set_cons_zero, List.set_cons_succ]
              refine take_d 10 (some 34) (.tuple #[.agg (s2.c g2 cap2).toArray, .agg #[.int .u64 (o2 : Int), .int .u64 (m2 : Int), .int .u64 (a2 : Int), .int .u64 (o2 : Int), .string d2], .bool (decide ((i : Int) < 7))]) rfl (by kernel_rfl) (by kernel_rfl) (by kernel_rfl) (fun _ _ _ h => h) (fun oi h => by cases h; exact Or.inl ⟨by rfl, fun w' hS' => by go_simp⟩) hHeld ?_
              try simp only [Act.put, List.setIfInBounds_toArray, List.set_cons_zero, List.set_cons_succ]
              refine take_d 11 (some 45) (.agg (s2.c g2 cap2).toArray) rfl (by kernel_rfl) (by kernel_rfl) (by kernel_rfl) (fun _ _ _ h => h) (fun oi h => by cases h; exact Or.inl ⟨by rfl, fun w' hS' => by go_simp⟩) hHeld ?_
              try simp only [Act.put, List.setIfInBounds_toArray, List.set_cons_zero, List.set_cons_succ]
              refine take_d 12 (some 46) (.agg #[.int .u64 (o2 : Int), .int .u64 (m2 : Int), .int .u64 (a2 : Int), .int .u64 (o2 : Int), .string d2]) rfl (by kernel_rfl) (by kernel_rfl) (by kernel_rfl) (fun _ _ _ h => h) (fun oi h => by cases h; exact Or.inl ⟨by rfl, fun w' hS' => by go_simp⟩) hHeld ?_
              try simp only [Act.put, List.setIfInBounds_toArray, List.set_cons_zero, List.set_cons_succ]
              refine take_d 13 (some 47) (.bool (decide ((i : Int) < 7))) rfl (by kernel_rfl) (by kernel_rfl) (by kernel_rfl) (fun _ _ _ h => h) (fun oi h => by cases h; exact Or.inl ⟨by rfl, fun w' hS' => by go_simp⟩) hHeld ?_
              try simp only [Act.put, List.setIfInBounds_toArray, List.set_cons_zero, List.set_cons_succ]
              exact leaf.out p10 p11 g2 cap2 o2 m2 a2 d2 _ (by omega) H2 x2 x3 hHeld
        case lf =>
          intro p10 p11 g2 cap2 o2 m2 a2 d2 wz hdis H2 x2 x3 hHeld
          have hq2 : g2 ≠ p10 := held_neq H2 (by rw [← hs2]; exact HP.out j) x2 (by intro q r; simp [St.c])
          have hq3 : g2 ≠ p11 := held_neq H2 (by rw [← hs2]; exact HP.out j) x3 (by intro q r; simp [St.c])
          refine one_d 16 none rfl (by kernel_rfl) ?_
          intro o ho1 hd K hK
          cases ho1
          refine step_store_row rfl 42 (.tmp 10) (.tmp 45) rfl (p10) (s2.c g2 cap2) rfl rfl _ _ x2 infoSn rfl (by first | (simp [Value.oneCell']; done) | exact S15.Sn.c_all _ _ _) ?_
          rw [hd]
          replace x3 := x3.setRow_other (k := p10) (by omega) (List.toArray (s2.c g2 cap2))
          replace x2 := x2.setRow (s2.c g2 cap2)
          replace H2 := H2.setRow (k := (p10)) (by omega) (List.toArray (s2.c g2 cap2))
          have hH : Row (wz.setRow p10 (List.toArray (s2.c g2 cap2))) p1 42 ((full i).c g cap) ∧ S15.Held (wz.setRow p10 (List.toArray (s2.c g2 cap2))) (full i) g cap ∧ Below w.heap.size w (wz.setRow p10 (List.toArray (s2.c g2 cap2))) := ⟨hHeld.1.setRow_other (k := p10) (by omega) (List.toArray (s2.c g2 cap2)), hHeld.2.1.setRow (k := (p10)) (by omega) (List.toArray (s2.c g2 cap2)), below_row hHeld.2.2 (show _ ≤ p10 by omega) (List.toArray (s2.c g2 cap2))⟩
          clear hHeld
          generalize wz.setRow p10 (List.toArray (s2.c g2 cap2)) = v22 at *
          refine hK.out _ _ hH (fun hHeld => ?_)
          clear hH
          clear hK K hd
          try simp only [Act.put]
          refine one_d 17 none rfl (by kernel_rfl) ?_
          intro o ho1 hd K hK
          cases ho1
          refine step_store_row rfl 24 (.tmp 11) (.tmp 46) rfl (p11) ([.int .u64 (o2 : Int), .int .u64 (m2 : Int), .int .u64 (a2 : Int), .int .u64 (o2 : Int), .string d2]) rfl rfl _ _ x3 infoIn rfl (by first | (simp [Value.oneCell']; done) | exact S15.Sn.c_all _ _ _) ?_
          rw [hd]
          replace x3 := x3.setRow ([.int .u64 (o2 : Int), .int .u64 (m2 : Int), .int .u64 (a2 : Int), .int .u64 (o2 : Int), .string d2])
          replace x2 := x2.setRow_other (k := p11) (by omega) (List.toArray ([.int .u64 (o2 : Int), .int .u64 (m2 : Int), .int .u64 (a2 : Int), .int .u64 (o2 : Int), .string d2]))
          replace H2 := H2.setRow (k := (p11)) (by omega) (List.toArray ([.int .u64 (o2 : Int), .int .u64 (m2 : Int), .int .u64 (a2 : Int), .int .u64 (o2 : Int), .string d2]))
          have hH : Row (v22.setRow p11 (List.toArray ([.int .u64 (o2 : Int), .int .u64 (m2 : Int), .int .u64 (a2 : Int), .int .u64 (o2 : Int), .string d2]))) p1 42 ((full i).c g cap) ∧ S15.Held (v22.setRow p11 (List.toArray ([.int .u64 (o2 : Int), .int .u64 (m2 : Int), .int .u64 (a2 : Int), .int .u64 (o2 : Int), .string d2]))) (full i) g cap ∧ Below w.heap.size w (v22.setRow p11 (List.toArray ([.int .u64 (o2 : Int), .int .u64 (m2 : Int), .int .u64 (a2 : Int), .int .u64 (o2 : Int), .string d2]))) := ⟨hHeld.1.setRow_other (k := p11) (by omega) (List.toArray ([.int .u64 (o2 : Int), .int .u64 (m2 : Int), .int .u64 (a2 : Int), .int .u64 (o2 : Int), .string d2])), hHeld.2.1.setRow (k := (p11)) (by omega) (List.toArray ([.int .u64 (o2 : Int), .int .u64 (m2 : Int), .int .u64 (a2 : Int), .int .u64 (o2 : Int), .string d2])), below_row hHeld.2.2 (show _ ≤ p11 by omega) (List.toArray ([.int .u64 (o2 : Int), .int .u64 (m2 : Int), .int .u64 (a2 : Int), .int .u64 (o2 : Int), .string d2]))⟩
          clear hHeld
          generalize v22.setRow p11 (List.toArray ([.int .u64 (o2 : Int), .int .u64 (m2 : Int), .int .u64 (a2 : Int), .int .u64 (o2 : Int), .string d2])) = v23 at *
          refine hK.out _ _ hH (fun hHeld => ?_)
          clear hH
          clear hK K hd
          try simp only [Act.put]
          refine take_d 18 (some 12) (.bool (decide ((i : Int) < 7))) rfl (by kernel_rfl) (by kernel_rfl) (by kernel_rfl) (fun _ _ _ h => h) (fun oi h => by cases h; exact Or.inl ⟨by rfl, fun w' hS' => by go_simp⟩) hHeld ?_
          try simp only [Act.put, List.setIfInBounds_toArray]
          refine wpAnyH_done (by kernel_rfl) ?_ _
          try simp only [Act.put]
          replace x1 := hHeld.1
          replace H0 := hHeld.2.1
          replace bb := hHeld.2.2
          clear hHeld
          have hne := held_ne H2 (by rw [← hs2]; exact HP.out j) x1
          have hne0 := held_ne H0 (HP.out i) x1
          have tok24 : True := True.intro
          go_wp2_with (first | (refine at_op (.load 42 (.tmp 10)) (by with_reducible rfl) ?_; clear tok24; refine wpList_rowT (by rfl) 42 (.tmp 10) rfl (p10) rfl _ _ _ (x2) Try.underlying42 rfl infoSn ?_))
          refine (C4.out g2 cap2 _ H2).mono ?_
          rintro e wa25 ⟨gn, rfl, bwa25⟩
          replace x1 := x1.below bwa25 x1.lt
          replace H0 := H0.keep bwa25
          replace x3 := x3.below bwa25 x3.lt
          replace x2 := x2.below bwa25 x2.lt
          replace H2 := H2.keep bwa25
          replace bb := bb.trans (bwa25.mono bb.size)
          clear bwa25
          have hj1 := hij.out
          rcases Nat.lt_or_ge 8 (i + 2) with hy | hy
          · have hyi : (8 : Int) < (i : Int) + 2 := by omega
            have hm : min j 7 + 1 = 8 := by omega
            rw [hm]
            have yw : IntKind.i64.wrap ((i : Int) + 2) = (i : Int) + 2 := by rw [IntKind.wrap_i64]; omega
            clear hm hj1 hy
            have tok26 : True := True.intro
            have tok27 : True := True.intro
            go_wp2_with (first | (refine at_op (.load 42 (.tmp 10)) (by with_reducible rfl) ?_; clear tok26; refine wpList_load_row rfl 42 (.tmp 10) rfl (p10) rfl _ _ _ _ x2 Try.underlying42 rfl infoSn ?_) | (refine at_op (.store 42 (.tmp 7) (.tmp 61)) (by with_reducible rfl) ?_; clear tok27; refine wpList_store_row rfl 42 (.tmp 7) (.tmp 61) rfl (p1) _ rfl rfl _ _ x1 infoSn rfl (by first | (simp [Value.oneCell']; done) | exact S15.Sn.c_all _ _ _) ?_))
            replace x1 := x1.setRow (s2.c g2 cap2)
            replace H0 := H0.setRow (k := (p1)) (by omega) (List.toArray (s2.c g2 cap2))
            replace x3 := x3.setRow_other (k := p1) (by omega) (List.toArray (s2.c g2 cap2))
            replace x2 := x2.setRow_other (k := p1) (by omega) (List.toArray (s2.c g2 cap2))
            replace H2 := H2.setRow (k := (p1)) (by omega) (List.toArray (s2.c g2 cap2))
            replace bb := below_row bb (show _ ≤ p1 by omega) (List.toArray (s2.c g2 cap2))
            generalize wa25.setRow p1 (List.toArray (s2.c g2 cap2)) = wa28 at *
            go_wp2
            go_roundw
            case rel => exact ⟨j, g2, cap2, by omega, by first | rfl | (rw [hij.out]; go_num), by rw [hs2]; exact x1, by rw [hs2]; exact H2, bb⟩
            case measure => have := hij.out; simp [intOf]; omega
          · have hyi : ¬ (8 : Int) < (i : Int) + 2 := by omega
            have hm : min j 7 + 1 = i + 2 := by omega
            rw [hm]
            have yw : IntKind.i64.wrap ((i : Int) + 2) = (i : Int) + 2 := by rw [IntKind.wrap_i64]; omega
            clear hm hj1 hy
            have tok26 : True := True.intro
            have tok27 : True := True.intro
            go_wp2_with (first | (refine at_op (.load 42 (.tmp 10)) (by with_reducible rfl) ?_; clear tok26; refine wpList_load_row rfl 42 (.tmp 10) rfl (p10) rfl _ _ _ _ x2 Try.underlying42 rfl infoSn ?_) | (refine at_op (.store 42 (.tmp 7) (.tmp 61)) (by with_reducible rfl) ?_; clear tok27; refine wpList_store_row rfl 42 (.tmp 7) (.tmp 61) rfl (p1) _ rfl rfl _ _ x1 infoSn rfl (by first | (simp [Value.oneCell']; done) | exact S15.Sn.c_all _ _ _) ?_))
            replace x1 := x1.setRow (s2.c g2 cap2)
            replace H0 := H0.setRow (k := (p1)) (by omega) (List.toArray (s2.c g2 cap2))
            replace x3 := x3.setRow_other (k := p1) (by omega) (List.toArray (s2.c g2 cap2))
            replace x2 := x2.setRow_other (k := p1) (by omega) (List.toArray (s2.c g2 cap2))
            replace H2 := H2.setRow (k := (p1)) (by omega) (List.toArray (s2.c g2 cap2))
            replace bb := below_row bb (show _ ≤ p1 by omega) (List.toArray (s2.c g2 cap2))
            generalize wa25.setRow p1 (List.toArray (s2.c g2 cap2)) = wa28 at *
            go_wp2
            go_roundw
            case rel => exact ⟨j, g2, cap2, by omega, by first | rfl | (rw [hij.out]; go_num), by rw [hs2]; exact x1, by rw [hs2]; exact H2, bb⟩
            case measure => have := hij.out; simp [intOf]; omega
      · obtain rfl : i = k := by omega
        have hkk := HK.out
        by_cases h7 : 7 < i
        · have y3 : IntKind.u64.wrap (i : Int) = (i : Int) := by rw [IntKind.wrap_u64]; omega
          have e7 : ¬ (i : Int) ≤ 7 := by omega
          have e8 : (7 : Int) < (i : Int) := by omega
          have hm : min i 7 = 7 := by omega
          have CA1 := fun g cap wx hx => CA.out i g cap wx (by omega) hx
          rw [hm] at CA1
          have CA2 := Lib.hid CA1
          clear CA1 hm
          have tok701 : True := True.intro
          go_wp2_with (first | (refine at_op (.load 42 (.tmp 7)) (by with_reducible rfl) ?_; clear tok701; refine wpList_load_row rfl 42 (.tmp 7) rfl (p1) rfl _ _ _ _ x1 Try.underlying42 rfl infoSn ?_))
          rw [show min (i : Int) 7 = ((7 : Nat) : Int) by omega]
          refine (CA2.out g cap _ H0).mono ?_
          rintro e wa702 ⟨g3, cap3, rfl, H3, bwa702⟩
          replace x1 := x1.below bwa702 x1.lt
          replace H0 := H0.keep bwa702
          replace bb := bb.trans (bwa702.mono bb.size)
          clear bwa702
          obtain ⟨s4, hs4⟩ : ∃ s, s = (kn i).grown i := ⟨_, rfl⟩
          have CK1 := fun g cap wx hx => CK.out g cap wx h7 hx
          have CZ1 := fun g cap wx hx => CZ.out g cap wx h7 hx
          obtain ⟨DD, hDD⟩ : ∃ D, D = rep 7 ++ ⟨#[62]⟩ ++ rep i := ⟨_, rfl⟩
          rw [← hs4] at CK1 CZ1
          rw [← hDD] at CZ1
          have CK1' := Lib.hid CK1
          have CZ1' := Lib.hid CZ1
          have HDD := Lib.hid hDD
          clear hs4 CK1 CZ1 hDD
          go_wp2_with fail
          refine (CZ1'.out g3 cap3 _ H3).mono ?_
          rintro e wa703 ⟨g4, cap4, rfl, H4, bwa703⟩
          replace x1 := x1.below bwa703 x1.lt
          replace H0 := H0.keep bwa703
          replace H3 := H3.keep bwa703
          replace bb := bb.trans (bwa703.mono bb.size)
          clear bwa703
          have x4 : Row ((wa703.alloc (.cells #[.nilFunc, .nilFunc, .string ⟨#[]⟩, .slice none 0 0, .int .u64 0] 42 (0, 0))).alloc (.cells #[.int .u64 0, .int .u64 0, .int .u64 0, .int .u64 0, .string ⟨#[]⟩] 24 (0, 0))) wa703.heap.size 42 ([.nilFunc, .nilFunc, .string ⟨#[]⟩, .slice none 0 0, .int .u64 0]) := (Row.new' rfl rfl).alloc _
          have x5 : Row ((wa703.alloc (.cells #[.nilFunc, .nilFunc, .string ⟨#[]⟩, .slice none 0 0, .int .u64 0] 42 (0, 0))).alloc (.cells #[.int .u64 0, .int .u64 0, .int .u64 0, .int .u64 0, .string ⟨#[]⟩] 24 (0, 0))) (wa703.heap.size + 1) 24 ([.int .u64 0, .int .u64 0, .int .u64 0, .int .u64 0, .string ⟨#[]⟩]) := Row.new' rfl (by simp)
          have lx1x4 : p1 < wa703.heap.size := x1.lt
          have lH0x4 : g < wa703.heap.size := H0.lt
          have lH3x4 : g3 < wa703.heap.size := H3.lt
          have lH4x4 : g4 < wa703.heap.size := H4.lt
          have lzx4 := bb.size
          replace x1 := ((x1).alloc (.cells #[.nilFunc, .nilFunc, .string ⟨#[]⟩, .slice none 0 0, .int .u64 0] 42 (0, 0))).alloc (.cells #[.int .u64 0, .int .u64 0, .int .u64 0, .int .u64 0, .string ⟨#[]⟩] 24 (0, 0))
          replace H0 := ((H0).alloc (.cells #[.nilFunc, .nilFunc, .string ⟨#[]⟩, .slice none 0 0, .int .u64 0] 42 (0, 0))).alloc (.cells #[.int .u64 0, .int .u64 0, .int .u64 0, .int .u64 0, .string ⟨#[]⟩] 24 (0, 0))
          replace H3 := ((H3).alloc (.cells #[.nilFunc, .nilFunc, .string ⟨#[]⟩, .slice none 0 0, .int .u64 0] 42 (0, 0))).alloc (.cells #[.int .u64 0, .int .u64 0, .int .u64 0, .int .u64 0, .string ⟨#[]⟩] 24 (0, 0))
          replace H4 := ((H4).alloc (.cells #[.nilFunc, .nilFunc, .string ⟨#[]⟩, .slice none 0 0, .int .u64 0] 42 (0, 0))).alloc (.cells #[.int .u64 0, .int .u64 0, .int .u64 0, .int .u64 0, .string ⟨#[]⟩] 24 (0, 0))
          replace bb := ((bb).alloc bb.size (.cells #[.nilFunc, .nilFunc, .string ⟨#[]⟩, .slice none 0 0, .int .u64 0] 42 (0, 0))).alloc (by simp; omega) (.cells #[.int .u64 0, .int .u64 0, .int .u64 0, .int .u64 0, .string ⟨#[]⟩] 24 (0, 0))
          have tok704 : True := True.intro
          have tok705 : True := True.intro
          go_wp2_with (first | (refine at_op (.store 42 (.tmp 14) (.tmp 75)) (by with_reducible rfl) ?_; clear tok704; refine wpList_store_row rfl 42 (.tmp 14) (.tmp 75) rfl (wa703.heap.size) _ rfl rfl _ _ x4 infoSn rfl (by first | (simp [Value.oneCell']; done) | exact S15.Sn.c_all _ _ _) ?_) | (refine at_op (.store 24 (.tmp 15) (.tmp 76)) (by with_reducible rfl) ?_; clear tok705; refine wpList_store_row rfl 24 (.tmp 15) (.tmp 76) rfl ((wa703.heap.size + 1)) _ rfl rfl _ _ ((x5).setRow_other (k := wa703.heap.size) (by omega) (List.toArray (s4.c g4 cap4))) infoIn rfl (by first | (simp [Value.oneCell']; done) | exact S15.Sn.c_all _ _ _) ?_))
          obtain ⟨p4, hp4⟩ : ∃ p4, p4 = wa703.heap.size := ⟨_, rfl⟩
          rw [← hp4] at x4 x5 lx1x4 lH0x4 lH3x4 lH4x4 lzx4 ⊢
          generalize (wa703.alloc (.cells #[.nilFunc, .nilFunc, .string ⟨#[]⟩, .slice none 0 0, .int .u64 0] 42 (0, 0))).alloc (.cells #[.int .u64 0, .int .u64 0, .int .u64 0, .int .u64 0, .string ⟨#[]⟩] 24 (0, 0)) = wa706 at *
          clear hp4
          replace x1 := x1.setRow_other (k := p4) (by omega) (List.toArray (s4.c g4 cap4))
          replace H0 := H0.setRow (k := (p4)) (by omega) (List.toArray (s4.c g4 cap4))
          replace H3 := H3.setRow (k := (p4)) (by omega) (List.toArray (s4.c g4 cap4))
          replace H4 := H4.setRow (k := (p4)) (by omega) (List.toArray (s4.c g4 cap4))
          replace x4 := x4.setRow (s4.c g4 cap4)
          replace x5 := x5.setRow_other (k := p4) (by omega) (List.toArray (s4.c g4 cap4))
          replace bb := below_row bb (show _ ≤ p4 by omega) (List.toArray (s4.c g4 cap4))
          generalize wa706.setRow p4 (List.toArray (s4.c g4 cap4)) = wa707 at *
          replace x1 := x1.setRow_other (k := (p4 + 1)) (by omega) (List.toArray ([.int .u64 7, .int .u64 8, .int .u64 3, .int .u64 7, .string DD]))
          replace H0 := H0.setRow (k := ((p4 + 1))) (by omega) (List.toArray ([.int .u64 7, .int .u64 8, .int .u64 3, .int .u64 7, .string DD]))
          replace H3 := H3.setRow (k := ((p4 + 1))) (by omega) (List.toArray ([.int .u64 7, .int .u64 8, .int .u64 3, .int .u64 7, .string DD]))
          replace H4 := H4.setRow (k := ((p4 + 1))) (by omega) (List.toArray ([.int .u64 7, .int .u64 8, .int .u64 3, .int .u64 7, .string DD]))
          replace x4 := x4.setRow_other (k := (p4 + 1)) (by omega) (List.toArray ([.int .u64 7, .int .u64 8, .int .u64 3, .int .u64 7, .string DD]))
          replace x5 := x5.setRow ([.int .u64 7, .int .u64 8, .int .u64 3, .int .u64 7, .string DD])
          replace bb := below_row bb (show _ ≤ (p4 + 1) by omega) (List.toArray ([.int .u64 7, .int .u64 8, .int .u64 3, .int .u64 7, .string DD]))
          generalize wa707.setRow ((p4 + 1)) (List.toArray ([.int .u64 7, .int .u64 8, .int .u64 3, .int .u64 7, .string DD])) = wa708 at *
          have hDD := HDD.out
          clear HDD
          obtain ⟨EE, hEE⟩ : ∃ E, E = rep 7 ++ ⟨#[62]⟩ := ⟨_, rfl⟩
          have HE : Hid (rep 7 ++ ⟨#[62]⟩ = EE) := hEE.symm
          have HD : Hid (EE ++ rep i = DD) := by show _ = _; rw [hDD, hEE]
          have sE : EE.size = 8 := by rw [hEE, ByteArray.size_append, HR.out]; rfl
          have s7 := HR.out 7
          have si := HR.out i
          have C7 := Lib.hid (fun wx => CRp.out 7 wx (by decide))
          have Ck := Lib.hid (fun wx => CRp.out i wx (by omega))
          clear hDD hEE
          generalize rep 7 = R7 at *
          generalize rep i = Ri at *
          refine wp_region_held_drew (S := fun w' => S15.Held w' s4 g4 cap4 ∧ Row w' p4 42 (s4.c g4 cap4) ∧ Row w' (p4 + 1) 24 [.int .u64 7, .int .u64 8, .int .u64 3, .int .u64 7, .string DD] ∧ Below w.heap.size w w') (by kernel_rfl) (⟨H4.drew, x4.drew, x5.drew, bb.drew⟩) (fun hHeld => ?_)
          refine take_d 0 (some 88) (.bool true) rfl (by kernel_rfl) (by kernel_rfl) (by kernel_rfl) (fun _ _ _ h => h) (fun oi h => by cases h; exact Or.inl ⟨by rfl, fun w' hS' => by go_simp⟩) hHeld ?_
          try simp only [Act.put, List.setIfInBounds_toArray, List.set_cons_zero, List.set_cons_succ]
          refine take_d 1 (some 89) (.bool true) rfl (by kernel_rfl) (by kernel_rfl) (by kernel_rfl) (fun _ _ _ h => h) (fun oi h => by cases h; exact Or.inl ⟨by rfl, fun w' hS' => by go_simp⟩) hHeld ?_
          try simp only [Act.put, List.setIfInBounds_toArray, List.set_cons_zero, List.set_cons_succ]
          refine take_d 2 (some 90) (.agg #[.int .u64 7, .int .u64 8, .int .u64 3, .int .u64 7, .string DD]) rfl (by kernel_rfl) (by kernel_rfl) (by kernel_rfl) (fun _ _ _ h => h) (fun oi h => by cases h; exact yieldsIf_load_mid (by rfl) 24 (.tmp 15) rfl (p4 + 1) 0 rfl [.int .u64 7, .int .u64 8, .int .u64 3, .int .u64 7, .string DD] _ (fun w' hS' => hS'.2.2.1.range) Try.underlying24 rfl infoIn) hHeld ?_
          try simp only [Act.put, List.setIfInBounds_toArray, List.set_cons_zero, List.set_cons_succ]
          refine take_d 5 (some 93) (.int .i64 (i : Int)) rfl (by kernel_rfl) (by kernel_rfl) (by kernel_rfl) (fun _ _ _ h => h) (fun oi h => by cases h; exact Or.inl ⟨by rfl, fun w' hS' => by go_simp⟩) hHeld ?_
          try simp only [Act.put, List.setIfInBounds_toArray, List.set_cons_zero, List.set_cons_succ]
          refine one_d 3 (some 91) rfl (by kernel_rfl) ?_
          intro o ho hd K hK
          cases ho
          go_simp
          refine (C7.out _).mono ?_
          rintro e v1 ⟨rfl, bb⟩
          have hHeld' := hHeld
          clear hHeld
          have hHeld := hHeld'
          clear hHeld'
          refine hK.out _ _ (⟨hHeld.1.keep bb, hHeld.2.1.below bb hHeld.2.1.lt, hHeld.2.2.1.below bb hHeld.2.2.1.lt, hHeld.2.2.2.trans (bb.mono hHeld.2.2.2.size)⟩) (fun hHeld => ?_)
          clear hK K hd bb
          try simp only [Act.put, List.setIfInBounds_toArray, List.set_cons_zero, List.set_cons_succ]
          refine take_d 4 (some 92) (.string EE) rfl (by kernel_rfl) (by kernel_rfl) (by kernel_rfl) (fun _ _ _ h => h) (fun oi h => by cases h; exact Or.inl ⟨by rfl, fun w' hS' => by have hx := HE.out; have hz : R7.size + 1 ≤ 9223372036854775807 := (by omega); have hz2 : R7.size + (⟨#[62]⟩ : ByteArray).size ≤ 9223372036854775807 := (by show R7.size + 1 ≤ _; omega); go_simp⟩) hHeld ?_
          try simp only [Act.put, List.setIfInBounds_toArray, List.set_cons_zero, List.set_cons_succ]
          refine one_d 6 (some 94) rfl (by kernel_rfl) ?_
          intro o ho hd K hK
          cases ho
          go_simp
          refine (Ck.out _).mono ?_
          rintro e v2 ⟨rfl, bb⟩
          have hHeld' := hHeld
          clear hHeld
          have hHeld := hHeld'
          clear hHeld'
          refine hK.out _ _ (⟨hHeld.1.keep bb, hHeld.2.1.below bb hHeld.2.1.lt, hHeld.2.2.1.below bb hHeld.2.2.1.lt, hHeld.2.2.2.trans (bb.mono hHeld.2.2.2.size)⟩) (fun hHeld => ?_)
          clear hK K hd bb
          try simp only [Act.put, List.setIfInBounds_toArray, List.set_cons_zero, List.set_cons_succ]
          refine take_d 7 (some 95) (.string DD) rfl (by kernel_rfl) (by kernel_rfl) (by kernel_rfl) (fun _ _ _ h => h) (fun oi h => by cases h; exact Or.inl ⟨by rfl, fun w' hS' => by have hx := HD.out; have hz : EE.size + Ri.size ≤ 9223372036854775807 := (by omega); have hz3 : 8 + i ≤ 9223372036854775807 := (by omega); go_simp⟩) hHeld ?_
          try simp only [Act.put, List.setIfInBounds_toArray, List.set_cons_zero, List.set_cons_succ]
          refine take_d 8 (some 96) (.agg #[.int .u64 7, .int .u64 8, .int .u64 3, .int .u64 7, .string DD]) rfl (by kernel_rfl) (by kernel_rfl) (by kernel_rfl) (fun _ _ _ h => h) (fun oi h => by cases h; exact Or.inl ⟨by rfl, fun w' hS' => by go_simp⟩) hHeld ?_
          try simp only [Act.put, List.setIfInBounds_toArray, List.set_cons_zero, List.set_cons_succ]
          refine take_d 9 (some 97) (.bool true) rfl (by kernel_rfl) (by kernel_rfl) (by kernel_rfl) (fun _ _ _ h => h) (fun oi h => by cases h; exact Or.inl ⟨by rfl, fun w' hS' => by go_simp⟩) hHeld ?_
          try simp only [Act.put, List.setIfInBounds_toArray, List.set_cons_zero, List.set_cons_succ]
          refine take_d 10 (some 98) (.bool true) rfl (by kernel_rfl) (by kernel_rfl) (by kernel_rfl) (fun _ _ _ h => h) (fun oi h => by cases h; exact Or.inl ⟨by rfl, fun w' hS' => by go_simp⟩) hHeld ?_
          try simp only [Act.put, List.setIfInBounds_toArray, List.set_cons_zero, List.set_cons_succ]
          refine take_d 11 (some 99) (.bool true) rfl (by kernel_rfl) (by kernel_rfl) (by kernel_rfl) (fun _ _ _ h => h) (fun oi h => by cases h; exact Or.inl ⟨by rfl, fun w' hS' => by go_simp⟩) hHeld ?_
          try simp only [Act.put, List.setIfInBounds_toArray, List.set_cons_zero, List.set_cons_succ]
          refine take_d 12 (some 100) (.agg (s4.c g4 cap4).toArray) rfl (by kernel_rfl) (by kernel_rfl) (by kernel_rfl) (fun _ _ _ h => h) (fun oi h => by cases h; exact yieldsIf_load_mid (by rfl) 42 (.tmp 14) rfl p4 0 rfl (s4.c g4 cap4) _ (fun w' hS' => hS'.2.1.range) Try.underlying42 rfl infoSn) hHeld ?_
          try simp only [Act.put, List.setIfInBounds_toArray, List.set_cons_zero, List.set_cons_succ]
          refine one_d 13 (some 101) rfl (by kernel_rfl) ?_
          intro o ho hd K hK
          cases ho
          go_simp
          refine (CK1'.out g4 cap4 _ hHeld.1).mono ?_
          rintro e v3 ⟨s3, g5, cap5, rfl, H5, CQ5, bb⟩
          have hHeld' := hHeld
          clear hHeld
          have hHeld := hHeld'
          clear hHeld'
          refine hK.out _ _ (⟨hHeld.1.keep bb, hHeld.2.1.below bb hHeld.2.1.lt, hHeld.2.2.1.below bb hHeld.2.2.1.lt, hHeld.2.2.2.trans (bb.mono hHeld.2.2.2.size)⟩) (fun hHeld => ?_)
          clear hK K hd bb
          try simp only [Act.put, List.setIfInBounds_toArray, List.set_cons_zero, List.set_cons_succ]
          refine one_d 14 (some 102) rfl (by kernel_rfl) ?_
          intro o ho hd K hK
          cases ho
          go_simp
          refine (CQ5 _ H5).mono ?_
          rintro e v4 ⟨rfl, bb⟩
          have hHeld' := hHeld
          clear hHeld
          have hHeld := hHeld'
          clear hHeld'
          refine hK.out _ _ (⟨hHeld.1.keep bb, hHeld.2.1.below bb hHeld.2.1.lt, hHeld.2.2.1.below bb hHeld.2.2.1.lt, hHeld.2.2.2.trans (bb.mono hHeld.2.2.2.size)⟩) (fun hHeld => ?_)
          clear hK K hd bb
          try simp only [Act.put, List.setIfInBounds_toArray, List.set_cons_zero, List.set_cons_succ]
          refine take_d 15 (some 103) (.bool true) rfl (by kernel_rfl) (by kernel_rfl) (by kernel_rfl) (fun _ _ _ h => h) (fun oi h => by cases h; exact Or.inl ⟨by rfl, fun w' hS' => by go_simp⟩) hHeld ?_
          try simp only [Act.put, List.setIfInBounds_toArray, List.set_cons_zero, List.set_cons_succ]
          refine take_d 16 (some 6) (.bool true) rfl (by kernel_rfl) (by kernel_rfl) (by kernel_rfl) (fun _ _ _ h => h) (fun oi h => by cases h; exact Or.inl ⟨by rfl, fun w' hS' => by go_simp⟩) hHeld ?_
          try simp only [Act.put, List.setIfInBounds_toArray, List.set_cons_zero, List.set_cons_succ]
          refine wpAnyH_done (by kernel_rfl) ?_ _
          try simp only [Act.put]
          have hb := hHeld.2.2.2
          go_wp2
          go_ret
          exact ⟨rfl, hb⟩
        · replace h7 : i ≤ 7 := by omega
          have y3 : IntKind.u64.wrap (i : Int) = (i : Int) := by rw [IntKind.wrap_u64]; omega
          have e7 : (i : Int) ≤ 7 := by omega
          have e8 : ¬ (7 : Int) < (i : Int) := by omega
          have hm : min i 7 = i := by omega
          have CA1 := fun g cap wx hx => CA.out i g cap wx (by omega) hx
          rw [hm] at CA1
          have CA2 := Lib.hid CA1
          clear CA1 hm
          have tok701 : True := True.intro
          go_wp2_with (first | (refine at_op (.load 42 (.tmp 7)) (by with_reducible rfl) ?_; clear tok701; refine wpList_load_row rfl 42 (.tmp 7) rfl (p1) rfl _ _ _ _ x1 Try.underlying42 rfl infoSn ?_))
          rw [show min (i : Int) 7 = (i : Int) by omega]
          refine (CA2.out g cap _ H0).mono ?_
          rintro e wa702 ⟨g3, cap3, rfl, H3, bwa702⟩
          replace x1 := x1.below bwa702 x1.lt
          replace H0 := H0.keep bwa702
          replace bb := bb.trans (bwa702.mono bb.size)
          clear bwa702
          go_wp2_with fail
          refine (CY.out g3 cap3 _ h7 H3).mono ?_
          rintro e wa703 ⟨s4, g4, cap4, o4, m4, a4, d4, rfl, H4, bwa703⟩
          replace x1 := x1.below bwa703 x1.lt
          replace H0 := H0.keep bwa703
          replace H3 := H3.keep bwa703
          replace bb := bb.trans (bwa703.mono bb.size)
          clear bwa703
          have x4 : Row ((wa703.alloc (.cells #[.nilFunc, .nilFunc, .string ⟨#[]⟩, .slice none 0 0, .int .u64 0] 42 (0, 0))).alloc (.cells #[.int .u64 0, .int .u64 0, .int .u64 0, .int .u64 0, .string ⟨#[]⟩] 24 (0, 0))) wa703.heap.size 42 ([.nilFunc, .nilFunc, .string ⟨#[]⟩, .slice none 0 0, .int .u64 0]) := (Row.new' rfl rfl).alloc _
          have x5 : Row ((wa703.alloc (.cells #[.nilFunc, .nilFunc, .string ⟨#[]⟩, .slice none 0 0, .int .u64 0] 42 (0, 0))).alloc (.cells #[.int .u64 0, .int .u64 0, .int .u64 0, .int .u64 0, .string ⟨#[]⟩] 24 (0, 0))) (wa703.heap.size + 1) 24 ([.int .u64 0, .int .u64 0, .int .u64 0, .int .u64 0, .string ⟨#[]⟩]) := Row.new' rfl (by simp)
          have lx1x4 : p1 < wa703.heap.size := x1.lt
          have lH0x4 : g < wa703.heap.size := H0.lt
          have lH3x4 : g3 < wa703.heap.size := H3.lt
          have lH4x4 : g4 < wa703.heap.size := H4.lt
          have lzx4 := bb.size
          replace x1 := ((x1).alloc (.cells #[.nilFunc, .nilFunc, .string ⟨#[]⟩, .slice none 0 0, .int .u64 0] 42 (0, 0))).alloc (.cells #[.int .u64 0, .int .u64 0, .int .u64 0, .int .u64 0, .string ⟨#[]⟩] 24 (0, 0))
          replace H0 := ((H0).alloc (.cells #[.nilFunc, .nilFunc, .string ⟨#[]⟩, .slice none 0 0, .int .u64 0] 42 (0, 0))).alloc (.cells #[.int .u64 0, .int .u64 0, .int .u64 0, .int .u64 0, .string ⟨#[]⟩] 24 (0, 0))
          replace H3 := ((H3).alloc (.cells #[.nilFunc, .nilFunc, .string ⟨#[]⟩, .slice none 0 0, .int .u64 0] 42 (0, 0))).alloc (.cells #[.int .u64 0, .int .u64 0, .int .u64 0, .int .u64 0, .string ⟨#[]⟩] 24 (0, 0))
          replace H4 := ((H4).alloc (.cells #[.nilFunc, .nilFunc, .string ⟨#[]⟩, .slice none 0 0, .int .u64 0] 42 (0, 0))).alloc (.cells #[.int .u64 0, .int .u64 0, .int .u64 0, .int .u64 0, .string ⟨#[]⟩] 24 (0, 0))
          replace bb := ((bb).alloc bb.size (.cells #[.nilFunc, .nilFunc, .string ⟨#[]⟩, .slice none 0 0, .int .u64 0] 42 (0, 0))).alloc (by simp; omega) (.cells #[.int .u64 0, .int .u64 0, .int .u64 0, .int .u64 0, .string ⟨#[]⟩] 24 (0, 0))
          have tok704 : True := True.intro
          have tok705 : True := True.intro
          have tok706 : True := True.intro
          go_wp2_with (first | (refine at_op (.store 42 (.tmp 14) (.tmp 75)) (by with_reducible rfl) ?_; clear tok704; refine wpList_store_row rfl 42 (.tmp 14) (.tmp 75) rfl (wa703.heap.size) _ rfl rfl _ _ x4 infoSn rfl (by first | (simp [Value.oneCell']; done) | exact S15.Sn.c_all _ _ _) ?_) | (refine at_op (.store 24 (.tmp 15) (.tmp 76)) (by with_reducible rfl) ?_; clear tok705; refine wpList_store_row rfl 24 (.tmp 15) (.tmp 76) rfl ((wa703.heap.size + 1)) _ rfl rfl _ _ ((x5).setRow_other (k := wa703.heap.size) (by omega) (List.toArray (s4.c g4 cap4))) infoIn rfl (by first | (simp [Value.oneCell']; done) | exact S15.Sn.c_all _ _ _) ?_) | (refine at_op (.load 42 (.tmp 7)) (by with_reducible rfl) ?_; clear tok706; refine wpList_rowT (by rfl) 42 (.tmp 7) rfl (p1) rfl _ _ _ (((x1).setRow_other (k := wa703.heap.size) (by omega) (List.toArray (s4.c g4 cap4))).setRow_other (k := (wa703.heap.size + 1)) (by omega) (List.toArray ([.int .u64 (o4 : Int), .int .u64 (m4 : Int), .int .u64 (a4 : Int), .int .u64 (o4 : Int), .string d4]))) Try.underlying42 rfl infoSn ?_))
          obtain ⟨p4, hp4⟩ : ∃ p4, p4 = wa703.heap.size := ⟨_, rfl⟩
          rw [← hp4] at x4 x5 lx1x4 lH0x4 lH3x4 lH4x4 lzx4 ⊢
          generalize (wa703.alloc (.cells #[.nilFunc, .nilFunc, .string ⟨#[]⟩, .slice none 0 0, .int .u64 0] 42 (0, 0))).alloc (.cells #[.int .u64 0, .int .u64 0, .int .u64 0, .int .u64 0, .string ⟨#[]⟩] 24 (0, 0)) = wa707 at *
          clear hp4
          replace x1 := x1.setRow_other (k := p4) (by omega) (List.toArray (s4.c g4 cap4))
          replace H0 := H0.setRow (k := (p4)) (by omega) (List.toArray (s4.c g4 cap4))
          replace H3 := H3.setRow (k := (p4)) (by omega) (List.toArray (s4.c g4 cap4))
          replace H4 := H4.setRow (k := (p4)) (by omega) (List.toArray (s4.c g4 cap4))
          replace x4 := x4.setRow (s4.c g4 cap4)
          replace x5 := x5.setRow_other (k := p4) (by omega) (List.toArray (s4.c g4 cap4))
          replace bb := below_row bb (show _ ≤ p4 by omega) (List.toArray (s4.c g4 cap4))
          generalize wa707.setRow p4 (List.toArray (s4.c g4 cap4)) = wa708 at *
          replace x1 := x1.setRow_other (k := (p4 + 1)) (by omega) (List.toArray ([.int .u64 (o4 : Int), .int .u64 (m4 : Int), .int .u64 (a4 : Int), .int .u64 (o4 : Int), .string d4]))
          replace H0 := H0.setRow (k := ((p4 + 1))) (by omega) (List.toArray ([.int .u64 (o4 : Int), .int .u64 (m4 : Int), .int .u64 (a4 : Int), .int .u64 (o4 : Int), .string d4]))
          replace H3 := H3.setRow (k := ((p4 + 1))) (by omega) (List.toArray ([.int .u64 (o4 : Int), .int .u64 (m4 : Int), .int .u64 (a4 : Int), .int .u64 (o4 : Int), .string d4]))
          replace H4 := H4.setRow (k := ((p4 + 1))) (by omega) (List.toArray ([.int .u64 (o4 : Int), .int .u64 (m4 : Int), .int .u64 (a4 : Int), .int .u64 (o4 : Int), .string d4]))
          replace x4 := x4.setRow_other (k := (p4 + 1)) (by omega) (List.toArray ([.int .u64 (o4 : Int), .int .u64 (m4 : Int), .int .u64 (a4 : Int), .int .u64 (o4 : Int), .string d4]))
          replace x5 := x5.setRow ([.int .u64 (o4 : Int), .int .u64 (m4 : Int), .int .u64 (a4 : Int), .int .u64 (o4 : Int), .string d4])
          replace bb := below_row bb (show _ ≤ (p4 + 1) by omega) (List.toArray ([.int .u64 (o4 : Int), .int .u64 (m4 : Int), .int .u64 (a4 : Int), .int .u64 (o4 : Int), .string d4]))
          generalize wa708.setRow ((p4 + 1)) (List.toArray ([.int .u64 (o4 : Int), .int .u64 (m4 : Int), .int .u64 (a4 : Int), .int .u64 (o4 : Int), .string d4])) = wa709 at *
          refine (CA2.out g cap _ H0).mono ?_
          rintro e wa710 ⟨g6, cap6, rfl, H6, bwa710⟩
          replace x1 := x1.below bwa710 x1.lt
          replace H0 := H0.keep bwa710
          replace H3 := H3.keep bwa710
          replace H4 := H4.keep bwa710
          replace x4 := x4.below bwa710 x4.lt
          replace x5 := x5.below bwa710 x5.lt
          replace bb := bb.trans (bwa710.mono bb.size)
          clear bwa710
          go_wp2_with fail
          refine (CQ.out g6 cap6 _ h7 H6).mono ?_
          rintro e wa711 ⟨rfl, bwa711⟩
          replace x1 := x1.below bwa711 x1.lt
          replace H0 := H0.keep bwa711
          replace H3 := H3.keep bwa711
          replace H4 := H4.keep bwa711
          replace x4 := x4.below bwa711 x4.lt
          replace x5 := x5.below bwa711 x5.lt
          replace bb := bb.trans (bwa711.mono bb.size)
          clear bwa711
          go_wp2
          go_ret
          exact ⟨rfl, bb⟩
  · by_cases hc : wt < 100
    · have g1 : (wt : Int) < 100 := by omega
      clear hb
      have bb : Below w.heap.size w w := Below.refl _ _
      go_enter Try.func7, Try.ntmps7
      go_wp2_with fail
      refine (CL.out _).mono ?_
      rintro e wa2 ⟨rfl, bwa2⟩
      replace bb := bb.trans (bwa2.mono bb.size)
      clear bwa2
      go_wp2
      go_ret
      exact ⟨rfl, bb⟩
    · have g1 : ¬ (wt : Int) < 100 := by omega
      have g2 : (bt : Int) < 100 := by omega
      clear hb
      have bb : Below w.heap.size w w := Below.refl _ _
      go_enter Try.func7, Try.ntmps7
      go_wp2_with fail
      refine (CL.out _).mono ?_
      rintro e wa2 ⟨rfl, bwa2⟩
      replace bb := bb.trans (bwa2.mono bb.size)
      clear bwa2
      go_wp2
      go_ret
      exact ⟨rfl, bb⟩

end Go.Proofs.Ytglfbmgnndebiaa.SenderFullW
