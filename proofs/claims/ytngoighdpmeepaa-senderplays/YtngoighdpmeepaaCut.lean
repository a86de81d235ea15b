/-
  Layer 1: what word.Cut comes to, at every text of at most 2^48 bytes and every list of at most 2^40 sizes.
-/
import Derived.Test.YtngoighdpmeepaaRows
import Derived.Test.YtngoighdpmeepaaCutPlain
import Derived.Test.YtngoighdpmeepaaShelf
import Derived.WalkKit
import Derived.WalkSpells
import Derived.WalkLawsBesides
import Derived.Below
import Derived.OwnWalk
import Derived.Lib.Hide
namespace Go.Proofs.Ytngoighdpmeepaa
open Go.RowKit
set_option linter.unusedVariables false

theorem infoString : (Try.prog.info? 9).map (fun i => (i.zero, i.size, i.bytes)) = some (some (.string ⟨#[]⟩), 1, 16) := by kernel_rfl

theorem own_below {w w' : World} {B e size n : Nat} {v : Value} {xs : List Value} (h : w.ownsRow B e size v n xs) (hb : Below w.heap.size w w') : w'.ownsRow B e size v n xs :=
  h.kept (row := none) ⟨hb.os, hb.tape, hb.output, hb.size, fun k hk _ => hb.block k hk⟩ (by cases v <;> simp [Value.ownBlock] <;> (rename_i a _ _; cases a <;> simp))

/-- strings.Clone. -/
theorem clone_any (s : ByteArray) (w : World) (hs : s.size ≤ 281474976710656) :
    Calls Try.prog 50 #[.string s] w fun e w' => e = .returned (.string s) ∧ Below w.heap.size w w' := by
  go_enter Try.func50, Try.ntmps50
  go_wp2_with (go_at_call 59; refine (Try.stringslite_Clone s _ hs).mono ?_; rintro e w' ⟨rfl, hb⟩)
  go_ret
  exact ⟨rfl, hb⟩

/-- What a list of whole numbers that came in is: cells that lie below B. -/
def IsInts (w : World) (B : Nat) (ao : Option Addr) (zs : List Int) : Prop :=
  0 < zs.length → ∃ b off, ao = some ⟨b, off, none⟩ ∧ b < B ∧ ∀ i, i < zs.length → w.cell? ⟨b, off + i, none⟩ = some (.int .i64 (zs.getD i 0))

/-- A slice of whole numbers that came in: nil; or a row of cells, the numbers zs, of which the first len are its elements. -/
def IsRow (k : IntKind) (w : World) (a : Option Addr) (len cap : Nat) (zs : List Int) : Prop :=
  (a = none ∧ len = 0 ∧ cap = 0 ∧ zs = []) ∨
  ∃ x, a = some x ∧ len ≤ cap ∧ cap ≤ maxLen ∧ zs.length = cap ∧ (∀ i, i < zs.length → w.cell? (x.add i) = some (.int k (zs.getD i 0))) ∧ ∀ n ∈ zs, (Lit.int k n).wf = true

theorem block_lt {w : World} {p : Addr} {v : Value} (h : w.cell? p = some v) : p.block < w.heap.size := by
  by_cases hlt : p.block < w.heap.size
  · exact hlt
  · have : w.heap[p.block]? = none := Array.getElem?_eq_none (by omega)
    simp [World.cell?, this] at h

theorem IsRow.ints {w : World} {a : Option Addr} {len cap : Nat} {zs : List Int} (h : IsRow .i64 w a len cap zs) : IsInts w w.heap.size a (zs.take len) ∧ (zs.take len).length = len := by
  rcases h with ⟨rfl, rfl, rfl, rfl⟩ | ⟨x, rfl, hl, hm, hz, hcell, hwz⟩
  · exact ⟨fun h => absurd h (by simp), rfl⟩
  · have hlen : (zs.take len).length = len := by simp; omega
    refine ⟨fun h => ?_, hlen⟩
    obtain ⟨b, off, spot⟩ := x
    have hc := hcell 0 (by omega)
    have hspot : spot = none := by simpa [Addr.add] using World.cell?_spot hc
    subst hspot
    refine ⟨b, off, rfl, by simpa [Addr.add] using block_lt hc, fun i hi => ?_⟩
    have := hcell i (by omega)
    have ea : (⟨b, off, none⟩ : Addr).add i = ⟨b, off + i, none⟩ := by unfold Addr.add; split <;> simp_all
    rw [ea] at this
    rw [this]
    simp only [List.getD_eq_getElem?_getD]
    rw [List.getElem?_take_of_lt (by omega)]

set_option maxHeartbeats 1000000 in
/-- word.Cut. -/
theorem cut_any (s : List UInt8) (ao : Option Addr) (cap : Nat) (zs : List Int) (w : World) (hs : s.length ≤ 281474976710656) (hl : zs.length ≤ 1099511627776) (hz : IsInts w w.heap.size ao zs) :
    Calls Try.prog 29 #[.string ⟨s.toArray⟩, .slice ao zs.length cap] w fun e w' => ∃ v, e = .returned (.tuple #[v, .int .i64 (W.cutE s zs).2]) ∧
      (((W.cutE s zs).2 = 0 ∧ v = .slice (some ⟨w.heap.size, 0, none⟩) (zs.length + 1) (zs.length + 1) ∧ (W.cutE s zs).1.length = zs.length + 1 ∧ w'.ownsRow w.heap.size 9 1 v (zs.length + 1) (W.strs (W.cutE s zs).1)) ∨ ((W.cutE s zs).2 ≠ 0 ∧ v = .slice none 0 0)) ∧ Below w.heap.size w w' := by
  obtain ⟨i0, hi, hz0, hz1, hz2⟩ := info_parts infoString
  go_enter Try.func29, Try.ntmps29
  go_wp2_with (at_make; refine wpList_make_own _ rfl _ _ 69 rfl w.heap.size 9 i0 (.string ⟨#[]⟩) 1 Try.underlying69 hi hz0 hz1 _ _ _ (zs.length + 1) rfl rfl (by go_num) (by rw [hz2]; omega) (by unfold maxLen; omega) (Nat.le_refl _) ?_)
  intro w1 hown hgrow
  have hb1 : Below w.heap.size w w1 := (Below.refl _ _).grown hgrow (Nat.le_refl _) (by simp)
  clear hgrow hz0
  go_wp2
  go_loopw [0, 6, 8, 15] (fun sv pv _ iv wr => ∃ (k : Nat) (t : List UInt8) (d : List (List UInt8)), k ≤ zs.length ∧ d.length = k ∧ t.length ≤ s.length ∧ Hid (W.cutE s zs = W.comb d (W.cutE t (zs.drop k))) ∧ sv = .string ⟨t.toArray⟩ ∧ pv = .slice (some ⟨w.heap.size, 0, none⟩) k (zs.length + 1) ∧ iv = .int .i64 k ∧
      wr.ownsRow w.heap.size 9 1 (.slice (some ⟨w.heap.size, 0, none⟩) k (zs.length + 1)) k (W.strs d) ∧ w.heap.size < wr.heap.size ∧ Below w.heap.size w wr) (fun _ _ _ iv _ => zs.length - (intOf iv).toNat)
  case atStart => exact ⟨0, s, [], Nat.zero_le _, rfl, Nat.le_refl _, (W.comb_nil s zs).symm, rfl, rfl, rfl, hown, (hown.lt _ rfl).2, hb1⟩
  case round =>
    obtain ⟨k, t, d, hk, hd, ht, HC, rfl, rfl, rfl, ho, hsz, hb⟩ := hrel
    by_cases hlt : k < zs.length
    · obtain ⟨b, off, rfl, hbB, hcell⟩ := hz (by omega)
      have hc : wr.cell? ⟨b, off + k, none⟩ = some (.int .i64 (zs.getD k 0)) := (hb.cell (by exact hbB)).trans (hcell k hlt)
      rw [W.drop_get hlt] at HC
      generalize zs.getD k 0 = z at hc HC
      by_cases hn : z < 0
      · have HE : Hid (W.cutE s zs = ([], 2)) := HC.out.trans (W.comb_arg d t _ hn)
        clear HC
        go_wp2
        go_ret2
        exact ⟨.slice none 0 0, by rw [HE.out]; rfl, .inr ⟨by rw [HE.out]; decide, rfl⟩, hb⟩
      · have htl : (⟨t.toArray⟩ : ByteArray).size = t.length := by simp [ByteArray.size]
        have Htl := Lib.hid htl
        by_cases hg : (t.length : Int) < z
        · have HE : Hid (W.cutE s zs = ([], 3)) := HC.out.trans (W.comb_short d t _ hn hg)
          clear HC
          go_wp2
          go_ret2
          exact ⟨.slice none 0 0, by rw [HE.out]; rfl, .inr ⟨by rw [HE.out]; decide, rfl⟩, hb⟩
        · have HE : Hid (W.cutE s zs = W.comb (d ++ [t.take z.toNat]) (W.cutE (t.drop z.toNat) (zs.drop (k + 1)))) := HC.out.trans (W.comb_step d t _ hn hg)
          clear HC
          go_wp2_with fail
          refine (clone_any _ _ ?hsize).mono ?_
          case hsize => rw [W.arr_take]; simp [ByteArray.size]; omega
          rintro e w2 ⟨rfl, hb2⟩
          rw [W.arr_take]
          have ho2 := own_below ho hb2
          have hz2' : wr.heap.size ≤ w2.heap.size := hb2.size
          have hbw2 : Below w.heap.size w w2 := hb.trans (hb2.mono (by omega))
          clear hc hcell htl
          go_wp2_with (at_builtin; refine wpList_append_fits _ rfl _ _ 69 rfl w.heap.size 9 i0 1 Try.underlying69 hi hz1 w.heap.size k (zs.length + 1) (W.strs d) rfl (ho2.alloc _) ⟨w2.heap.size, 0, none⟩ 1 1 [.string ⟨(t.take z.toNat).toArray⟩] rfl rfl (by intro j u hj; match j, hj with | 0, hj => simp at hj; subst hj; simp [Addr.add]) (by intro u hu; simp at hu; subst hu; rfl) (by omega) ?_)
          intro w3 ho3 hgrow
          rw [← W.strs_snoc] at ho3
          have hbw3 : Below w.heap.size w w3 := (hbw2.alloc (by omega) _).grown hgrow (by simp; omega) (by simp)
          have hlt3 := (ho3.lt _ rfl).2
          clear ho2 ho hgrow hbw2 hb2 hb hz2'
          go_wp2
          go_roundw
          case rel => exact ⟨k + 1, t.drop z.toNat, d ++ [t.take z.toNat], by omega, by simp [hd], by simp; omega, HE, by rw [← W.arr_drop, Htl.out], rfl, by go_num, ho3, hlt3, hbw3⟩
          case measure => simp [intOf]; omega
    · obtain rfl : k = zs.length := by omega
      rw [List.drop_length] at HC
      have HE : Hid (W.cutE s zs = (d ++ [t], 0)) := HC.out.trans (W.comb_end d t)
      clear HC
      go_wp2_with fail
      refine (clone_any _ _ ?hsize2).mono ?_
      case hsize2 => simp [ByteArray.size]; omega
      rintro e w2 ⟨rfl, hb2⟩
      have ho2 := own_below ho hb2
      have hz2' : wr.heap.size ≤ w2.heap.size := hb2.size
      have hbw2 : Below w.heap.size w w2 := hb.trans (hb2.mono (by omega))
      go_wp2_with (at_builtin; refine wpList_append_fits _ rfl _ _ 69 rfl w.heap.size 9 i0 1 Try.underlying69 hi hz1 w.heap.size zs.length (zs.length + 1) (W.strs d) rfl (ho2.alloc _) ⟨w2.heap.size, 0, none⟩ 1 1 [.string ⟨t.toArray⟩] rfl rfl (by intro j u hj; match j, hj with | 0, hj => simp at hj; subst hj; simp [Addr.add]) (by intro u hu; simp at hu; subst hu; rfl) (by omega) ?_)
      intro w3 ho3 hgrow
      rw [← W.strs_snoc] at ho3
      have hbw3 : Below w.heap.size w w3 := (hbw2.alloc (by omega) _).grown hgrow (by simp; omega) (by simp)
      clear ho2 ho hgrow hbw2 hb2 hb hz2'
      go_wp2
      go_ret2
      exact ⟨_, by rw [HE.out]; rfl, .inl ⟨by rw [HE.out], rfl, by rw [HE.out]; simp [hd], by rw [HE.out]; exact ho3⟩, hbw3⟩

end Go.Proofs.Ytngoighdpmeepaa
