/-
  Layer 5: the document's Box.
-/
import Derived.Test.YtpkehhbjagmodaaARefT
import Derived.Test.YtpkehhbjagmodaaAMem
import Derived.Laws.AppendOwn
namespace Go.Proofs.Ytpkehhbjagmodaa
open Go.RowKit
set_option linter.unusedVariables false

set_option maxRecDepth 4000 in
theorem sbox_take (i : Nat) (h : i < 256) : E.sbox.take (i + 1) = E.sbox.take i ++ [E.sub (UInt8.ofNat i)] := by
  rw [List.take_succ_eq_append_getElem (by rw [E.sbox_length]; exact h)]
  congr 2
  unfold E.sub
  rw [UInt8.toNat_ofNat', Nat.mod_eq_of_lt h, List.getD_eq_getElem?_getD, List.getElem?_eq_getElem (by rw [E.sbox_length]; exact h)]; rfl

/-- A row of the call's own stays, whatever is made behind it. -/
theorem owns_below {w w' : World} {base B : Nat} {e : TypeId} {size : Nat} {v : Value} {n : Nat} {xs : List Value} (h : w.ownsRow base e size v n xs) (hb : Below B w w') (hB : w.heap.size ≤ B) : w'.ownsRow base e size v n xs := by
  refine ⟨h.1, ?_⟩
  rcases h.2 with hn | ⟨g, cap, cur, rfl, hb1, hgg, rest⟩
  · exact .inl hn
  · refine .inr ⟨g, cap, cur, rfl, hb1, ?_, rest⟩
    rw [hb.block g (Nat.lt_of_lt_of_le (Array.getElem?_eq_some_iff.1 hgg).1 hB)]
    exact hgg

theorem cellsOf_snoc8 (l : List UInt8) (c : UInt8) : W.cellsOf (l ++ [c]) = W.cellsOf l ++ [.int .u8 (c.toNat : Int)] := by simp [W.cellsOf]
theorem infoByteA : (Try.prog.info? 5).map (fun i => (i.zero, i.size, i.bytes)) = some (some (.int .u8 0), 1, 1) := by kernel_rfl

set_option maxHeartbeats 1000000 in
theorem refBox_any (w : World) :
    Calls Try.prog 14 #[] w fun e w' => ∃ v, e = .returned v ∧ w'.ownsRow w.heap.size 5 1 v 256 (W.cellsOf E.sbox) ∧ Below w.heap.size w w' := by
  obtain ⟨i0, hi, hz0, hz1, hz2⟩ := info_parts infoByteA
  obtain ⟨box, hbox⟩ : ∃ b : List UInt8, b = E.sbox := ⟨_, rfl⟩
  have HL : Hid (box.length = 256) := by rw [hbox]; exact E.sbox_length
  have HT : Hid (∀ i, i < 256 → box.take (i + 1) = box.take i ++ [E.sub (UInt8.ofNat i)]) := by rw [hbox]; exact sbox_take
  rw [← hbox]
  clear hbox
  go_enter Try.func14, Try.ntmps14
  go_wp2
  go_loopw [1, 2] (fun ov iv wr => ∃ i : Nat, i ≤ 256 ∧ iv = .int .i64 i ∧ wr.ownsRow w.heap.size 5 1 ov i (W.cellsOf (box.take i)) ∧ Below w.heap.size w wr) (fun _ iv _ => 256 - (intOf iv).toNat)
  case atStart => exact ⟨0, Nat.zero_le _, rfl, World.ownsRow_nil _ _ _ _, Below.refl _ _⟩
  case round =>
    rename_i ov iv wr
    obtain ⟨i, hi', rfl, ho, hb⟩ := hrel
    by_cases hlt : i < 256
    · have hs : (i : Int) < 256 := by omega
      have CS : Hid (∀ wx, Calls Try.prog 31 #[.int .u8 (i : Int)] wx fun e w' => e = .returned (.int .u8 ((E.sub (UInt8.ofNat i)).toNat : Int)) ∧ Below wx.heap.size wx w') := fun wx => by
        have := refSub_any (UInt8.ofNat i) wx
        rwa [UInt8.toNat_ofNat', Nat.mod_eq_of_lt hlt] at this
      have HTi := Lib.hid (HT.out i hlt)
      have hw8 : IntKind.u8.wrap (i : Int) = (i : Int) := by rw [IntKind.wrap_u8]; omega
      generalize E.sub (UInt8.ofNat i) = s at *
      go_wp2_with fail
      refine (CS.out _).mono ?_
      rintro e w1 ⟨rfl, b1⟩
      have ho1 := owns_below ho b1 (Nat.le_refl _)
      have hb1 := hb.trans (b1.mono hb.size)
      clear ho hb b1
      go_wp2_with (at_builtin; refine wpList_append_own _ rfl _ _ 30 rfl w.heap.size 5 i0 (.int .u8 0) 1 1 Try.underlying30 hi hz0 hz1 hz2 rfl (by decide) _ i (W.cellsOf (box.take i)) rfl (ho1.alloc _) ⟨w1.heap.size, 0, none⟩ 1 1 [.int .u8 (s.toNat : Int)] rfl rfl (by intro j u hj; match j, hj with | 0, hj => simp at hj; subst hj; simp [Addr.add]) (by intro u hu; simp at hu; subst hu; rfl) (by unfold maxLen; omega) (by omega) (by have := hb1.size; simp; omega) ?_)
      intro v' w2 ho2 hgrow hnil
      rw [← cellsOf_snoc8, ← HTi.out] at ho2
      have hb2 : Below w.heap.size w w2 := (hb1.alloc hb1.size _).grown hgrow (by have := hb1.size; simp; omega) (fun k hk => (ho1.lt k hk).1)
      clear hgrow hnil ho1 hb1
      go_wp2
      go_roundw
      case rel => exact ⟨i + 1, by omega, by go_num, ho2, hb2⟩
      case measure => simp [intOf]; omega
    · obtain rfl : i = 256 := by omega
      rw [List.take_of_length_le (by rw [HL.out]; exact Nat.le_refl _)] at ho
      go_wp2
      go_ret
      exact ⟨_, rfl, ho, hb⟩

theorem owns_cells {w : World} {base : Nat} {e : TypeId} {v : Value} {l : List UInt8} (h : w.ownsRow base e 1 v l.length (W.cellsOf l)) (hl : 0 < l.length) :
    ∃ g cap, v = .slice (some ⟨g, 0, none⟩) l.length cap ∧ base ≤ g ∧ g < w.heap.size ∧ l.length ≤ cap ∧ ∀ j, j < l.length → w.cell? ⟨g, j, none⟩ = some (.int .u8 ((l.getD j 0).toNat : Int)) := by
  rcases h.2 with ⟨_, h0⟩ | ⟨g, cap, cur, rfl, hb, hg, hn, hm, hs, ht⟩
  · omega
  · refine ⟨g, cap, rfl, hb, (Array.getElem?_eq_some_iff.1 hg).1, hn, fun j hj => ?_⟩
    rw [cell_of_row w g j cur e (0, 0) hg]
    have h1 : (cur.toList.take (l.length * 1))[j]? = (W.cellsOf l)[j]? := by rw [ht]
    rw [List.getElem?_take, if_pos (by omega), Array.getElem?_toList, c8_at hj] at h1
    exact h1

set_option maxHeartbeats 1000000 in
/-- Two slices of the same bytes are equal. -/
theorem equalB_any (g1 g2 c1 c2 : Nat) (l : List UInt8) (hl : l.length ≤ 100000) (w : World) (h1 : ∀ j, j < l.length → w.cell? ⟨g1, j, none⟩ = some (.int .u8 ((l.getD j 0).toNat : Int))) (h2 : ∀ j, j < l.length → w.cell? ⟨g2, j, none⟩ = some (.int .u8 ((l.getD j 0).toNat : Int))) :
    Calls Try.prog 21 #[.slice (some ⟨g1, 0, none⟩) l.length c1, .slice (some ⟨g2, 0, none⟩) l.length c2] w fun e w' => e = .returned (.bool true) ∧ Below w.heap.size w w' := by
  have H1 := Lib.hid h1
  have H2 := Lib.hid h2
  clear h1 h2
  generalize l.length = n at *
  go_enter Try.func21, Try.ntmps21
  go_wp2
  go_loopw [5, 13] (fun _ iv wr => ∃ i : Nat, i ≤ n ∧ iv = .int .i64 i ∧ ∃ k, wr = w.drewN k) (fun _ iv _ => n - (intOf iv).toNat)
  case atStart => exact ⟨0, Nat.zero_le _, rfl, 0, rfl⟩
  case round =>
    obtain ⟨i, hi, rfl, k, rfl⟩ := hrel
    by_cases hlt : i < n
    · have e1 := H1.out i hlt
      have e2 := H2.out i hlt
      have hs : (i : Int) < n := by omega
      generalize l.getD i 0 = x at *
      go_wp2
      go_region
      go_wp2
      go_roundw
      case rel => exact ⟨i + 1, by omega, by go_num, k + 1, rfl⟩
      case measure => simp [intOf]; omega
    · obtain rfl : i = n := by omega
      go_wp2
      go_ret
      exact ⟨rfl, drewN_below (Below.refl _ _) k⟩

end Go.Proofs.Ytpkehhbjagmodaa
