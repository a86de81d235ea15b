/-
  Layer 8: PoolTurns, the walk.
-/
import Derived.Test.YtealpdofcgbnlaaPRef
import Derived.Test.YtealpdofcgbnlaaPActs
import Derived.Test.YtealpdofcgbnlaaShelf
import Derived.Test.YtealpdofcgbnlaaSTake
import Derived.Deep.Cut
import Derived.Deep.CutRange
import Derived.Deep.DeepCutAuto
import Derived.Deep.CutBlock
import Derived.Deep.LoopGhost
namespace Go.Proofs.Ytealpdofcgbnlaa.PoolTurnsW
open Go.RowKit
set_option linter.unusedVariables false

end Go.Proofs.Ytealpdofcgbnlaa.PoolTurnsW
namespace Go.Proofs.Ytealpdofcgbnlaa.P8
open Go.RowKit
theorem heldTo_at {st : List (Option (List UInt8))} {n j : Nat} (h : j < (heldTo st n).length) : (heldTo st n).getD j 0 < n ∧ (st.getD ((heldTo st n).getD j 0) none).isSome = true := by
  have e : (heldTo st n).getD j 0 = (heldTo st n)[j] := by rw [List.getD_eq_getElem?_getD, List.getElem?_eq_getElem h]; rfl
  have hm : (heldTo st n)[j] ∈ heldTo st n := List.getElem_mem h
  rw [e]
  have := List.mem_filter.1 hm
  exact ⟨List.mem_range.1 this.1, this.2⟩
theorem heldTo_up {st : List (Option (List UInt8))} {n j : Nat} (h0 : 0 < j) (h : j < (heldTo st n).length) : (heldTo st n).getD (j - 1) 0 < (heldTo st n).getD j 0 := by
  have hp : (heldTo st n).Pairwise (· < ·) := List.Pairwise.filter _ List.pairwise_lt_range
  rw [List.getD_eq_getElem?_getD, List.getElem?_eq_getElem (by omega), List.getD_eq_getElem?_getD, List.getElem?_eq_getElem h]
  exact List.pairwise_iff_getElem.1 hp (j - 1) j (by omega) h (by omega)
theorem own_some {w : World} {B t : Nat} {a : Option Addr} {cap : Nat} {L : List Nat} (h : w.ownsRow B t 1 (.slice a L.length cap) L.length (ints L)) (hl : 0 < L.length) : ∃ g, a = some ⟨g, 0, none⟩ := by
  rcases h.2 with ⟨_, h0⟩ | ⟨g, c, cur, hv, _⟩
  · omega
  · cases hv; exact ⟨g, rfl⟩
theorem own_int {w : World} {B t : Nat} {a : Option Addr} {cap : Nat} {L : List Nat} (h : w.ownsRow B t 1 (.slice a L.length cap) L.length (ints L)) {j : Nat} (hj : j < L.length) : ∀ g, a = some ⟨g, 0, none⟩ → w.cell? ⟨g, j, none⟩ = some (.int .i64 ((L.getD j 0 : Nat) : Int)) := by
  intro g hg
  rcases h.2 with ⟨hv, h0⟩ | ⟨g', c, cur, hv, hb, hh, hn, hm, hs, ht⟩
  · omega
  · subst hg
    cases hv
    rw [cell_of_row w g j cur t (0, 0) hh]
    have h1 : (cur.toList.take (L.length * 1))[j]? = (ints L)[j]? := by rw [ht]
    rw [List.getElem?_take, if_pos (by omega), Array.getElem?_toList] at h1
    rw [h1]
    simp [ints, hj]
end Go.Proofs.Ytealpdofcgbnlaa.P8
namespace Go.Proofs.Ytealpdofcgbnlaa.PoolTurnsW
open Go.RowKit
set_option linter.unusedVariables false

theorem repeatL_zero (n : Nat) : Lib.repeatL [0] n = List.replicate n (0 : UInt8) := by
  induction n with
  | zero => rfl
  | succ n ih => rw [List.replicate_succ, ← ih]; rfl
theorem size_toLP (s : ByteArray) : s.data.toList.length = s.size := by simp

set_option maxRecDepth 20000 in
set_option maxHeartbeats 4000000 in
theorem core (n : Nat) (a1 : Option Addr) (len1 cap1 : Nat) (w : World) (h1 : 1 ≤ n) (h2 : n ≤ 256) (hlen : len1 ≤ 80) (w1 : InActs w a1 len1 cap1) :
    Calls Try.prog 3 #[.int .i64 (n : Int), .slice a1 len1 cap1] w fun e w' => e = .returned (.bool true) ∧ Below w.heap.size w w' := by
  have g1 : ¬ (n : Int) < 1 := by omega
  have g2 : ¬ (256 : Int) < n := by omega
  have g3 : ¬ (80 : Int) < len1 := by omega
  obtain ⟨_, _, hin⟩ := w1
  have HIN := Lib.hid hin
  clear hin
  have C0 := Lib.hid (awake8_any w)
  have CN : Hid (∀ wx, Calls Try.prog 8 #[.int .i64 (n : Int)] wx fun e w' => e = .returned (.tuple #[.pointer (some ⟨wx.heap.size + 1, 0, none⟩), .int .i64 0]) ∧ P8.PoolAt w' wx.heap.size n (List.replicate n none) 0 ∧ Below wx.heap.size wx w') := fun wx => poolNew_yes n wx h1 h2
  have HST : Hid ((List.replicate n (none : Option (List UInt8))).length = n) := List.length_replicate
  have HMK : Hid (∀ wx, (Instr.makeSlice 28 (.int .i64 (n : Int)) (.int .i64 (n : Int))).run Try.prog wx = .ok (.slice (some ⟨wx.heap.size, 0, none⟩) n n) (wx.alloc (.cells (P8.ones (List.replicate n none)).toArray 36 (0, 0)))) := fun wx => makeOnes n h2 wx
  obtain ⟨st0, hst0⟩ : ∃ st0, st0 = List.replicate n (none : Option (List UInt8)) := ⟨_, rfl⟩
  rw [← hst0] at CN HST HMK
  clear hst0
  go_enter Try.func3, Try.ntmps3
  go_wp2_with fail
  refine C0.out.mono ?_
  rintro e wa ⟨rfl, ba⟩
  clear C0
  go_wp2_with fail
  refine (CN.out _).mono ?_
  rintro e wb ⟨rfl, pb, bb⟩
  have bw : Below w.heap.size w wb := ba.trans (bb.mono ba.size)
  obtain ⟨B, hB⟩ : ∃ B, B = wa.heap.size := ⟨_, rfl⟩
  have HB : Hid (w.heap.size ≤ B) := by rw [hB]; exact ba.size
  rw [← hB] at pb ⊢
  have hm := HMK.out wb
  have pm := pb.below ((Below.refl wb.heap.size wb).alloc (Nat.le_refl _) (.cells (P8.ones st0).toArray 36 (0, 0))) pb.fits
  have rm : Row (wb.alloc (.cells (P8.ones st0).toArray 36 (0, 0))) wb.heap.size 36 (P8.ones st0) := Row.new' rfl rfl
  have bm : Below w.heap.size w (wb.alloc (.cells (P8.ones st0).toArray 36 (0, 0))) := bw.alloc bw.size _
  obtain ⟨g, hg⟩ : ∃ g, g = wb.heap.size := ⟨_, rfl⟩
  have HG : Hid (B + 2 + n ≤ g) := by rw [hg]; exact pb.fits
  rw [← hg] at rm hm
  generalize wb.alloc (.cells (P8.ones st0).toArray 36 (0, 0)) = wm at *
  clear CN bb ba hB g1 g2 g3 pb bw hg HMK
  go_wp2
  go_loopg [8, 51] len1 (fun gg ev kv wr => ∃ (k ever : Nat) (st : List (Option (List UInt8))), k ≤ len1 ∧ len1 - k ≤ gg ∧ kv = .int .i64 k ∧ ev = .int .u64 (ever : Int) ∧ ever ≤ k ∧ Hid (st.length = n) ∧ P8.PoolAt wr B n st ever ∧ Row wr g 36 (P8.ones st) ∧ Below w.heap.size w wr)
  case atStart => exact ⟨0, 0, st0, Nat.zero_le _, by omega, rfl, rfl, Nat.le_refl _, HST, pm, rm, bm⟩
  case round =>
    clear pm rm bm hm HST
    obtain ⟨k, ever, st, hk, hg, rfl, rfl, hek, hsl, pr, rr, br⟩ := hrel
    by_cases hlt : k < len1
    · have hs : (k : Int) < len1 := by omega
      obtain ⟨bk, off, rfl, hbk, hcell⟩ := HIN.out (by omega)
      obtain ⟨d, z, s, hd, hz1, hz2, hsz, e0, e1, e2⟩ := hcell k hlt
      have c0 := (br.cell (p := ⟨bk, off + k * 3, none⟩) hbk).trans e0
      have c1 := (br.cell (p := ⟨bk, off + k * 3 + 1, none⟩) hbk).trans e1
      have c2 := (br.cell (p := ⟨bk, off + k * 3 + 2, none⟩) hbk).trans e2
      clear e0 e1 e2 hcell HIN
      by_cases hbig : 600 < s.size
      · have hbi : (600 : Int) < s.size := by omega
        have bz := br.alloc br.size (.cells #[.int .u8 (d : Int), .int .i64 z, .string s] 31 (0, 0))
        go_wp2
        go_ret
        exact ⟨rfl, bz⟩
      · have hbi : ¬ (600 : Int) < s.size := by omega
        obtain ⟨q, hq⟩ : ∃ q, q = d % 5 := ⟨_, rfl⟩
        have htm : ((d : Int).tmod 5) = (q : Int) := by rw [hq]; rfl
        have hqm : ((d : Int) % 5) = (q : Int) := by rw [hq]; rfl
        have hq5 : q < 5 := by omega
        clear hq hbig
        have pA := pr.below ((Below.refl wr.heap.size wr).alloc (Nat.le_refl _) (.cells #[.int .u8 (d : Int), .int .i64 z, .string s] 31 (0, 0))) pr.fits
        have rA := rr.alloc (.cells #[.int .u8 (d : Int), .int .i64 z, .string s] 31 (0, 0))
        have bA := br.alloc br.size (.cells #[.int .u8 (d : Int), .int .i64 z, .string s] 31 (0, 0))
        have ra : Row (wr.alloc (.cells #[.int .u8 (d : Int), .int .i64 z, .string s] 31 (0, 0))) wr.heap.size 31 [.int .u8 (d : Int), .int .i64 z, .string s] := Row.new' rfl rfl
        have hga : g < wr.heap.size := rr.lt
        go_upto_block 2 with fail
        obtain ⟨a, ha⟩ : ∃ a, a = wr.heap.size := ⟨_, rfl⟩
        rw [← ha] at ra hga ⊢
        generalize wr.alloc (.cells #[.int .u8 (d : Int), .int .i64 z, .string s] 31 (0, 0)) = wA at *
        clear ha pr rr br c0 c1 c2 hbk
        go_cut [8] (fun ev wx => ∃ (ever' : Nat) (st' : List (Option (List UInt8))), ev = .int .u64 (ever' : Int) ∧ ever' ≤ k + 1 ∧ Hid (st'.length = n) ∧ P8.PoolAt wx B n st' ever' ∧ Row wx g 36 (P8.ones st') ∧ Below w.heap.size w wx)
        case first =>
          have cA1 := (ra.cell 1).trans (show ([.int .u8 (d : Int), .int .i64 z, .string s] : List Value)[1]? = some (.int .i64 z) from rfl)
          have cA2 := (ra.cell 2).trans (show ([.int .u8 (d : Int), .int .i64 z, .string s] : List Value)[2]? = some (.string s) from rfl)
          rcases (show q = 2 ∨ q = 3 ∨ q = 4 ∨ q = 0 ∨ q = 1 by omega) with rfl | rfl | rfl | rfl | rfl
          · by_cases ho : P8.Owns n st z
            · obtain ⟨i, rfl⟩ : ∃ i : Nat, z = (i : Int) := ⟨z.toNat, by have := ho.1; omega⟩
              have hi : i < n := by have := ho.2.1; omega
              have hh : (st.getD i none).isSome = true := by simpa using ho.2.2
              obtain ⟨t, ht⟩ := Option.isSome_iff_exists.1 hh
              have C1 := Lib.hid (read_yes B n i t st ever wA pA hi ht)
              have C2 := Lib.hid (refOwner_yes g n i st wA.drew hsl.out h2 rA.drew hi hh)
              have cT := pairCell1 rA.drew (i := i) (by rw [hsl.out]; exact hi)
              rw [ht] at cT
              simp only [Option.getD_some] at cT
              have hiI : (i : Int) < n := by omega
              have dA1 : wA.drew.cell? ⟨a, 1, none⟩ = some (.int .i64 (i : Int)) := cA1
              have pB := pA.drew
              have rB := rA.drew
              have bB := bA.drew
              clear ho ht hh
              go_wp2_with fail
              refine C1.out.mono ?_
              rintro e _ ⟨rfl, rfl⟩
              clear C1 cA1 cA2
              generalize wA.drew = wB at *
              go_wp2_with fail
              refine C2.out.mono ?_
              rintro e wB ⟨rfl, rfl⟩
              clear C2
              go_wp2_with fail
              go_meet
              exact ⟨ever, st, rfl, by omega, hsl, pB, rB, bB⟩
            · have C1 := Lib.hid (read_no B n z st ever wA pA ho)
              have C2 := Lib.hid (refOwner_no g n z st wA hsl.out h2 rA ho)
              clear ho
              go_wp2_with fail
              refine C1.out.mono ?_
              rintro e wA ⟨rfl, rfl⟩
              go_wp2_with fail
              refine C2.out.mono ?_
              rintro e wA ⟨rfl, rfl⟩
              clear C1 C2
              go_wp2_with fail
              go_meet
              exact ⟨ever, st, rfl, by omega, hsl, pA, rA, bA⟩
          · as_aux_lemma =>
              by_cases ho : P8.Owns n st z
              · obtain ⟨i, rfl⟩ : ∃ i : Nat, z = (i : Int) := ⟨z.toNat, by have := ho.1; omega⟩
                have hi : i < n := by have := ho.2.1; omega
                have hh : (st.getD i none).isSome = true := by simpa using ho.2.2
                have hiI : (i : Int) < n := by omega
                have C1 := Lib.hid (refOwner_yes g n i st wA hsl.out h2 rA hi hh)
                clear ho
                go_wp2_with fail
                refine C1.out.mono ?_
                rintro e wA ⟨rfl, rfl⟩
                clear C1
                by_cases hs5 : s.size ≤ 512
                · have hsi : ¬ (512 : Int) < s.size := by omega
                  have C2 := Lib.hid (write_yes B n i s st ever wA pA hi hh hs5)
                  clear hs5
                  go_wp2_with fail
                  refine C2.out.mono ?_
                  rintro e wB ⟨rfl, pB, oB, zB⟩
                  have rB := oB.row rA (Or.inr HG.out)
                  have raB := oB.row ra (Or.inr (by have := HG.out; omega))
                  have bB := bA.trans (oB.belowB bA.size HB.out)
                  have dB1 := (raB.cell 1).trans (show ([.int .u8 (d : Int), .int .i64 (i : Int), .string s] : List Value)[1]? = some (.int .i64 (i : Int)) from rfl)
                  have dB2 := (raB.cell 2).trans (show ([.int .u8 (d : Int), .int .i64 (i : Int), .string s] : List Value)[2]? = some (.string s) from rfl)
                  have cT := pairCell1 rB (i := i) (by rw [hsl.out]; exact hi)
                  have fT := rB.frozen (i * 2 + 1)
                  have rC := rB.set (i * 2 + 1) (.string s)
                  have es : (P8.ones st).set (i * 2 + 1) (.string s) = P8.ones (st.set i (some s.data.toList)) := by
                    rw [Nat.mul_comm, ← P8.ones_text st s.data.toList (by rw [hsl.out]; exact hi) hh]
                  rw [es] at rC
                  have pC := pB.out ((Out.refl g (g + 1) wB).setCell (i := i * 2 + 1) (Nat.le_refl _) (by omega) (.string s)) (Or.inr HG.out)
                  have bC := bB.setCell (p := ⟨g, i * 2 + 1, none⟩) (by show w.heap.size ≤ g; have := HG.out; have := HB.out; omega) (.string s)
                  have HL : Hid ((st.set i (some s.data.toList)).length = n) := by show _ = _; rw [List.length_set]; exact hsl.out
                  clear C2 zB oB cA1 cA2 es hh pA rA bA ra raB pB bB
                  go_wp2_with fail
                  go_meet
                  exact ⟨ever, _, rfl, by omega, HL, pC, rC, bC⟩
                · have hsi : (512 : Int) < s.size := by omega
                  have C2 := Lib.hid (write_long B n i s st ever wA pA hi hh (by omega))
                  clear hs5
                  go_wp2_with fail
                  refine C2.out.mono ?_
                  rintro e wA ⟨rfl, rfl⟩
                  clear C2
                  go_wp2_with fail
                  go_meet
                  exact ⟨ever, st, rfl, by omega, hsl, pA, rA, bA⟩
              · have C1 := Lib.hid (refOwner_no g n z st wA hsl.out h2 rA ho)
                go_wp2_with fail
                refine C1.out.mono ?_
                rintro e wA ⟨rfl, rfl⟩
                clear C1
                have C2 := Lib.hid (write_no B n z s st ever wA pA ho)
                clear ho
                go_wp2_with fail
                refine C2.out.mono ?_
                rintro e wA ⟨rfl, rfl⟩
                clear C2
                go_wp2_with fail
                go_meet
                exact ⟨ever, st, rfl, by omega, hsl, pA, rA, bA⟩
          · as_aux_lemma =>
              by_cases ho : P8.Owns n st z
              · obtain ⟨i, rfl⟩ : ∃ i : Nat, z = (i : Int) := ⟨z.toNat, by have := ho.1; omega⟩
                have hi : i < n := by have := ho.2.1; omega
                have hh : (st.getD i none).isSome = true := by simpa using ho.2.2
                have hiI : (i : Int) < n := by omega
                have C1 := Lib.hid (refOwner_yes g n i st wA hsl.out h2 rA hi hh)
                clear ho
                go_wp2_with fail
                refine C1.out.mono ?_
                rintro e wA ⟨rfl, rfl⟩
                clear C1
                have C2 := Lib.hid (put_yes B n i st ever wA pA hi hh)
                go_wp2_with fail
                refine C2.out.mono ?_
                rintro e wB ⟨rfl, pB, oB, zB⟩
                have rB := oB.row rA (Or.inr HG.out)
                have raB := oB.row ra (Or.inr (by have := HG.out; omega))
                have bB := bA.trans (oB.belowB bA.size HB.out)
                have dB1 := (raB.cell 1).trans (show ([.int .u8 (d : Int), .int .i64 (i : Int), .string s] : List Value)[1]? = some (.int .i64 (i : Int)) from rfl)
                have cT := pairCell1 rB (i := i) (by rw [hsl.out]; exact hi)
                have cU := pairCell0 rB (i := i) (by rw [hsl.out]; exact hi)
                have fT := rB.frozen (i * 2 + 1)
                have fU := rB.frozen (i * 2)
                have rC := (rB.set (i * 2) (.bool false)).set (i * 2 + 1) (.string ⟨#[]⟩)
                have es : ((P8.ones st).set (i * 2) (.bool false)).set (i * 2 + 1) (.string ⟨#[]⟩) = P8.ones (st.set i none) := by
                  rw [Nat.mul_comm, ← P8.ones_set st none (by rw [hsl.out]; exact hi)]
                  rfl
                rw [es] at rC
                have pC := pB.out (((Out.refl g (g + 1) wB).setCell (i := i * 2) (Nat.le_refl _) (by omega) (.bool false)).setCell (i := i * 2 + 1) (Nat.le_refl _) (by omega) (.string ⟨#[]⟩)) (Or.inr HG.out)
                have hwg : w.heap.size ≤ g := by have := HG.out; have := HB.out; omega
                have bC := (bB.setCell (p := ⟨g, i * 2, none⟩) hwg (.bool false)).setCell (p := ⟨g, i * 2 + 1, none⟩) hwg (.string ⟨#[]⟩)
                have HL : Hid ((st.set i none).length = n) := by show _ = _; rw [List.length_set]; exact hsl.out
                clear C2 zB oB cA1 cA2 es hh pA rA bA ra raB pB bB
                go_wp2_with fail
                go_meet
                exact ⟨ever, _, rfl, by omega, HL, pC, rC, bC⟩
              · have C1 := Lib.hid (refOwner_no g n z st wA hsl.out h2 rA ho)
                go_wp2_with fail
                refine C1.out.mono ?_
                rintro e wA ⟨rfl, rfl⟩
                clear C1
                have C2 := Lib.hid (put_no B n z st ever wA pA ho)
                clear ho
                go_wp2_with fail
                refine C2.out.mono ?_
                rintro e wA ⟨rfl, rfl⟩
                clear C2
                go_wp2_with fail
                go_meet
                exact ⟨ever, st, rfl, by omega, hsl, pA, rA, bA⟩
          · as_aux_lemma =>
              by_cases hs5 : 512 < s.size
              · have hsi : (512 : Int) < s.size := by omega
                have C1 := Lib.hid (get_long (B + 1) s wA hs5)
                have C2 := Lib.hid (refGet_long g n s wA hs5)
                clear hs5
                go_wp2_with fail
                refine C1.out.mono ?_
                rintro e wA ⟨rfl, rfl⟩
                clear C1
                go_wp2_with fail
                refine C2.out.mono ?_
                rintro e wA ⟨rfl, rfl⟩
                clear C2
                go_wp2_with fail
                go_meet
                exact ⟨ever, st, rfl, by omega, hsl, pA, rA, bA⟩
              · have hsi : ¬ (512 : Int) < s.size := by omega
                rcases P8.first_cases st with ⟨i, hi0, hf, hno, hlo⟩ | ⟨hf, hall⟩
                · have hi : i < n := by rw [← hsl.out]; exact hi0
                  have C1 := Lib.hid (get_yes B n i st ever s wA pA (by omega) hi hf (by omega))
                  have CR : Hid (∀ wx, Row wx g 36 (P8.ones st) → Calls Try.prog 14 #[.slice (some ⟨g, 0, none⟩) n n, .string s] wx fun e w' => e = .returned (.tuple #[.int .i64 (i : Int), .int .i64 0]) ∧ Below wx.heap.size wx w') := fun wx h => refGet_any g n s st _ _ (.inr ⟨i, hf, rfl, rfl⟩) wx (by omega) hsl.out h2 h
                  have hiI : (i : Int) < n := by omega
                  clear hs5 hf hno hlo hi0
                  go_wp2_with fail
                  refine C1.out.mono ?_
                  rintro e wB ⟨rfl, pB, oB, zB⟩
                  have rB := oB.row rA (Or.inr HG.out)
                  have raB := oB.row ra (Or.inr (by have := HG.out; omega))
                  have bB := bA.trans (oB.belowB bA.size HB.out)
                  have dB2 := (raB.cell 2).trans (show ([.int .u8 (d : Int), .int .i64 z, .string s] : List Value)[2]? = some (.string s) from rfl)
                  clear C1 zB oB cA1 cA2 pA rA bA ra
                  go_wp2_with fail
                  refine (CR.out _ rB).mono ?_
                  rintro e wC ⟨rfl, bC0⟩
                  have rC := rB.below bC0 rB.lt
                  have raC := raB.below bC0 raB.lt
                  have pC := pB.below bC0 pB.fits
                  have bC := bB.trans (bC0.mono bB.size)
                  have dC2 := (raC.cell 2).trans (show ([.int .u8 (d : Int), .int .i64 z, .string s] : List Value)[2]? = some (.string s) from rfl)
                  have cT := pairCell1 rC (i := i) (by rw [hsl.out]; exact hi)
                  have cU := pairCell0 rC (i := i) (by rw [hsl.out]; exact hi)
                  have fT := rC.frozen (i * 2 + 1)
                  have fU := rC.frozen (i * 2)
                  have rD := (rC.set (i * 2) (.bool true)).set (i * 2 + 1) (.string s)
                  have es : ((P8.ones st).set (i * 2) (.bool true)).set (i * 2 + 1) (.string s) = P8.ones (st.set i (some s.data.toList)) := by
                    rw [Nat.mul_comm, ← P8.ones_set st (some s.data.toList) (by rw [hsl.out]; exact hi)]
                    rfl
                  rw [es] at rD
                  have pD := pC.out (((Out.refl g (g + 1) wC).setCell (i := i * 2) (Nat.le_refl _) (by omega) (.bool true)).setCell (i := i * 2 + 1) (Nat.le_refl _) (by omega) (.string s)) (Or.inr HG.out)
                  have hwg : w.heap.size ≤ g := by have := HG.out; have := HB.out; omega
                  have bD := (bC.setCell (p := ⟨g, i * 2, none⟩) hwg (.bool true)).setCell (p := ⟨g, i * 2 + 1, none⟩) hwg (.string s)
                  have HL : Hid ((st.set i (some s.data.toList)).length = n) := by show _ = _; rw [List.length_set]; exact hsl.out
                  clear CR bC0 rB raB pB bB dB2 es raC pC bC
                  go_wp2_with fail
                  go_meet
                  exact ⟨ever + 1, _, by go_num, by omega, HL, pD, rD, bD⟩
                · have C1 := Lib.hid (get_full B n st ever s wA pA (by omega) hf)
                  have C2 := Lib.hid (refGet_any g n s st _ _ (.inl ⟨hf, rfl, rfl⟩) wA (by omega) hsl.out h2 rA)
                  clear hs5 hf hall
                  go_wp2_with fail
                  refine C1.out.mono ?_
                  rintro e wA ⟨rfl, rfl⟩
                  clear C1
                  go_wp2_with fail
                  refine C2.out.mono ?_
                  rintro e wB ⟨rfl, bB0⟩
                  have pB := pA.below bB0 pA.fits
                  have rB := rA.below bB0 rA.lt
                  have bB := bA.trans (bB0.mono bA.size)
                  clear C2 bB0 pA rA bA cA1 cA2 ra
                  go_wp2_with fail
                  go_meet
                  exact ⟨ever, st, rfl, by omega, hsl, pB, rB, bB⟩
          · as_aux_lemma =>
              by_cases hs5 : 512 < s.size
              · have hsi : (512 : Int) < s.size := by omega
                have C1 := Lib.hid (get_long (B + 1) s wA hs5)
                have C2 := Lib.hid (refGet_long g n s wA hs5)
                clear hs5
                go_wp2_with fail
                refine C1.out.mono ?_
                rintro e wA ⟨rfl, rfl⟩
                clear C1
                go_wp2_with fail
                refine C2.out.mono ?_
                rintro e wA ⟨rfl, rfl⟩
                clear C2
                go_wp2_with fail
                go_meet
                exact ⟨ever, st, rfl, by omega, hsl, pA, rA, bA⟩
              · have hsi : ¬ (512 : Int) < s.size := by omega
                rcases P8.first_cases st with ⟨i, hi0, hf, hno, hlo⟩ | ⟨hf, hall⟩
                · have hi : i < n := by rw [← hsl.out]; exact hi0
                  have C1 := Lib.hid (get_yes B n i st ever s wA pA (by omega) hi hf (by omega))
                  have CR : Hid (∀ wx, Row wx g 36 (P8.ones st) → Calls Try.prog 14 #[.slice (some ⟨g, 0, none⟩) n n, .string s] wx fun e w' => e = .returned (.tuple #[.int .i64 (i : Int), .int .i64 0]) ∧ Below wx.heap.size wx w') := fun wx h => refGet_any g n s st _ _ (.inr ⟨i, hf, rfl, rfl⟩) wx (by omega) hsl.out h2 h
                  have hiI : (i : Int) < n := by omega
                  clear hs5 hf hno hlo hi0
                  go_wp2_with fail
                  refine C1.out.mono ?_
                  rintro e wB ⟨rfl, pB, oB, zB⟩
                  have rB := oB.row rA (Or.inr HG.out)
                  have raB := oB.row ra (Or.inr (by have := HG.out; omega))
                  have bB := bA.trans (oB.belowB bA.size HB.out)
                  have dB2 := (raB.cell 2).trans (show ([.int .u8 (d : Int), .int .i64 z, .string s] : List Value)[2]? = some (.string s) from rfl)
                  clear C1 zB oB cA1 cA2 pA rA bA ra
                  go_wp2_with fail
                  refine (CR.out _ rB).mono ?_
                  rintro e wC ⟨rfl, bC0⟩
                  have rC := rB.below bC0 rB.lt
                  have raC := raB.below bC0 raB.lt
                  have pC := pB.below bC0 pB.fits
                  have bC := bB.trans (bC0.mono bB.size)
                  have dC2 := (raC.cell 2).trans (show ([.int .u8 (d : Int), .int .i64 z, .string s] : List Value)[2]? = some (.string s) from rfl)
                  have cT := pairCell1 rC (i := i) (by rw [hsl.out]; exact hi)
                  have cU := pairCell0 rC (i := i) (by rw [hsl.out]; exact hi)
                  have fT := rC.frozen (i * 2 + 1)
                  have fU := rC.frozen (i * 2)
                  have rD := (rC.set (i * 2) (.bool true)).set (i * 2 + 1) (.string s)
                  have es : ((P8.ones st).set (i * 2) (.bool true)).set (i * 2 + 1) (.string s) = P8.ones (st.set i (some s.data.toList)) := by
                    rw [Nat.mul_comm, ← P8.ones_set st (some s.data.toList) (by rw [hsl.out]; exact hi)]
                    rfl
                  rw [es] at rD
                  have pD := pC.out (((Out.refl g (g + 1) wC).setCell (i := i * 2) (Nat.le_refl _) (by omega) (.bool true)).setCell (i := i * 2 + 1) (Nat.le_refl _) (by omega) (.string s)) (Or.inr HG.out)
                  have hwg : w.heap.size ≤ g := by have := HG.out; have := HB.out; omega
                  have bD := (bC.setCell (p := ⟨g, i * 2, none⟩) hwg (.bool true)).setCell (p := ⟨g, i * 2 + 1, none⟩) hwg (.string s)
                  have HL : Hid ((st.set i (some s.data.toList)).length = n) := by show _ = _; rw [List.length_set]; exact hsl.out
                  clear CR bC0 rB raB pB bB dB2 es raC pC bC
                  go_wp2_with fail
                  go_meet
                  exact ⟨ever + 1, _, by go_num, by omega, HL, pD, rD, bD⟩
                · have C1 := Lib.hid (get_full B n st ever s wA pA (by omega) hf)
                  have C2 := Lib.hid (refGet_any g n s st _ _ (.inl ⟨hf, rfl, rfl⟩) wA (by omega) hsl.out h2 rA)
                  clear hs5 hf hall
                  go_wp2_with fail
                  refine C1.out.mono ?_
                  rintro e wA ⟨rfl, rfl⟩
                  clear C1
                  go_wp2_with fail
                  refine C2.out.mono ?_
                  rintro e wB ⟨rfl, bB0⟩
                  have pB := pA.below bB0 pA.fits
                  have rB := rA.below bB0 rA.lt
                  have bB := bA.trans (bB0.mono bA.size)
                  clear C2 bB0 pA rA bA cA1 cA2 ra
                  go_wp2_with fail
                  go_meet
                  exact ⟨ever, st, rfl, by omega, hsl, pB, rB, bB⟩
        case rest =>
          as_aux_lemma =>
            obtain ⟨ever', st', rfl, hek', hsl', pc, rc, bc⟩ := hcut
            clear pA rA bA ra hsl hga hek
            have hfit := pc.fits
            have CH := Lib.hid (held_any B n st' ever' wc pc)
            have HM : Hid (∀ j, j < (P8.heldTo st' n).length → (P8.heldTo st' n).getD j 0 < n ∧ (st'.getD ((P8.heldTo st' n).getD j 0) none).isSome = true) := fun j hj => P8.heldTo_at hj
            have HS : Hid (∀ j, 0 < j → j < (P8.heldTo st' n).length → (P8.heldTo st' n).getD (j - 1) 0 < (P8.heldTo st' n).getD j 0) := fun j h0 hj => P8.heldTo_up h0 hj
            have hLn := P8.heldTo_le st' n
            have HF : Hid (∀ wx, P8.PoolAt wx B n st' ever' → Calls Try.prog 16 #[.pointer (some ⟨B + 1, 0, none⟩)] wx fun e w' => e = .returned (.int .i64 ((n - (P8.heldTo st' n).length : Nat) : Int)) ∧ Below wx.heap.size wx w') := fun wx h => free_any B n st' ever' wx h
            have HR : Hid (∀ wx, Row wx g 36 (P8.ones st') → Calls Try.prog 17 #[.slice (some ⟨g, 0, none⟩) n n] wx fun e w' => e = .returned (.int .i64 ((n - (P8.heldTo st' n).length : Nat) : Int)) ∧ Below wx.heap.size wx w') := fun wx h => refFree_any g n st' wx hsl'.out h2 h
            generalize P8.heldTo st' n = L at *
            obtain ⟨F, hF⟩ : ∃ F, F = n - L.length := ⟨_, rfl⟩
            have hwF : IntKind.i64.wrap ((n : Int) - (F : Int)) = (L.length : Int) := by rw [IntKind.wrap_i64]; omega
            have hwF2 : (n : Int) - (F : Int) = (L.length : Int) := by omega
            rw [← hF] at HF HR
            clear hF
            go_wp2_with fail
            refine CH.out.mono ?_
            rintro e wd ⟨ha, hcap, rfl, ho, bd⟩
            have pd := pc.below bd hfit
            have rd := rc.below bd rc.lt
            have bd' := bc.trans (bd.mono bc.size)
            clear CH bd pc rc bc
            go_wp2_with fail
            refine (HF.out _ pd).mono ?_
            rintro e we ⟨rfl, be⟩
            have pe := pd.below be pd.fits
            have re := rd.below be rd.lt
            have oe := ho.kept (row := none) ⟨be.os, be.tape, be.output, be.size, fun k hk _ => be.block k hk⟩ (by cases ha <;> simp [Value.ownBlock])
            have be' := bd'.trans (be.mono bd'.size)
            clear be pd rd ho bd'
            go_wp2_with fail
            refine (HR.out _ re).mono ?_
            rintro e wf ⟨rfl, bf⟩
            have pf := pe.below bf pe.fits
            have rf := re.below bf re.lt
            have of := oe.kept (row := none) ⟨bf.os, bf.tape, bf.output, bf.size, fun k hk _ => bf.block k hk⟩ (by cases ha <;> simp [Value.ownBlock])
            have bf' := be'.trans (bf.mono be'.size)
            clear bf pe re oe be'
            go_wp2_with fail
            refine (HF.out _ pf).mono ?_
            rintro e wh ⟨rfl, bh⟩
            have ph := pf.below bh pf.fits
            have rh := rf.below bh rf.lt
            have oh := of.kept (row := none) ⟨bh.os, bh.tape, bh.output, bh.size, fun k hk _ => bh.block k hk⟩ (by cases ha <;> simp [Value.ownBlock])
            have bh' := bf'.trans (bh.mono bf'.size)
            clear bh pf rf of bf' HF HR
            have CE := Lib.hid (ever_any B n st' ever' wh ph)
            go_wp2_with fail
            refine CE.out.mono ?_
            rintro e wh ⟨rfl, rfl⟩
            clear CE
            go_wp2
            go_loopg [206] L.length (fun gg jv wx => ∃ j : Nat, j ≤ L.length ∧ L.length - j ≤ gg ∧ jv = .int .i64 j ∧ wx = wh)
            case atStart => exact ⟨0, Nat.zero_le _, by omega, rfl, rfl⟩
            case round =>
              obtain ⟨j, hj, hgg, rfl, rfl⟩ := hrel
              by_cases hjl : j < L.length
              · have hjI : (j : Int) < L.length := by omega
                obtain ⟨hm1, hm2⟩ := HM.out j hjl
                have cj := P8.own_int oh hjl
                obtain ⟨gh, hgh⟩ : ∃ gh, ha = some ⟨gh, 0, none⟩ := P8.own_some oh (by omega)
                subst hgh
                have cj' : wr.cell? ⟨gh, j, none⟩ = some (.int .i64 ((L.getD j 0 : Nat) : Int)) := cj gh rfl
                have cH := pairCell0 rh (i := L.getD j 0) (by rw [hsl'.out]; exact hm1)
                rw [hm2] at cH
                have hv0 : ¬ ((L.getD j 0 : Nat) : Int) < 0 := by omega
                have hv1 : ¬ (n : Int) ≤ ((L.getD j 0 : Nat) : Int) := by omega
                have hv2 : ((L.getD j 0 : Nat) : Int) < n := by omega
                by_cases hj0 : 0 < j
                · have hjp : (0 : Int) < j := by omega
                  have ck' : wr.cell? ⟨gh, j - 1, none⟩ = some (.int .i64 ((L.getD (j - 1) 0 : Nat) : Int)) := P8.own_int oh (by omega) gh rfl
                  have hup := HS.out j hj0 hjl
                  have hupI : ¬ ((L.getD j 0 : Nat) : Int) ≤ ((L.getD (j - 1) 0 : Nat) : Int) := by omega
                  obtain ⟨j', hj'⟩ : ∃ j', j = j' + 1 := ⟨j - 1, by omega⟩
                  subst hj'
                  rw [Nat.add_sub_cancel] at ck' hup hupI
                  generalize L.getD (j' + 1) 0 = x1 at *
                  generalize L.getD j' 0 = x0 at *
                  clear HM HS cj
                  go_wp2
                  go_roundg (L.length - (j' + 1 + 1))
                  case measure => omega
                  case rel => exact ⟨j' + 1 + 1, by omega, by omega, by go_num, rfl⟩
                · obtain rfl : j = 0 := by omega
                  generalize L.getD 0 0 = x1 at *
                  clear HM HS cj
                  go_wp2
                  go_roundg (L.length - 1)
                  case measure => omega
                  case rel => exact ⟨1, by omega, by omega, by go_num, rfl⟩
              · have hjL : j = L.length := by omega
                have hjI : ¬ (j : Int) < L.length := by omega
                clear HM HS
                go_wp2
                go_roundg (len1 - (k + 1))
                case measure => omega
                case rel => exact ⟨k + 1, ever', st', by omega, by omega, by go_num, rfl, hek', hsl', ph, rh, bh'⟩
    · as_aux_lemma =>
        have hkl : k = len1 := by omega
        have hs : ¬ (k : Int) < len1 := by omega
        have CR : Hid (∀ (wx : World) (m : Nat), m ≤ 512 → Calls Try.prog 20 #[.string ⟨#[0]⟩, .int .i64 (m : Int)] wx fun e w' => e = .returned (.string ⟨(List.replicate m (0 : UInt8)).toArray⟩) ∧ Below wx.heap.size wx w') := fun wx m hm => by
          have := Try.strings_Repeat ⟨#[0]⟩ m wx (by omega) (by show 1 * m ≤ _; omega)
          rw [show (⟨#[0]⟩ : ByteArray).data.toList = [0] from rfl, repeatL_zero] at this
          exact this
        have HN := Lib.hid (raw_no B n (n : Int) st ever)
        have HM := Lib.hid (raw_no B n (-1 : Int) st ever)
        clear HIN hg hek
        go_wp2
        go_loopg [243] n (fun gg iv wx => ∃ i : Nat, i ≤ n ∧ n - i ≤ gg ∧ iv = .int .i64 i ∧ P8.PoolAt wx B n st ever ∧ Row wx g 36 (P8.ones st) ∧ Below w.heap.size w wx)
        case atStart => exact ⟨0, Nat.zero_le _, by omega, rfl, pr, rr, br⟩
        case round =>
          clear pr rr br
          obtain ⟨i, hi, hgi, rfl, pr, rr, br⟩ := hrel
          by_cases hil : i < n
          · have hiI : (i : Int) < n := by omega
            have c0 := pairCell0 rr (i := i) (by rw [hsl.out]; exact hil)
            have c1 := pairCell1 rr (i := i) (by rw [hsl.out]; exact hil)
            have hsm := pr.small i hil
            have CW : Hid (∀ wx, P8.PoolAt wx B n st ever → Calls Try.prog 19 #[.pointer (some ⟨B + 1, 0, none⟩), .int .i64 (i : Int)] wx fun e w' => e = .returned (.string ⟨(P8.pad ((st.getD i none).getD [])).toArray⟩) ∧ w' = wx) := fun wx h => raw_yes B n i st ever wx h hil
            obtain ⟨tx, htx⟩ : ∃ tx : ByteArray, tx = ⟨((st.getD i none).getD []).toArray⟩ := ⟨_, rfl⟩
            have htl : tx.data.toList = (st.getD i none).getD [] := by rw [htx]
            rw [← htx] at c1
            rw [← htl] at CW hsm
            have hts : tx.size ≤ 512 := by rw [← size_toLP tx]; exact hsm
            obtain ⟨m, hm⟩ : ∃ m, m = 512 - tx.size := ⟨_, rfl⟩
            have hwm : IntKind.i64.wrap (512 - (tx.size : Int)) = (m : Int) := by rw [IntKind.wrap_i64]; omega
            have hwm2 : (512 : Int) - (tx.size : Int) = (m : Int) := by omega
            have hwm3 : IntKind.i64.wrap (m : Int) = (m : Int) := by rw [IntKind.wrap_i64]; omega
            have CRm : Hid (∀ wx, Calls Try.prog 20 #[.string ⟨#[0]⟩, .int .i64 (m : Int)] wx fun e w' => e = .returned (.string ⟨(List.replicate m (0 : UInt8)).toArray⟩) ∧ Below wx.heap.size wx w') := fun wx => CR.out wx m (by omega)
            have hpd : (⟨(P8.pad tx.data.toList).toArray⟩ : ByteArray) = tx ++ ⟨(List.replicate m (0 : UInt8)).toArray⟩ := Go.WideShapes.bytes_inj (by simp [P8.pad, hm])
            have hzs : (⟨(List.replicate m (0 : UInt8)).toArray⟩ : ByteArray).size = m := by show (List.replicate m (0 : UInt8)).toArray.size = m; rw [List.size_toArray, List.length_replicate]
            rw [hpd] at CW
            generalize (⟨(List.replicate m (0 : UInt8)).toArray⟩ : ByteArray) = Z at *
            have hadd := fun wx => run_string_add_sum (P := Try.prog) wx tx Z (by omega)
            obtain ⟨v, hv⟩ : ∃ v, v = tx ++ Z := ⟨_, rfl⟩
            rw [← hv] at hadd CW
            have pA := pr.below ((Below.refl wr.heap.size wr).alloc (Nat.le_refl _) (.cells #[.bool (st.getD i none).isSome, .string tx] 36 (0, 0))) pr.fits
            have rA := rr.alloc (.cells #[.bool (st.getD i none).isSome, .string tx] 36 (0, 0))
            have bA := br.alloc br.size (.cells #[.bool (st.getD i none).isSome, .string tx] 36 (0, 0))
            have ra : Row (wr.alloc (.cells #[.bool (st.getD i none).isSome, .string tx] 36 (0, 0))) wr.heap.size 36 [.bool (st.getD i none).isSome, .string tx] := Row.new' rfl rfl
            clear hm hv htl htx hsm hpd CR hzs
            generalize (st.getD i none).isSome = hb at *
            go_upto_region 55 with fail
            obtain ⟨a, ha⟩ : ∃ a, a = wr.heap.size := ⟨_, rfl⟩
            rw [← ha] at ra ⊢
            generalize wr.alloc (.cells #[.bool hb, .string tx] 36 (0, 0)) = wA at *
            have cT := (ra.cell 1).trans (show ([.bool hb, .string tx] : List Value)[1]? = some (.string tx) from rfl)
            have hal := ra.lt
            clear ha pr rr br c0 c1
            refine wp_region_held_drew (S := fun w' => w'.cell? ⟨a, 1, none⟩ = some (.string tx) ∧ P8.PoolAt w' B n st ever ∧ Row w' g 36 (P8.ones st) ∧ Below w.heap.size w w') (by kernel_rfl) ⟨cT, pA.drew, rA.drew, bA.drew⟩ (fun hHeld => ?_)
            clear cT pA rA bA ra hal
            refine take_d 0 (some 248) (.pointer (some ⟨B + 1, 0, none⟩)) rfl (by kernel_rfl) (by kernel_rfl) (by kernel_rfl) (fun _ _ _ h => h) (fun oi h => by cases h; exact Or.inl ⟨by rfl, fun w' hS' => by go_simp⟩) hHeld ?_
            try simp only [Act.put, List.setIfInBounds_toArray, List.set_cons_zero, List.set_cons_succ]
            refine take_d 1 (some 249) (.int .i64 (i : Int)) rfl (by kernel_rfl) (by kernel_rfl) (by kernel_rfl) (fun _ _ _ h => h) (fun oi h => by cases h; exact Or.inl ⟨by rfl, fun w' hS' => by go_simp⟩) hHeld ?_
            try simp only [Act.put, List.setIfInBounds_toArray, List.set_cons_zero, List.set_cons_succ]
            refine take_d 3 (some 251) (.pointer (some ⟨a, 1, none⟩)) rfl (by kernel_rfl) (by kernel_rfl) (by kernel_rfl) (fun _ _ _ h => h) (fun oi h => by cases h; exact Or.inl ⟨by rfl, fun w' hS' => by go_simp⟩) hHeld ?_
            try simp only [Act.put, List.setIfInBounds_toArray, List.set_cons_zero, List.set_cons_succ]
            refine take_d 4 (some 252) (.string tx) rfl (by kernel_rfl) (by kernel_rfl) (by kernel_rfl) (fun _ _ _ h => h) (fun oi h => by cases h; exact Or.inl ⟨by rfl, fun w' hS' => by have hc := hS'.1; go_simp⟩) hHeld ?_
            try simp only [Act.put, List.setIfInBounds_toArray, List.set_cons_zero, List.set_cons_succ]
            refine take_d 5 (some 253) (.pointer (some ⟨a, 1, none⟩)) rfl (by kernel_rfl) (by kernel_rfl) (by kernel_rfl) (fun _ _ _ h => h) (fun oi h => by cases h; exact Or.inl ⟨by rfl, fun w' hS' => by go_simp⟩) hHeld ?_
            try simp only [Act.put, List.setIfInBounds_toArray, List.set_cons_zero, List.set_cons_succ]
            refine take_d 6 (some 254) (.string tx) rfl (by kernel_rfl) (by kernel_rfl) (by kernel_rfl) (fun _ _ _ h => h) (fun oi h => by cases h; exact Or.inl ⟨by rfl, fun w' hS' => by have hc := hS'.1; go_simp⟩) hHeld ?_
            try simp only [Act.put, List.setIfInBounds_toArray, List.set_cons_zero, List.set_cons_succ]
            refine take_d 7 (some 255) (.int .i64 (tx.size : Int)) rfl (by kernel_rfl) (by kernel_rfl) (by kernel_rfl) (fun _ _ _ h => h) (fun oi h => by cases h; exact Or.inl ⟨by rfl, fun w' hS' => by go_simp⟩) hHeld ?_
            try simp only [Act.put, List.setIfInBounds_toArray, List.set_cons_zero, List.set_cons_succ]
            refine take_d 8 (some 256) (.int .i64 (m : Int)) rfl (by kernel_rfl) (by kernel_rfl) (by kernel_rfl) (fun _ _ _ h => h) (fun oi h => by cases h; exact Or.inl ⟨by rfl, fun w' hS' => by go_simp⟩) hHeld ?_
            try simp only [Act.put, List.setIfInBounds_toArray, List.set_cons_zero, List.set_cons_succ]
            refine one_d 2 (some 250) rfl (by kernel_rfl) ?_
            intro o ho' hd K' hK
            cases ho'
            go_simp
            refine (CW.out _ hHeld.2.1).mono ?_
            rintro e wq ⟨rfl, rfl⟩
            refine hK.out _ _ hHeld (fun hHeld => ?_)
            clear hK K' hd
            try simp only [Act.put, List.setIfInBounds_toArray, List.set_cons_zero, List.set_cons_succ]
            refine one_d 9 (some 257) rfl (by kernel_rfl) ?_
            intro o ho' hd K' hK
            cases ho'
            go_simp
            refine (CRm.out _).mono ?_
            rintro e wq ⟨rfl, bq⟩
            have hS2 : wq.cell? ⟨a, 1, none⟩ = some (.string tx) ∧ P8.PoolAt wq B n st ever ∧ Row wq g 36 (P8.ones st) ∧ Below w.heap.size w wq := ⟨(bq.cell (p := ⟨a, 1, none⟩) (cell_lt_block hHeld.1)).trans hHeld.1, hHeld.2.1.below bq hHeld.2.1.fits, hHeld.2.2.1.below bq hHeld.2.2.1.lt, hHeld.2.2.2.trans (bq.mono hHeld.2.2.2.size)⟩
            clear bq hHeld
            refine hK.out _ _ hS2 (fun hHeld => ?_)
            clear hK K' hS2 hd
            try simp only [Act.put, List.setIfInBounds_toArray, List.set_cons_zero, List.set_cons_succ]
            refine take_d 10 (some 258) (.string v) rfl (by kernel_rfl) (by kernel_rfl) (by kernel_rfl) (fun _ _ _ h => h) (fun oi h => by cases h; exact Or.inl ⟨by rfl, fun w' hS' => by go_simp⟩) hHeld ?_
            try simp only [Act.put, List.setIfInBounds_toArray, List.set_cons_zero, List.set_cons_succ]
            refine take_d 11 (some 259) (.bool false) rfl (by kernel_rfl) (by kernel_rfl) (by kernel_rfl) (fun _ _ _ h => h) (fun oi h => by cases h; exact Or.inl ⟨by rfl, fun w' hS' => by go_simp⟩) hHeld ?_
            try simp only [Act.put, List.setIfInBounds_toArray, List.set_cons_zero, List.set_cons_succ]
            obtain ⟨_, pZ, rZ, bZ⟩ := hHeld
            refine wpAnyH_done (by kernel_rfl) ?_ _
            try simp only [Act.put]
            go_wp2
            go_roundg (n - (i + 1))
            case measure => omega
            case rel => exact ⟨i + 1, by omega, by omega, by go_num, pZ, rZ, bZ⟩
          · have hnI : ¬ (i : Int) < n := by omega
            have C1 := Lib.hid (HN.out wr pr (by omega))
            have C2 := Lib.hid (HM.out wr pr (by omega))
            clear HN HM CR
            go_wp2_with fail
            refine C1.out.mono ?_
            rintro e wr ⟨rfl, rfl⟩
            go_wp2_with fail
            refine C2.out.mono ?_
            rintro e wr ⟨rfl, rfl⟩
            clear C1 C2
            go_wp2
            go_ret
            exact ⟨rfl, br⟩

end Go.Proofs.Ytealpdofcgbnlaa.PoolTurnsW
