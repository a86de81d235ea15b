/-
  Several texts in one module: AMem, ATake, SDrawn, SStep, AMix, AKeys, AEnc.
-/
import Derived.Test.YtbkeodgiflfakaaMod6
import Derived.Test.YtbkeodgiflfakaaMod7
import Derived.Deep.MidRow
import Derived.Deep.RegionHeld3
import Derived.Deep.RegionLaw
import Derived.Laws.CopyOwn
/-
  Layer 5: an array out of, and into, the middle of a row.
-/
namespace Go.Proofs.Ytbkeodgiflfakaa
open Go.RowKit
set_option linter.unusedVariables false
set_option maxRecDepth 20000

theorem Row.rangeOf {w : World} {g t : Nat} {l : List Value} (h : Row w g t l) (o n : Nat) : w.rangeAt g o ((l.drop o).take n) := by
  intro j v hj
  rw [h.cell]
  rw [List.getElem?_take] at hj
  split at hj
  · rwa [List.getElem?_drop] at hj
  · cases hj
theorem Row.there {w : World} {g t : Nat} {l : List Value} (h : Row w g t l) {o n : Nat} (hn : o + n ≤ l.length) : w.there g o n := fun j hj =>
  ⟨by rw [h.cell, List.getElem?_eq_getElem (by omega)]; rfl, h.frozen _⟩
theorem splice_step {α : Type} (l : List α) (o : Nat) (v : α) (r : List α) (h : o + (v :: r).length ≤ l.length) : splice (l.set o v) (o + 1) r = splice l o (v :: r) := by
  simp only [List.length_cons] at h
  unfold splice
  rw [List.take_set, List.drop_set, if_pos (by omega), List.length_cons]
  have h1 : (List.take (o + 1) l).set o v = List.take o l ++ [v] := by
    rw [List.take_succ_eq_append_getElem (by omega), List.set_append_right _ _ (by simp; omega)]
    have : o - (List.take o l).length = 0 := by simp; omega
    rw [this]; rfl
  rw [h1, List.append_assoc, show o + 1 + r.length = o + (r.length + 1) from by omega]
  rfl
theorem Row.setCells {g t : Nat} : ∀ (cs : List Value) (o : Nat) (w : World) (l : List Value), Row w g t l → o + cs.length ≤ l.length → Row (w.setCells g o cs) g t (splice l o cs)
  | [], o, w, l, h, hl => by simpa [splice, World.setCells] using h
  | v :: r, o, w, l, h, hl => by
    have := Row.setCells r (o + 1) _ _ (h.set o v) (by simp only [List.length_cons] at hl; simp; omega)
    rw [splice_step l o v r hl] at this
    exact this
theorem Row.setCells_other {g k t : Nat} (hk : g ≠ k) : ∀ (cs : List Value) (o : Nat) (w : World) (l : List Value), Row w g t l → Row (w.setCells k o cs) g t l
  | [], _, _, _, h => h
  | v :: r, o, w, l, h => Row.setCells_other hk r (o + 1) _ l (h.other hk v)
theorem below_setCells {B g : Nat} {a : World} (hg : B ≤ g) : ∀ (cs : List Value) (o : Nat) (w : World), Below B a w → Below B a (w.setCells g o cs)
  | [], _, _, h => h
  | v :: r, o, w, h => below_setCells hg r (o + 1) _ (h.setCell (by simpa using hg) v)

theorem c8_part (L : List UInt8) (o n : Nat) : ((W.cellsOf L).drop o).take n = W.cellsOf ((L.drop o).take n) := by simp [W.cellsOf, List.map_drop, List.map_take]
theorem c8_splice (L cs : List UInt8) (o : Nat) : splice (W.cellsOf L) o (W.cellsOf cs) = W.cellsOf (splice L o cs) := by simp [W.cellsOf, splice, List.map_drop, List.map_take]

/-- A part of a row, read as an array. -/
theorem load_part {w : World} {g t : Nat} {L x : List UInt8} (h : Row w g t (W.cellsOf L)) (o n : Nat) (hx : (L.drop o).take n = x) (ty : TypeId) (d : TypeDesc) (hu : Try.prog.underlying ty = some d) (hd : d.isRow = true) (hi : (Try.prog.info? ty).map (·.size) = some (W.cellsOf x).length) :
    (Instr.loadAt ty (.pointer (some ⟨g, o, none⟩))).run Try.prog w = .ok (.agg (W.cellsOf x).toArray) w := by
  refine run_loadAt_mid w g o ty _ d ?_ hu hd hi
  have := h.rangeOf o n
  rwa [c8_part, hx] at this
theorem store_part {w : World} {g t : Nat} {L x : List UInt8} (h : Row w g t (W.cellsOf L)) (o : Nat) (hn : o + x.length ≤ L.length) (ty : TypeId) (hi : (Try.prog.info? ty).map (·.size) = some (W.cellsOf x).toArray.size) :
    (Instr.storeAt ty (.pointer (some ⟨g, o, none⟩)) (.agg (W.cellsOf x).toArray)).run Try.prog w = .ok () (w.setCells g o (W.cellsOf x)) :=
  run_storeAt_mid w g o ty _ (by rw [List.size_toArray, c8_len]; exact h.there (by rw [c8_len]; exact hn)) hi (c8_all _)

end Go.Proofs.Ytbkeodgiflfakaa

/-
  A region that draws its order, by hand: take an operation first, whatever its text; the one operation that is left.
-/
namespace Go.Proofs.Ytbkeodgiflfakaa
open Go.RowKit
set_option linter.unusedVariables false
set_option maxRecDepth 20000

theorem take_d {P : Program} {ops : Array Oper} {Q : Exit → Act → World → Prop} {md : Region.Mode} {S : World → Prop} (i : Nat) (d : Option Tmp) (v : Value) {fuel : Nat} {listed : Array Bool} {a : Act} {w : World} (hd : (ops[i]?).map (·.dst) = some d)
    (hs : Region.noSelect ops = true) (hf : Region.free md ops listed i = true) (hr : (Region.ready md ops listed).contains i = true)
    (hQ : ∀ c a w, Q (.panic c) (a.put d v) w → Q (.panic c) a w) (hy : ∀ oi, ops[i]? = some oi → YieldsIf P ops S oi v a) (hS : S w)
    (h : wpAnyH P md ops Q S fuel (listed.setIfInBounds i true) (a.put d v) w) : wpAnyH P md ops Q S (fuel + 1) listed a w := by
  cases e : ops[i]? with
  | none => rw [e] at hd; cases hd
  | some oi =>
    rw [e] at hd
    obtain rfl : oi.dst = d := by simpa using hd
    exact wpAnyH_take e hs hf hr hQ (hy oi e) hS h

theorem one_d {P : Program} {ops : Array Oper} {Q : Exit → Act → World → Prop} {md : Region.Mode} {S : World → Prop} (i : Nat) (d : Option Tmp) {fuel : Nat} {listed : Array Bool} {a : Act} {w : World} (hd : (ops[i]?).map (·.dst) = some d)
    (hr : Region.ready md ops listed = [i])
    (h : ∀ o, ops[i]? = some o → o.dst = d → ∀ K' : Act → World → Prop, Shut (∀ a w, S w → (S w → wpAnyH P md ops Q S fuel (listed.setIfInBounds i true) a w) → K' a w) → if Region.wanted o (yielded ops a.tmps) = true then Oper.wp P o a w K' Q else K' (a.put o.dst undef) w) :
    wpAnyH P md ops Q S (fuel + 1) listed a w := by
  cases e : ops[i]? with
  | none => rw [e] at hd; cases hd
  | some oi =>
    rw [e] at hd
    obtain rfl : oi.dst = d := by simpa using hd
    exact wpAnyH_ready hr (by simp) (AllReadyH.cons e (h oi e rfl) AllReadyH.nil)

theorem two_d {P : Program} {ops : Array Oper} {Q : Exit → Act → World → Prop} {md : Region.Mode} {S : World → Prop} (i j : Nat) {fuel : Nat} {listed : Array Bool} {a : Act} {w : World} {oi oj : Oper} (hi : ops[i]? = some oi) (hj : ops[j]? = some oj)
    (hr : Region.ready md ops listed = [i, j])
    (h1 : ∀ K' : Act → World → Prop, Shut (∀ a w, S w → (S w → wpAnyH P md ops Q S fuel (listed.setIfInBounds i true) a w) → K' a w) → if Region.wanted oi (yielded ops a.tmps) = true then Oper.wp P oi a w K' Q else K' (a.put oi.dst undef) w)
    (h2 : ∀ K' : Act → World → Prop, Shut (∀ a w, S w → (S w → wpAnyH P md ops Q S fuel (listed.setIfInBounds j true) a w) → K' a w) → if Region.wanted oj (yielded ops a.tmps) = true then Oper.wp P oj a w K' Q else K' (a.put oj.dst undef) w) :
    wpAnyH P md ops Q S (fuel + 1) listed a w :=
  wpAnyH_ready hr (by simp) (AllReadyH.cons hi h1 (AllReadyH.cons hj h2 AllReadyH.nil))

end Go.Proofs.Ytbkeodgiflfakaa

/-
  Layer 3: a block's words, drawn out.
-/
namespace Go.Proofs.Ytbkeodgiflfakaa
open Go.RowKit
set_option linter.unusedVariables false
set_option maxRecDepth 20000

/-- What lies in the row behind k words more. -/
def drawnRow (b : List UInt8) (k : Nat) : List Nat := S.ext (S.words16 b) k ++ List.replicate (48 - k) 0
theorem drawnRow_length (b : List UInt8) (k : Nat) (h : k ≤ 48) : (drawnRow b k).length = 64 := by simp [drawnRow, S.ext_length, S.words16_length]; omega
theorem drawnRow_at (b : List UInt8) (k i : Nat) (h : i < 16 + k) : (drawnRow b k).getD i 0 = (S.ext (S.words16 b) k).getD i 0 := by
  simp only [drawnRow, List.getD_eq_getElem?_getD]
  rw [List.getElem?_append_left (by rw [S.ext_length, S.words16_length]; exact h)]
theorem drawnRow_full (b : List UInt8) : drawnRow b 48 = S.sched b := by simp [drawnRow, S.sched]
theorem drawnRow_step (b : List UInt8) (k : Nat) (h : k < 48) : (drawnRow b k).set (16 + k) (S.more (S.ext (S.words16 b) k)) = drawnRow b (k + 1) := by
  unfold drawnRow
  have e : 48 - k = (48 - (k + 1)) + 1 := by omega
  have hl : (S.ext (S.words16 b) k).length = 16 + k := by rw [S.ext_length, S.words16_length]
  rw [e, List.replicate_succ, List.set_append_right _ _ (by omega), hl, Nat.sub_self, List.set_cons_zero]
  simp [S.ext]
theorem drawnRow_ok (b : List UInt8) (k : Nat) : S.Ok (drawnRow b k) := by
  intro x hx
  rcases List.mem_append.1 hx with h | h
  · exact S.ext_ok (S.words16_ok b) k x h
  · have := (List.mem_replicate.1 h).2; omega
theorem splice_front (b : List UInt8) : splice (u32s (List.replicate 64 0)) 0 (u32s (S.words16 b)) = u32s (drawnRow b 0) := by
  unfold splice drawnRow
  rw [u32s_length, S.words16_length]
  simp [u32s, S.ext]

theorem more_is (b : List UInt8) (k : Nat) :
    S.more (S.ext (S.words16 b) k) = (((( (drawnRow b k).getD (k) 0 + S.small ((drawnRow b k).getD (k + 1) 0) 7 18 3) % 4294967296 + (drawnRow b k).getD (k + 9) 0) % 4294967296) + S.small ((drawnRow b k).getD (k + 14) 0) 17 19 10) % 4294967296 := by
  have hl : (S.ext (S.words16 b) k).length = 16 + k := by rw [S.ext_length, S.words16_length]
  rw [drawnRow_at b k _ (by omega), drawnRow_at b k _ (by omega), drawnRow_at b k _ (by omega), drawnRow_at b k _ (by omega)]
  unfold S.more
  rw [hl, show 16 + k - 16 = k from by omega, show 16 + k - 15 = k + 1 from by omega, show 16 + k - 7 = k + 9 from by omega, show 16 + k - 2 = k + 14 from by omega]

set_option maxHeartbeats 1000000 in
theorem drawn_any (b : List UInt8) (hb : b.length = 64) (w : World) :
    Calls Try.prog 95 #[.agg (W.cellsOf b).toArray] w fun e w' => e = .returned (.agg (u32s (S.sched b)).toArray) ∧ Below w.heap.size w w' := by
  have hb' := Lib.hid hb
  clear hb
  have h64 : (Try.prog.info? 110).map (·.size) = some (W.cellsOf b).toArray.size := by rw [List.size_toArray, show (W.cellsOf b).length = b.length from by simp [W.cellsOf], hb'.out]; kernel_rfl
  have h16 : (Try.prog.info? 143).map (·.size) = some (u32s (S.words16 b)).toArray.size := by rw [List.size_toArray, u32s_length, S.words16_length]; kernel_rfl
  go_enter Try.func95, Try.ntmps95
  go_wp2_with (refine wpList_load_row rfl 110 _ rfl w.heap.size rfl _ _ _ _ (((Row.new w _ _).alloc _).alloc _) Try.underlying110 rfl h64 ?_)
  refine (firstWords_any b hb'.out _).mono ?_
  rintro e w1 ⟨rfl, hb1⟩
  go_wp2_with (refine wpList_store_new rfl 143 (.tmp 4) (.tmp 7) rfl w1 _ _ _ _ rfl rfl rfl h16 (by simp [u32s_length, S.words16_length]) (u32s_one _) ?_)
  have r3 : Row w1 (w.heap.size + 1 + 1) 123 (u32s (List.replicate 64 0)) := (Row.new' (by rfl) (by simp)).below hb1 (by simp)
  have r2 : Row w1 (w.heap.size + 1) 123 (u32s (List.replicate 64 0)) := ((Row.new' (by rfl) (by simp)).alloc _).below hb1 (by simp)
  have hz := hb1.size
  simp at hz
  have hb2 : Below w.heap.size w w1 := ((((Below.refl _ _).alloc (Nat.le_refl _) _).alloc (by simp) _).alloc (by simp; omega) _).trans (hb1.mono (by simp; omega))
  clear hb1
  have r4 := (Row.new w1 143 (u32s (S.words16 b))).drew
  have hb4 : Below w.heap.size w (w1.alloc (.cells (u32s (S.words16 b)).toArray 143 (0, 0))).drew := (hb2.alloc (by omega) _).drew
  have l16 : (u32s (S.words16 b)).length = 16 := by rw [u32s_length, S.words16_length]
  have L16 := Lib.hid l16
  clear l16
  go_region_law (refine step_copy_splice rfl (.tmp 8) (.tmp 9) 141 141 rfl 93 Try.underlying141 (by kernel_rfl) _ _ _ _ _ _ rfl rfl (w.heap.size + 1 + 1) 0 _ 123 (r3.alloc _).drew (u32s (S.words16 b)) (by rw [L16.out]; rfl) (fun _ => ⟨rfl, _, rfl, r4.src⟩) (by rw [L16.out]; simp [u32s]) (u32s_cell _) (w.heap.size + 1 + 1) _ (Below.refl _ _) (Nat.le_refl _) ?_; intro w2 hg2 hb5)
  have r3' : Row w2 (w.heap.size + 1 + 1) 123 (u32s (drawnRow b 0)) := by rw [← splice_front]; exact hg2.out
  have r2' : Row w2 (w.heap.size + 1) 123 (u32s (List.replicate 64 0)) := (r2.alloc _).drew.below hb5 (by omega)
  have hb6 : Below w.heap.size w w2 := hb4.trans (hb5.mono (by omega))
  clear hg2 hb5 hb4 r4 r3 r2 hb2 hz
  go_wp2
  go_loopw [5] (fun iv wr => ∃ k : Nat, k ≤ 48 ∧ iv = .int .i64 ((16 + k : Nat) : Int) ∧ Row wr (w.heap.size + 1) 123 (u32s (List.replicate 64 0)) ∧ Row wr (w.heap.size + 1 + 1) 123 (u32s (drawnRow b k)) ∧ Below w.heap.size w wr) (fun iv _ => 64 - (intOf iv).toNat)
  case atStart => exact ⟨0, Nat.zero_le _, rfl, r2', r3', hb6⟩
  case round =>
    clear r2' r3' hb6
    obtain ⟨k, hk, rfl, r2, r3, hbl⟩ := hrel
    by_cases hlt : k < 48
    · have hl := drawnRow_length b k hk
      have ca := (r3.cell k).trans (u32s_at (by omega))
      have cb := (r3.cell (k + 1)).trans (u32s_at (by omega))
      have cc := (r3.cell (k + 9)).trans (u32s_at (by omega))
      have cd := (r3.cell (k + 14)).trans (u32s_at (by omega))
      have ce := (r3.cell (16 + k)).trans (u32s_at (by omega))
      have fe := r3.frozen (16 + k)
      have ha := (drawnRow_ok b k).getD k
      have hb := (drawnRow_ok b k).getD (k + 1)
      have hc := (drawnRow_ok b k).getD (k + 9)
      have hd := (drawnRow_ok b k).getD (k + 14)
      have HM := Lib.hid (more_is b k)
      have HS := Lib.hid (drawnRow_step b k hlt)
      generalize (drawnRow b k).getD k 0 = a at ca ha HM
      generalize (drawnRow b k).getD (k + 1) 0 = b' at cb hb HM
      generalize (drawnRow b k).getD (k + 9) 0 = c at cc hc HM
      generalize (drawnRow b k).getD (k + 14) 0 = d at cd hd HM
      generalize (drawnRow b k).getD (16 + k) 0 = e at ce
      clear hl
      obtain ⟨n, hn⟩ : ∃ n, n = 16 + k := ⟨_, rfl⟩
      obtain ⟨n1, hn1⟩ : ∃ n1, n1 = k + 1 := ⟨_, rfl⟩
      obtain ⟨n9, hn9⟩ : ∃ n9, n9 = k + 9 := ⟨_, rfl⟩
      obtain ⟨n14, hn14⟩ : ∃ n14, n14 = k + 14 := ⟨_, rfl⟩
      rw [← hn] at ce fe ⊢
      rw [← hn1] at cb
      rw [← hn9] at cc
      rw [← hn14] at cd
      have b0 : (k : Int) < 64 := by omega
      have b1 : (n1 : Int) < 64 := by omega
      have b2 : (n9 : Int) < 64 := by omega
      have b3 : (n14 : Int) < 64 := by omega
      have b4 : (n : Int) < 64 := by omega
      have e0 : IntKind.i64.wrap ((n : Int) - 16) = k := by rw [IntKind.wrap_i64]; omega
      have e1 : IntKind.i64.wrap ((n : Int) - 15) = n1 := by rw [IntKind.wrap_i64]; omega
      have e2 : IntKind.i64.wrap ((n : Int) - 7) = n9 := by rw [IntKind.wrap_i64]; omega
      have e3 : IntKind.i64.wrap ((n : Int) - 2) = n14 := by rw [IntKind.wrap_i64]; omega
      have d0 : ¬ k = n ∧ ¬ n = k := by omega
      have d1 : ¬ n1 = n ∧ ¬ n = n1 := by omega
      have d2 : ¬ n9 = n ∧ ¬ n = n9 := by omega
      have d3 : ¬ n14 = n ∧ ¬ n = n14 := by omega
      have K3 : ∀ m, Row ((wr.drewN m).setCell ⟨w.heap.size + 1 + 1, n, none⟩ (.int .u32 ((S.more (S.ext (S.words16 b) k) : Nat) : Int))) (w.heap.size + 1 + 1) 123 (u32s (drawnRow b (k + 1))) := fun m => by
        have := (r3.drewN m).set n (.int .u32 ((S.more (S.ext (S.words16 b) k) : Nat) : Int))
        rw [u32s_set] at this
        rw [← HS.out, ← hn]
        exact this
      have HN := Lib.hid hn
      clear hn hn1 hn9 hn14
      go_wp2
      go_region_held3 (fun w' => w'.cell? ⟨w.heap.size + 1 + 1, k, none⟩ = some (.int .u32 a) ∧ w'.cell? ⟨w.heap.size + 1 + 1, n1, none⟩ = some (.int .u32 b') ∧ w'.cell? ⟨w.heap.size + 1 + 1, n9, none⟩ = some (.int .u32 c) ∧ w'.cell? ⟨w.heap.size + 1 + 1, n14, none⟩ = some (.int .u32 d)) (simp [*, World.cell?_setCell_other])
        (first | (go_at_call_of 103 (Value.int IntKind.i64 7); refine (small7 _ hb _).mono ?_; rintro e w' ⟨rfl, q, rfl⟩) | (go_at_call_of 103 (Value.int IntKind.i64 17); refine (small17 _ hd _).mono ?_; rintro e w' ⟨rfl, q, rfl⟩))
      go_wp2
      go_roundw
      case rel =>
        have hv : ((((a : Int) + (S.small b' 7 18 3 : Nat)) % 4294967296 + c) % 4294967296 + (S.small d 17 19 10 : Nat)) % 4294967296 = ((S.more (S.ext (S.words16 b) k) : Nat) : Int) := by rw [HM.out]; omega
        rw [hv]
        exact ⟨k + 1, by omega, by rw [HN.out]; go_num, (r2.drewN _).other (by omega) _, K3 _, (below_drewM hbl _).setCell (by simp; omega) _⟩
      case measure => simp [intOf]; omega
    · obtain rfl : k = 48 := by omega
      rw [drawnRow_full b] at r3
      have hi : (Try.prog.info? 123).map (·.size) = some (u32s (S.sched b)).toArray.size := by rw [List.size_toArray, u32s_length, S.sched_length]; kernel_rfl
      go_wp2_with (first | refine wpList_load_row rfl 123 _ rfl (w.heap.size + 1 + 1) rfl _ _ _ _ r3 Try.underlying123 rfl hi ?_ | refine wpList_store_row rfl 123 (.tmp 2) (.tmp 38) rfl (w.heap.size + 1) _ rfl rfl _ _ r2 hi (by simp [u32s_length, S.sched_length]) (u32s_one _) ?_)
      exact bodyPost_ret (results_cell_row rfl _ _ (w.heap.size + 1) _ _ _ _ rfl (r2.setRow (u32s (S.sched b))) Try.underlying123 rfl hi) rfl ⟨rfl, below_row hbl (by omega) _⟩

end Go.Proofs.Ytbkeodgiflfakaa

/-
  Layer 3: the words behind a block.
-/
namespace Go.Proofs.Ytbkeodgiflfakaa
open Go.RowKit
set_option linter.unusedVariables false
set_option maxRecDepth 20000

theorem eight {l : List Nat} (h : l.length = 8) : ∃ a b c d e f g i, l = [a, b, c, d, e, f, g, i] := by
  match l, h with
  | [a, b, c, d, e, f, g, i], _ => exact ⟨a, b, c, d, e, f, g, i, rfl⟩

theorem Row.srcTake {w : World} {g t n : Nat} {l : List Value} (h : Row w g t l) : ∀ (j : Nat) v, (l.take n)[j]? = some v → w.cell? ((⟨g, 0, none⟩ : Addr).add j) = some v := by
  intro j v hj
  refine h.src j v ?_
  rw [List.getElem?_take] at hj
  split at hj
  · exact hj
  · cases hj

theorem quiet2 {P : Program} {f : FuncId} {args : Array Value} {w : World} {q n : Nat} {v : Value}
    (h : Calls P f args (w.drewN (q + n)) fun e w' => e = .returned v ∧ w' = w.drewN (q + n)) : Calls P f args (w.drewN (q + n)) fun e w'' => e = .returned v ∧ ∃ m, w'' = w.drewN (q + m) :=
  h.mono fun _ _ ⟨he, hm⟩ => ⟨he, n, hm⟩

theorem Row.under {w w' : World} {B g t : Nat} {l : List Value} (hb : Below B w w') (hg : g < B) (h : Row w g t l) : Row w' g t l := h.below hb hg

theorem x4_is (v0 v1 v2 v3 v4 v5 v6 v7 k x : Nat) :
    ((v3 : Int) + ((v7 : Int) + (S.big v4 6 11 25 : Nat) + (S.ch v4 v5 v6 : Nat) + k + x)) % 4294967296 = (((v3 + S.t1 [v0, v1, v2, v3, v4, v5, v6, v7] k x) % 4294967296 : Nat) : Int) := by
  show _ = (((v3 + ((((v7 + S.big v4 6 11 25) % 4294967296 + S.ch v4 v5 v6) % 4294967296 + k) % 4294967296 + x) % 4294967296) % 4294967296 : Nat) : Int)
  omega
theorem x0_is (v0 v1 v2 v3 v4 v5 v6 v7 k x : Nat) :
    ((v7 : Int) + (S.big v4 6 11 25 : Nat) + (S.ch v4 v5 v6 : Nat) + k + x + ((S.big v0 2 13 22 : Nat) + (S.maj v0 v1 v2 : Nat))) % 4294967296 = (((S.t1 [v0, v1, v2, v3, v4, v5, v6, v7] k x + S.t2 [v0, v1, v2, v3, v4, v5, v6, v7]) % 4294967296 : Nat) : Int) := by
  show _ = (((((((v7 + S.big v4 6 11 25) % 4294967296 + S.ch v4 v5 v6) % 4294967296 + k) % 4294967296 + x) % 4294967296 + (S.big v0 2 13 22 + S.maj v0 v1 v2) % 4294967296) % 4294967296 : Nat) : Int)
  omega

/-- The words behind a block, by whatever constants. -/
def stepK (ks h : List Nat) (b : List UInt8) : List Nat := (List.range 8).map fun i => (h.getD i 0 + (S.rnds ks (S.sched b) h 64).getD i 0) % 4294967296
/-- So many of them already laid over h. -/
def sumRow (h v : List Nat) (k : Nat) : List Nat := ((List.range 8).map fun i => (h.getD i 0 + v.getD i 0) % 4294967296).take k ++ h.drop k
theorem sumRow_length (h v : List Nat) (k : Nat) (hh : h.length = 8) (hk : k ≤ 8) : (sumRow h v k).length = 8 := by simp [sumRow, hh]; omega
theorem sumRow_at (h v : List Nat) (k : Nat) (hh : h.length = 8) (hk : k < 8) : (sumRow h v k).getD k 0 = h.getD k 0 := by
  have hl : (((List.range 8).map fun i => (h.getD i 0 + v.getD i 0) % 4294967296).take k).length = k := by simp; omega
  unfold sumRow
  generalize ((List.range 8).map fun i => (h.getD i 0 + v.getD i 0) % 4294967296).take k = F at hl
  rw [List.getD_eq_getElem?_getD, List.getElem?_append_right (by omega), hl, Nat.sub_self, List.getElem?_drop, Nat.add_zero, List.getD_eq_getElem?_getD]
theorem sumRow_step (h v : List Nat) (k : Nat) (hh : h.length = 8) (hk : k < 8) : (sumRow h v k).set k ((h.getD k 0 + v.getD k 0) % 4294967296) = sumRow h v (k + 1) := by
  have hl : (((List.range 8).map fun i => (h.getD i 0 + v.getD i 0) % 4294967296).take k).length = k := by simp; omega
  unfold sumRow
  rw [List.set_append_right _ _ (by omega), hl, Nat.sub_self, List.drop_eq_getElem_cons (by omega), List.set_cons_zero, List.take_succ_eq_append_getElem (by simp; omega), List.append_assoc]
  simp
theorem sumRow_full (ks h : List Nat) (b : List UInt8) (hh : h.length = 8) : sumRow h (S.rnds ks (S.sched b) h 64) 8 = stepK ks h b := by
  unfold sumRow stepK
  rw [List.drop_eq_nil_of_le (by omega), List.append_nil, List.take_of_length_le (by simp)]

set_option maxHeartbeats 2000000 in
theorem step_any (ks h : List Nat) (b : List UInt8) (hks : ks.length = 64) (oks : S.Ok ks) (hh : h.length = 8) (oh : S.Ok h) (hb : b.length = 64) (w : World) :
    Calls Try.prog 80 #[.agg (u32s h).toArray, .agg (W.cellsOf b).toArray, .agg (u32s ks).toArray] w fun e w' => e = .returned (.agg (u32s (stepK ks h b)).toArray) ∧ Below w.heap.size w w' := by
  have hb' := Lib.hid hb
  have hks' := Lib.hid hks
  have hh' := Lib.hid hh
  clear hb hks hh
  have h64 : (Try.prog.info? 110).map (·.size) = some (W.cellsOf b).toArray.size := by rw [List.size_toArray, show (W.cellsOf b).length = b.length from by simp [W.cellsOf], hb'.out]; kernel_rfl
  have hw64 : (Try.prog.info? 123).map (·.size) = some (u32s (S.sched b)).toArray.size := by rw [List.size_toArray, u32s_length, S.sched_length]; kernel_rfl
  have hh8 : (Try.prog.info? 121).map (·.size) = some (u32s h).toArray.size := by rw [List.size_toArray, u32s_length, hh'.out]; kernel_rfl
  go_enter Try.func80, Try.ntmps80
  go_wp2_with (refine wpList_load_row rfl 110 _ rfl (w.heap.size + 1) rfl _ _ _ _ (((Row.new' rfl (by simp)).alloc _).alloc _) Try.underlying110 rfl h64 ?_)
  refine (drawn_any b hb'.out _).mono ?_
  rintro e w1 ⟨rfl, hb1⟩
  have r0 : Row w1 w.heap.size 121 (u32s h) := ((((Row.new w _ _).alloc _).alloc _).alloc _).below hb1 (by simp; omega)
  have r2 : Row w1 (w.heap.size + 1 + 1) 123 (u32s ks) := ((Row.new' rfl (by simp)).alloc _).below hb1 (by simp)
  have r3 : Row w1 (w.heap.size + 1 + 1 + 1) 121 (u32s (List.replicate 8 0)) := (Row.new' rfl (by simp)).below hb1 (by simp)
  have hz := hb1.size
  simp at hz
  have hb2 : Below w.heap.size w w1 := (((((Below.refl _ _).alloc (Nat.le_refl _) _).alloc (by simp) _).alloc (by simp; omega) _).alloc (by simp; omega) _).trans (hb1.mono (by simp; omega))
  clear hb1
  go_wp2_with (first | refine wpList_store_new rfl 123 (.tmp 7) (.tmp 14) rfl w1 _ _ _ _ rfl rfl rfl hw64 (by simp [u32s_length, S.sched_length]) (u32s_one _) ?_ | refine wpList_load_row rfl 121 (.tmp 3) rfl w.heap.size rfl _ _ _ _ (r0.alloc _) Try.underlying121 rfl hh8 ?_ | refine wpList_store_new rfl 121 (.tmp 8) (.tmp 15) rfl (w1.alloc (.cells (u32s (S.sched b)).toArray 123 (0, 0))) _ _ _ _ rfl (by simp) rfl hh8 (by simp [u32s_length, hh'.out]) (u32s_one _) ?_)
  obtain ⟨gw, hgw⟩ : ∃ gw, gw = w1.heap.size := ⟨_, rfl⟩
  have q0 := (r0.alloc (.cells (u32s (S.sched b)).toArray 123 (0, 0))).alloc (.cells (u32s h).toArray 121 (0, 0))
  have q2 := (r2.alloc (.cells (u32s (S.sched b)).toArray 123 (0, 0))).alloc (.cells (u32s h).toArray 121 (0, 0))
  have q3 := (r3.alloc (.cells (u32s (S.sched b)).toArray 123 (0, 0))).alloc (.cells (u32s h).toArray 121 (0, 0))
  have q4 : Row _ gw 123 (u32s (S.sched b)) := (Row.new' (w := w1) rfl hgw).alloc (.cells (u32s h).toArray 121 (0, 0))
  have q5 : Row ((w1.alloc (.cells (u32s (S.sched b)).toArray 123 (0, 0))).alloc (.cells (u32s h).toArray 121 (0, 0))) (gw + 1) 121 (u32s h) := Row.new' rfl (by simp [hgw])
  have hb3 := (hb2.alloc (by omega) (.cells (u32s (S.sched b)).toArray 123 (0, 0))).alloc (by simp; omega) (.cells (u32s h).toArray 121 (0, 0))
  rw [← hgw]
  have hgz : w.heap.size + 4 ≤ gw := by omega
  clear r0 r2 r3 hb2 hz hgw
  go_loopw [16] (fun iv wr => ∃ j : Nat, j ≤ 64 ∧ iv = .int .i64 j ∧ Row wr w.heap.size 121 (u32s h) ∧ Row wr (w.heap.size + 1 + 1) 123 (u32s ks) ∧ Row wr (w.heap.size + 1 + 1 + 1) 121 (u32s (List.replicate 8 0)) ∧ Row wr gw 123 (u32s (S.sched b)) ∧ Row wr (gw + 1) 121 (u32s (S.rnds ks (S.sched b) h j)) ∧ Below w.heap.size w wr) (fun iv _ => 64 - (intOf iv).toNat)
  case atStart => exact ⟨0, Nat.zero_le _, rfl, q0, q2, q3, q4, q5, hb3⟩
  case round =>
    clear q0 q2 q3 q4 q5 hb3
    obtain ⟨j, hj, rfl, r0, r2, r3, rw, ra, hbl⟩ := hrel
    by_cases hlt : j < 64
    · have ov : S.Ok (S.rnds ks (S.sched b) h j) := S.rnds_ok oh j
      have HR : Hid (S.rnds ks (S.sched b) h (j + 1) = S.rnd (S.rnds ks (S.sched b) h j) (ks.getD j 0) ((S.sched b).getD j 0)) := rfl
      obtain ⟨v0, v1, v2, v3, v4, v5, v6, v7, hv⟩ := eight (S.rnds_length (ks := ks) (ws := S.sched b) hh'.out j)
      rw [hv] at ra ov HR
      clear hv
      have ck := (r2.cell j).trans (u32s_at (by rw [hks'.out]; exact hlt))
      have cw := (rw.cell j).trans (u32s_at (by rw [S.sched_length]; exact hlt))
      generalize ks.getD j 0 = k at ck HR
      generalize (S.sched b).getD j 0 = x at cw HR
      have c0 : wr.cell? ⟨gw + 1, 0, none⟩ = some (.int .u32 v0) := ra.cell 0
      have c1 : wr.cell? ⟨gw + 1, 1, none⟩ = some (.int .u32 v1) := ra.cell 1
      have c2 : wr.cell? ⟨gw + 1, 2, none⟩ = some (.int .u32 v2) := ra.cell 2
      have c4 : wr.cell? ⟨gw + 1, 4, none⟩ = some (.int .u32 v4) := ra.cell 4
      have c5 : wr.cell? ⟨gw + 1, 5, none⟩ = some (.int .u32 v5) := ra.cell 5
      have c6 : wr.cell? ⟨gw + 1, 6, none⟩ = some (.int .u32 v6) := ra.cell 6
      have c7 : wr.cell? ⟨gw + 1, 7, none⟩ = some (.int .u32 v7) := ra.cell 7
      have o0 : v0 < 4294967296 := ov v0 (by simp)
      have o1 : v1 < 4294967296 := ov v1 (by simp)
      have o2 : v2 < 4294967296 := ov v2 (by simp)
      have o4 : v4 < 4294967296 := ov v4 (by simp)
      have o5 : v5 < 4294967296 := ov v5 (by simp)
      have o6 : v6 < 4294967296 := ov v6 (by simp)
      have bj : (j : Int) < 64 := by omega
      clear ov
      go_wp2
      go_quiet (first | (go_at_call 96; exact Calls.quiet_of_same (big6 _ o4 _)) | (go_at_call 97; exact Calls.quiet_of_same (choice_any _ _ _ o4 o5 o6 _)))
      go_wp2
      go_quiet (first | (go_at_call 96; exact quiet2 (big2 _ o0 _)) | (go_at_call 98; exact quiet2 (majority_any _ _ _ o0 o1 o2 _)))
      go_wp2
      have hl7 : ((u32s [v0, v1, v2, v3, v4, v5, v6, v7]).take 7).length = Nat.min 7 7 := rfl
      have hf7 : 1 + ((u32s [v0, v1, v2, v3, v4, v5, v6, v7]).take 7).length ≤ (u32s [v0, v1, v2, v3, v4, v5, v6, v7]).length := Nat.le_refl 8
      have HL7 := Lib.hid hl7
      clear hl7
      go_region_law (refine step_copy_splice rfl (.tmp 52) (.tmp 53) 141 141 rfl 93 Try.underlying141 (by kernel_rfl) _ _ _ _ _ _ rfl rfl (gw + 1) 1 _ 121 ra ((u32s [v0, v1, v2, v3, v4, v5, v6, v7]).take 7) HL7.out (fun _ => ⟨rfl, _, rfl, ra.srcTake⟩) hf7 (fun v hv => u32s_cell _ v (List.mem_of_mem_take hv)) (gw + 1) _ (Below.refl _ _) (Nat.le_refl _) ?_; intro w2 hg2 hb5)
      have s0 := Row.under hb5 (by omega) (show Row _ w.heap.size _ _ from r0)
      have s2 := Row.under hb5 (by omega) (show Row _ (w.heap.size + 1 + 1) _ _ from r2)
      have s3 := Row.under hb5 (by omega) (show Row _ (w.heap.size + 1 + 1 + 1) _ _ from r3)
      have s4 := Row.under hb5 (by omega) (show Row _ gw _ _ from rw)
      have sa : Row w2 (gw + 1) 121 (u32s [v0, v0, v1, v2, v3, v4, v5, v6]) := hg2.out
      have hb6 : Below w.heap.size w w2 := (((below_drewM hbl _).trans (Below.refl _ _)).trans ((below_drewM (Below.refl _ _) _).drew)).trans (hb5.mono (by omega))
      clear hg2 hb5 HL7 hf7 r0 r2 r3 rw ra hbl c0 c1 c2 c4 c5 c6 c7 ck cw
      have d4 : w2.cell? ⟨gw + 1, 4, none⟩ = some (.int .u32 v3) := sa.cell 4
      have d0 : w2.cell? ⟨gw + 1, 0, none⟩ = some (.int .u32 v0) := sa.cell 0
      have f4 := sa.frozen 4
      have f0 := sa.frozen 0
      go_wp2
      go_roundw
      case rel =>
        rw [x4_is v0 v1 v2 v3 v4 v5 v6 v7 k x, x0_is v0 v1 v2 v3 v4 v5 v6 v7 k x]
        refine ⟨j + 1, by omega, by go_num, (s0.other (by omega) _).other (by omega) _, (s2.other (by omega) _).other (by omega) _, (s3.other (by omega) _).other (by omega) _, (s4.other (by omega) _).other (by omega) _, ?_, (hb6.setCell (by simp; omega) _).setCell (by simp; omega) _⟩
        rw [HR.out]
        exact (sa.set 4 _).set 0 _
      case measure => simp [intOf]; omega
    · obtain rfl : j = 64 := by omega
      clear r2 rw
      have ov : S.Ok (S.rnds ks (S.sched b) h 64) := S.rnds_ok oh 64
      have lv : (S.rnds ks (S.sched b) h 64).length = 8 := S.rnds_length hh'.out 64
      have HF := Lib.hid (sumRow_full ks h b hh'.out)
      generalize S.rnds ks (S.sched b) h 64 = v at ra ov lv HF
      have lv' := Lib.hid lv
      clear lv
      have r0' : Row wr w.heap.size 121 (u32s (sumRow h v 0)) := by
        have e : sumRow h v 0 = h := by simp [sumRow]
        rw [e]; exact r0
      go_wp2
      go_loopw [65] (fun iv wx => ∃ j : Nat, j ≤ 8 ∧ iv = .int .i64 j ∧ Row wx w.heap.size 121 (u32s (sumRow h v j)) ∧ Row wx (w.heap.size + 1 + 1 + 1) 121 (u32s (List.replicate 8 0)) ∧ Row wx (gw + 1) 121 (u32s v) ∧ Below w.heap.size w wx) (fun iv _ => 8 - (intOf iv).toNat)
      case atStart => exact ⟨0, Nat.zero_le _, rfl, r0', r3, ra, hbl⟩
      case round =>
        clear r0 r0' r3 ra hbl
        obtain ⟨j, hj, rfl, r0, r3, ra, hbl⟩ := hrel
        by_cases hlt : j < 8
        · have cj := (r0.cell j).trans (u32s_at (by rw [sumRow_length h v j hh'.out hj]; exact hlt))
          have cv := (ra.cell j).trans (u32s_at (by rw [lv'.out]; exact hlt))
          rw [sumRow_at h v j hh'.out hlt] at cj
          have fj := r0.frozen j
          have bj : (j : Int) < 8 := by omega
          have HS := Lib.hid (sumRow_step h v j hh'.out hlt)
          generalize h.getD j 0 = a at cj HS
          generalize v.getD j 0 = c at cv HS
          go_wp2
          go_region
          go_wp2
          go_roundw
          case rel =>
            have e : ((a : Int) + c) % 4294967296 = (((a + c) % 4294967296 : Nat) : Int) := by omega
            rw [e]
            refine ⟨j + 1, by omega, by go_num, ?_, (r3.other (by omega) _).drew, (ra.other (by omega) _).drew, (hbl.setCell (by simp) _).drew⟩
            rw [← HS.out, ← u32s_set]
            exact (r0.set j _).drew
          case measure => simp [intOf]; omega
        · obtain rfl : j = 8 := by omega
          rw [HF.out] at r0
          have hi : (Try.prog.info? 121).map (·.size) = some (u32s (stepK ks h b)).toArray.size := by rw [List.size_toArray, u32s_length, show (stepK ks h b).length = 8 from by simp [stepK]]; kernel_rfl
          go_wp2_with (first | refine wpList_load_row rfl 121 _ rfl w.heap.size rfl _ _ _ _ r0 Try.underlying121 rfl hi ?_ | refine wpList_store_row rfl 121 (.tmp 6) (.tmp 77) rfl (w.heap.size + 1 + 1 + 1) _ rfl rfl _ _ r3 hi (by simp [u32s_length, stepK]) (u32s_one _) ?_)
          exact bodyPost_ret (results_cell_row rfl _ _ (w.heap.size + 1 + 1 + 1) _ _ _ _ rfl (r3.setRow (u32s (stepK ks h b))) Try.underlying121 rfl hi) rfl ⟨rfl, below_row hbl (by omega) _⟩

end Go.Proofs.Ytbkeodgiflfakaa

/-
  Layer 5: mixed.
-/
namespace Go.Proofs.Ytbkeodgiflfakaa
open Go.RowKit
set_option linter.unusedVariables false
set_option maxRecDepth 20000

set_option maxHeartbeats 400000 in
theorem below_any (x : List UInt8) (hx : x.length = 4) (g r k : Nat) (hr : r < 4) (hk : k < 4) (w : World) (hw : Row w g 131 (W.cellsOf x)) :
    Calls Try.prog 89 #[.int .i64 (r : Int), .int .i64 (k : Int), .pointer (some ⟨g, 0, none⟩)] w fun e w' => e = .returned (.int .u8 ((x.getD ((r + k) % 4) 0).toNat : Int)) ∧ w' = w := by
  have hm : (r + k) % 4 < 4 := Nat.mod_lt _ (by decide)
  have c := (hw.cell ((r + k) % 4)).trans (c8_at (by rw [hx]; exact hm))
  generalize x.getD ((r + k) % 4) 0 = v at *
  have hq : ((r : Int) + k) % 4 = (((r + k) % 4 : Nat) : Int) := by omega
  generalize (r + k) % 4 = q at *
  go_enter Try.func89, Try.ntmps89
  go_wp2
  go_ret
  exact ⟨rfl, rfl⟩

theorem Row.srcAt {w : World} {g t o : Nat} {l cs : List Value} (h : Row w g t l) (hcs : ∀ (j : Nat) v, cs[j]? = some v → l[o + j]? = some v) : ∀ (j : Nat) v, cs[j]? = some v → w.cell? ((⟨g, o, none⟩ : Addr).add j) = some v := by
  intro j v hj
  have e : (⟨g, o, none⟩ : Addr).add j = ⟨g, o + j, none⟩ := by unfold Addr.add; split <;> simp_all
  rw [e, h.cell]; exact hcs j v hj

theorem splice_whole {cur cs : List Value} (h : cs.length = cur.length) : splice cur 0 cs = cs := by simp [splice, h]

theorem mix_at (b : List UInt8) (j r : Nat) (hj : j < 4) (hr : r < 4) (hb : b.length = 16) :
    (E.mix b).getD (4 * j + r) 0 = E.mix1 (((b.drop (4 * j)).take 4).getD ((r + 0) % 4) 0) (((b.drop (4 * j)).take 4).getD ((r + 1) % 4) 0) (((b.drop (4 * j)).take 4).getD ((r + 2) % 4) 0) (((b.drop (4 * j)).take 4).getD ((r + 3) % 4) 0) := by
  have h (i : Nat) : ((b.drop (4 * j)).take 4).getD (i % 4) 0 = b.getD (4 * j + i % 4) 0 := by
    have : i % 4 < 4 := Nat.mod_lt _ (by decide)
    simp [List.getD_eq_getElem?_getD, this]
  rw [h, h, h, h]
  have h1 : (4 * j + r) / 4 * 4 = 4 * j := by omega
  have h2 : (4 * j + r) % 4 = r := by omega
  simp only [E.mix, List.getD_eq_getElem?_getD, List.getElem?_map]
  rw [List.getElem?_range (by omega)]
  simp only [Option.map_some, Option.getD_some]
  rw [h1, h2, show (r + 0) % 4 = r from by omega]

set_option maxHeartbeats 2000000 in
theorem mix_any (b : List UInt8) (hb : b.length = 16) (w : World) :
    Calls Try.prog 74 #[.agg (W.cellsOf b).toArray] w fun e w' => e = .returned (.agg (W.cellsOf (E.mix b)).toArray) ∧ Below w.heap.size w w' := by
  have HB := Lib.hid hb
  clear hb
  have hF : (E.mix b).length = b.length := by rw [E.mix_length, HB.out]
  have HFull := Lib.hid (E.fill_full (E.mix_length b) HB.out)
  have HF := Lib.hid hF
  clear hF
  go_enter Try.func74, Try.ntmps74
  go_wp2
  go_loopw [3, 4, 5, 6, 7, 8] (fun av _ _ _ _ _ wr => ∃ j : Nat, j ≤ 4 ∧ av = .int .i64 ((4 * j : Nat) : Int) ∧ Row wr w.heap.size 51 (W.cellsOf (E.fill (E.mix b) b (4 * j))) ∧ Row wr (w.heap.size + 1) 51 (W.cellsOf (List.replicate 16 0)) ∧ Below w.heap.size w wr) (fun av _ _ _ _ _ _ => 16 - (intOf av).toNat)
  case atStart =>
    refine ⟨0, Nat.zero_le _, rfl, ?_, ?_, ?_⟩
    · rw [show 4 * 0 = 0 from rfl, E.fill_zero]; exact (Row.new w _ _).alloc _
    · exact Row.new' rfl (by simp)
    · exact ((Below.refl _ _).alloc (Nat.le_refl _) _).alloc (by simp) _
  case round =>
    obtain ⟨j, hj, rfl, r0, r1, hbl⟩ := hrel
    by_cases hlt : j < 4
    · have hs : ((4 * j : Nat) : Int) < 16 := by omega
      generalize hat : 4 * j = p at *
      have hs' : (p : Int) ≤ 16 := by omega
      have hne : ¬ 16 = p := by omega
      have hp16 : p + 4 ≤ 16 := by omega
      have hxl : ((b.drop p).take 4).length = 4 := by simp [HB.out]; omega
      have HX := Lib.hid hxl
      have HSL : Hid (∀ (j : Nat) v, (W.cellsOf ((b.drop p).take 4))[j]? = some v → (W.cellsOf (E.fill (E.mix b) b p))[p + j]? = some v) := by
        intro j v hj
        have hl : ((E.mix b).take p).length = p := by rw [List.length_take, E.mix_length]; omega
        have hj4 : j < 4 := by
          have := (List.getElem?_eq_some_iff.1 hj).1
          rw [c8_len, hxl] at this; exact this
        simp only [W.cellsOf, List.getElem?_map, List.getElem?_take, hj4, if_true, List.getElem?_drop] at hj ⊢
        unfold E.fill
        rw [List.getElem?_append_right (by omega), hl, List.getElem?_drop, show p + (p + j - p) = p + j from by omega]
        exact hj
      have HM : Hid (∀ r, r < 4 → (E.mix b).getD (p + r) 0 = E.mix1 (((b.drop p).take 4).getD ((r + 0) % 4) 0) (((b.drop p).take 4).getD ((r + 1) % 4) 0) (((b.drop p).take 4).getD ((r + 2) % 4) 0) (((b.drop p).take 4).getD ((r + 3) % 4) 0)) := fun r hr => by
        rw [← hat]; exact mix_at b j r hlt hr HB.out
      have HN : Hid ((W.cellsOf ((b.drop p).take 4)).length = Nat.min (16 - p) 4) := by
        rw [c8_len, hxl]; show 4 = min (16 - p) 4; omega
      have HF4 : Hid (0 + (W.cellsOf ((b.drop p).take 4)).length ≤ (W.cellsOf (List.replicate 4 0)).length) := by rw [c8_len, hxl, c8_len]; show 0 + 4 ≤ 4; omega
      have HSP : Hid (splice (W.cellsOf (List.replicate 4 0)) 0 (W.cellsOf ((b.drop p).take 4)) = W.cellsOf ((b.drop p).take 4)) := by
        exact splice_whole (by rw [c8_len, c8_len, hxl]; rfl)
      have HAT := Lib.hid hat
      clear hat hxl hj
      go_wp2
      go_region_law (refine step_copy_splice rfl (.tmp 13) (.tmp 15) 78 78 rfl 5 Try.underlying78 (by kernel_rfl) _ _ _ _ _ _ rfl rfl wr.heap.size 0 _ 131 (Row.new' (l := W.cellsOf (List.replicate 4 0)) rfl rfl).drew (W.cellsOf ((b.drop p).take 4)) HN.out (fun _ => ⟨rfl, _, rfl, (Row.drew (r0.alloc _)).srcAt HSL.out⟩) HF4.out (c8_one _) wr.heap.size _ (Below.refl _ _) (Nat.le_refl _) ?_; intro w2 hg2 hb5)
      have s3 : Row w2 wr.heap.size 131 (W.cellsOf ((b.drop p).take 4)) := by have := hg2.out; rw [HSP.out] at this; exact this
      have s0 := Row.below (Row.drew (r0.alloc (Obj.cells #[Value.int .u8 0, Value.int .u8 0, Value.int .u8 0, Value.int .u8 0] 131 (0, 0)))) hb5 r0.lt
      have s1 := Row.below (Row.drew (r1.alloc (Obj.cells #[Value.int .u8 0, Value.int .u8 0, Value.int .u8 0, Value.int .u8 0] 131 (0, 0)))) hb5 r1.lt
      have hbz : w.heap.size + 1 < wr.heap.size := r1.lt
      have sb : Below w.heap.size w w2 := ((hbl.alloc (by omega) _).drew).trans (hb5.mono (by omega))
      clear hg2 hb5 r0 r1 hbl HN HF4 HSP HSL
      generalize (b.drop p).take 4 = x at *
      generalize hgc : wr.heap.size = gc at *
      clear hgc
      clear wr
      go_wp2
      go_loopw [6, 7, 8, 18] (fun _ _ _ iv wy => ∃ r : Nat, r ≤ 4 ∧ iv = .int .i64 r ∧ Row wy w.heap.size 51 (W.cellsOf (E.fill (E.mix b) b (p + r))) ∧ Row wy (w.heap.size + 1) 51 (W.cellsOf (List.replicate 16 0)) ∧ Row wy gc 131 (W.cellsOf x) ∧ Below w.heap.size w wy) (fun _ _ _ iv _ => 4 - (intOf iv).toNat)
      case atStart => exact ⟨0, Nat.zero_le _, rfl, s0, s1, s3, sb⟩
      case round =>
        clear s0 s1 s3 sb
        obtain ⟨r, hr, rfl, r0, r1, r3, hbl⟩ := hrel
        by_cases hlt4 : r < 4
        · have hlen : p + r < b.length := by rw [HB.out]; omega
          have c0 := (r0.cell (p + r)).trans (c8_at (by rw [E.fill_length HF.out]; exact hlen))
          have f0 := r0.frozen (p + r)
          have HMr := HM.out r hlt4
          have C0 : Hid (∀ wx, Row wx gc 131 (W.cellsOf x) → Calls Try.prog 89 #[.int .i64 (r : Int), .int .i64 0, .pointer (some ⟨gc, 0, none⟩)] wx fun e w' => e = .returned (.int .u8 ((x.getD ((r + 0) % 4) 0).toNat : Int)) ∧ w' = wx) := fun wx h => below_any x HX.out gc r 0 hlt4 (by decide) wx h
          have C1 : Hid (∀ wx, Row wx gc 131 (W.cellsOf x) → Calls Try.prog 89 #[.int .i64 (r : Int), .int .i64 1, .pointer (some ⟨gc, 0, none⟩)] wx fun e w' => e = .returned (.int .u8 ((x.getD ((r + 1) % 4) 0).toNat : Int)) ∧ w' = wx) := fun wx h => below_any x HX.out gc r 1 hlt4 (by decide) wx h
          have C2 : Hid (∀ wx, Row wx gc 131 (W.cellsOf x) → Calls Try.prog 89 #[.int .i64 (r : Int), .int .i64 2, .pointer (some ⟨gc, 0, none⟩)] wx fun e w' => e = .returned (.int .u8 ((x.getD ((r + 2) % 4) 0).toNat : Int)) ∧ w' = wx) := fun wx h => below_any x HX.out gc r 2 hlt4 (by decide) wx h
          have C3 : Hid (∀ wx, Row wx gc 131 (W.cellsOf x) → Calls Try.prog 89 #[.int .i64 (r : Int), .int .i64 3, .pointer (some ⟨gc, 0, none⟩)] wx fun e w' => e = .returned (.int .u8 ((x.getD ((r + 3) % 4) 0).toNat : Int)) ∧ w' = wx) := fun wx h => below_any x HX.out gc r 3 hlt4 (by decide) wx h
          have K0 : Hid (∀ wx, Row wx w.heap.size 51 (W.cellsOf (E.fill (E.mix b) b (p + r))) → Row (wx.setCell ⟨w.heap.size, p + r, none⟩ (.int .u8 (((E.mix b).getD (p + r) 0).toNat : Int))) w.heap.size 51 (W.cellsOf (E.fill (E.mix b) b (p + (r + 1))))) := fun wx h0 => by
            have := h0.set (p + r) (.int .u8 (((E.mix b).getD (p + r) 0).toNat : Int))
            rwa [c8_set, E.fill_step HF.out hlen] at this
          generalize x.getD ((r + 0) % 4) 0 = v0 at *
          generalize x.getD ((r + 1) % 4) 0 = v1 at *
          generalize x.getD ((r + 2) % 4) 0 = v2 at *
          generalize x.getD ((r + 3) % 4) 0 = v3 at *
          have x1 := xor8 (E.dbl v0) (E.dbl v1)
          have x2 := xor8 (E.dbl v0 ^^^ E.dbl v1) v1
          have x3 := xor8 (E.dbl v0 ^^^ E.dbl v1 ^^^ v1) v2
          have x4 := xor8 (E.dbl v0 ^^^ E.dbl v1 ^^^ v1 ^^^ v2) v3
          rw [show E.dbl v0 ^^^ E.dbl v1 ^^^ v1 ^^^ v2 ^^^ v3 = (E.mix b).getD (p + r) 0 from HMr.symm] at x4
          generalize E.dbl v0 ^^^ E.dbl v1 ^^^ v1 ^^^ v2 = y3 at *
          generalize E.dbl v0 ^^^ E.dbl v1 ^^^ v1 = y2 at *
          generalize E.dbl v0 ^^^ E.dbl v1 = y1 at *
          clear HMr
          generalize (E.mix b).getD (p + r) 0 = z at *
          have hs4 : (r : Int) < 4 := by omega
          have hpr : (p : Int) + r = ((p + r : Nat) : Int) := by omega
          have hp20 : p + r < 16 := by omega
          generalize hq : p + r = q at *
          have HQ := Lib.hid hq
          clear hq
          go_wp2_with fail
          refine (C0.out _ r3).mono ?_
          rintro e w1 ⟨rfl, rfl⟩
          go_wp2_with fail
          refine (C1.out _ r3).mono ?_
          rintro e w1 ⟨rfl, rfl⟩
          go_wp2_with fail
          refine (double_any v0 _).mono ?_
          rintro e w1 ⟨rfl, rfl⟩
          go_wp2_with fail
          refine (double_any v1 _).mono ?_
          rintro e w1 ⟨rfl, rfl⟩
          go_wp2_with fail
          refine (C2.out _ r3).mono ?_
          rintro e w1 ⟨rfl, rfl⟩
          go_wp2_with fail
          refine (C3.out _ r3).mono ?_
          rintro e w1 ⟨rfl, rfl⟩
          go_wp2
          go_roundw
          case rel => exact ⟨r + 1, by omega, by go_num, K0.out _ r0, r1.other (by omega) _, r3.other (by omega) _, hbl.setCell (by simp) _⟩
          case measure => simp [intOf]; omega
        · obtain rfl : r = 4 := by omega
          go_wp2
          go_roundw
          case rel =>
            refine ⟨j + 1, by omega, ?_, ?_, r1, hbl⟩
            · have := HAT.out; go_num
            · rw [show 4 * (j + 1) = p + 4 from by have := HAT.out; omega]; exact r0
          case measure => simp [intOf]; omega
    · obtain rfl : j = 4 := by omega
      rw [show 4 * 4 = 16 from rfl, HFull.out] at r0
      have hi := info16 (E.mix_length b)
      go_wp2_with (first | refine wpList_load_row rfl 51 _ rfl w.heap.size rfl _ _ _ _ r0 Try.underlying51 rfl hi ?_ | refine wpList_store_row rfl 51 (.tmp 2) (.tmp 47) rfl (w.heap.size + 1) _ rfl rfl _ _ r1 hi (by simp [c8_len, E.mix_length]) (c8_all _) ?_)
      exact bodyPost_ret (results_cell_row rfl _ _ (w.heap.size + 1) _ _ _ _ rfl (r1.setRow (W.cellsOf (E.mix b))) Try.underlying51 rfl hi) rfl ⟨rfl, below_row hbl (by omega) _⟩

end Go.Proofs.Ytbkeodgiflfakaa

/-
  Layer 5: roundKeys.
-/
namespace Go.Proofs.Ytbkeodgiflfakaa
open Go.RowKit
set_option linter.unusedVariables false
set_option maxRecDepth 20000

/-- The row of round keys, so many of them made. -/
def keyRow (k : List UInt8) (i : Nat) : List UInt8 := E.rks k i ++ List.replicate (176 - 16 * i) 0
theorem keyRow_length {k : List UInt8} (h : k.length = 16) {i : Nat} (hi : i ≤ 11) : (keyRow k i).length = 176 := by
  rw [keyRow, List.length_append, E.rks_length h, List.length_replicate]; omega
theorem keyRow_zero (k : List UInt8) : keyRow k 0 = List.replicate 176 0 := rfl
theorem keyRow_full {k : List UInt8} : keyRow k 11 = E.rks k 11 := by
  unfold keyRow; rw [show 176 - 16 * 11 = 0 from rfl, List.replicate_zero, List.append_nil]
theorem keyRow_step {k : List UInt8} (h : k.length = 16) {i : Nat} (hi : i < 11) : splice (keyRow k i) (16 * i) (E.rk k i) = keyRow k (i + 1) := by
  have h1 := E.rks_length h i
  have h2 := E.rk_length h i
  unfold splice keyRow
  rw [List.take_append_of_le_length (by omega), List.take_of_length_le (by omega), List.drop_append, List.drop_eq_nil_of_le (by omega), h1, h2, List.drop_replicate, List.nil_append]
  show _ = (E.rks k i ++ E.rk k i) ++ _
  rw [List.append_assoc]
  congr 3
  omega
theorem keyRow_part {k : List UInt8} (h : k.length = 16) {i m : Nat} (hi : i < m) (hm : m ≤ 11) : ((keyRow k m).drop (16 * i)).take 16 = E.rk k i := by
  induction m with
  | zero => omega
  | succ m ih =>
    have h1 := E.rks_length h m
    have h2 := E.rk_length h m
    by_cases e : i = m
    · subst e
      show ((((E.rks k i ++ E.rk k i) ++ _).drop (16 * i)).take 16) = _
      rw [List.append_assoc, List.drop_append, List.drop_eq_nil_of_le (by omega), h1, Nat.sub_self, List.drop_zero, List.nil_append, List.take_append_of_le_length (by omega), List.take_of_length_le (by omega)]
    · have := ih (by omega) (by omega)
      rw [← this]
      show ((((E.rks k m ++ E.rk k m) ++ _).drop (16 * i)).take 16) = (((E.rks k m ++ _).drop (16 * i)).take 16)
      rw [List.append_assoc, List.drop_append_of_le_length (by omega), List.take_append_of_le_length (by simp; omega), List.drop_append_of_le_length (by omega), List.take_append_of_le_length (by simp; omega)]
theorem rks_part {k : List UInt8} (h : k.length = 16) {i : Nat} (hi : i < 11) : ((E.rks k 11).drop (16 * i)).take 16 = E.rk k i := by
  rw [← keyRow_full]; exact keyRow_part h hi (Nat.le_refl _)
theorem info176 {b : List UInt8} (h : b.length = 176) : (Try.prog.info? 116).map (·.size) = some (W.cellsOf b).toArray.size := by
  rw [List.size_toArray, c8_len, h]; kernel_rfl
theorem info16' {b : List UInt8} (h : b.length = 16) : (Try.prog.info? 51).map (·.size) = some (W.cellsOf b).length := by
  rw [c8_len, h]; kernel_rfl
theorem info256' {b : List UInt8} (h : b.length = 256) : (Try.prog.info? 114).map (·.size) = some (W.cellsOf b).length := by
  rw [c8_len, h]; kernel_rfl

set_option maxHeartbeats 2000000 in
theorem keys_any (k : List UInt8) (hk : k.length = 16) (w : World) :
    Calls Try.prog 72 #[.agg (W.cellsOf k).toArray, .agg (W.cellsOf E.sbox).toArray] w fun e w' => e = .returned (.agg (W.cellsOf (E.rks k 11)).toArray) ∧ Below w.heap.size w w' := by
  have HK := Lib.hid hk
  clear hk
  obtain ⟨box, hbox⟩ : ∃ box, box = E.sbox := ⟨_, rfl⟩
  have HBX := Lib.hid hbox
  have HL : Hid (box.length = 256) := by rw [hbox]; exact E.sbox_length
  rw [← hbox]
  clear hbox
  have hi16 := info16 HK.out
  go_enter Try.func72, Try.ntmps72
  have hzc : Try.zeroCells116 = (W.cellsOf (keyRow k 0)).toArray := by rw [keyRow_zero]; kernel_rfl
  obtain ⟨wa, hwa⟩ : ∃ wa, wa = (((w.alloc (.cells (W.cellsOf k).toArray 51 (0, 0))).alloc (.cells (W.cellsOf box).toArray 114 (0, 0))).alloc (.cells Try.zeroCells116 116 (0, 0))).alloc (.cells Try.zeroCells116 116 (0, 0)) := ⟨_, rfl⟩
  have r0 : Row wa w.heap.size 51 (W.cellsOf k) := by rw [hwa]; exact (((Row.new w _ _).alloc _).alloc _).alloc _
  have r1 : Row wa (w.heap.size + 1) 114 (W.cellsOf box) := by rw [hwa]; exact ((Row.new' rfl (by simp)).alloc _).alloc _
  have r2 : Row wa (w.heap.size + 1 + 1) 116 (W.cellsOf (keyRow k 0)) := by rw [hwa]; exact (Row.new' hzc (by simp)).alloc _
  have r3 : Row wa (w.heap.size + 1 + 1 + 1) 116 (W.cellsOf (keyRow k 0)) := by rw [hwa]; exact Row.new' hzc (by simp)
  have hba : Below w.heap.size w wa := by rw [hwa]; exact ((((Below.refl _ _).alloc (Nat.le_refl _) _).alloc (by simp) _).alloc (by simp; omega) _).alloc (by simp; omega) _
  have ht := r3.there (o := 0) (n := (W.cellsOf k).toArray.size) (by rw [List.size_toArray, c8_len, c8_len, keyRow_length HK.out (by decide), HK.out]; decide)
  have q0 := Row.setCells_other (show w.heap.size ≠ w.heap.size + 1 + 1 + 1 by omega) (W.cellsOf k) 0 _ _ r0
  have q1 := Row.setCells_other (show w.heap.size + 1 ≠ w.heap.size + 1 + 1 + 1 by omega) (W.cellsOf k) 0 _ _ r1
  have q2 := Row.setCells_other (show w.heap.size + 1 + 1 ≠ w.heap.size + 1 + 1 + 1 by omega) (W.cellsOf k) 0 _ _ r2
  have q3 := Row.setCells (W.cellsOf k) 0 _ _ r3 (by rw [c8_len, c8_len, keyRow_length HK.out (by decide), HK.out]; decide)
  rw [c8_splice, show splice (keyRow k 0) 0 k = keyRow k 1 from keyRow_step HK.out (i := 0) (by decide)] at q3
  have qb := below_setCells (show w.heap.size ≤ w.heap.size + 1 + 1 + 1 by omega) (W.cellsOf k) 0 _ hba
  clear hba r1 r2 r3
  subst hwa
  go_wp2_with (first | refine wpList_load_row rfl 51 _ rfl w.heap.size rfl _ _ _ _ r0 Try.underlying51 rfl hi16 ?_ | refine wpList_store_mid rfl 51 (.tmp 9) (.tmp 8) rfl (w.heap.size + 1 + 1 + 1) 0 _ rfl rfl ht hi16 (c8_all _) ?_)
  go_loopw [6, 7, 10] (fun cv _ iv wr => ∃ i : Nat, i ≤ 10 ∧ iv = .int .i64 i ∧ cv = .int .u8 ((E.dblN 1 i).toNat : Int) ∧ Row wr w.heap.size 51 (W.cellsOf k) ∧ Row wr (w.heap.size + 1) 114 (W.cellsOf box) ∧ Row wr (w.heap.size + 1 + 1) 116 (W.cellsOf (keyRow k 0)) ∧ Row wr (w.heap.size + 1 + 1 + 1) 116 (W.cellsOf (keyRow k (i + 1))) ∧ Below w.heap.size w wr) (fun _ _ iv _ => 10 - (intOf iv).toNat)
  case atStart => exact ⟨0, Nat.zero_le _, rfl, rfl, q0, q1, q2, q3, qb⟩
  case round =>
    clear q0 q1 q2 q3 qb ht r0 hzc
    obtain ⟨i, hi, rfl, rfl, r0, r1, r2, r3, hbl⟩ := hrel
    by_cases hlt : i < 10
    · have hs : (i : Int) < 10 := by omega
      have HD : Hid (E.dblN 1 (i + 1) = E.dbl (E.dblN 1 i)) := rfl
      have HRL := Lib.hid (E.rk_length HK.out i)
      have HRL1 := Lib.hid (E.rk_length HK.out (i + 1))
      have HP := Lib.hid (keyRow_part HK.out (i := i) (m := i + 1) (by omega) (by omega))
      have HST := Lib.hid (keyRow_step HK.out (i := i + 1) (by omega))
      have HKL := Lib.hid (keyRow_length HK.out (i := i + 1) (by omega))
      have CN : Hid (∀ wx, Calls Try.prog 88 #[.agg (W.cellsOf (E.rk k i)).toArray, .int .u8 ((E.dblN 1 i).toNat : Int), .agg (W.cellsOf box).toArray] wx fun e w' => e = .returned (.agg (W.cellsOf (E.rk k (i + 1))).toArray) ∧ Below wx.heap.size wx w') := fun wx => by rw [HBX.out]; exact next_any _ _ HRL.out wx
      have CD : Hid (∀ wx, Calls Try.prog 86 #[.int .u8 ((E.dblN 1 i).toNat : Int)] wx fun e w' => e = .returned (.int .u8 ((E.dblN 1 (i + 1)).toNat : Int)) ∧ w' = wx) := fun wx => double_any _ wx
      have hs0 : (i : Int) < 11 := by omega
      have hs1 : (i : Int) + 1 < 11 := by omega
      have hn1 : ¬ ((i : Int) + 1 < 0) := by omega
      have hw1 : IntKind.i64.wrap ((i : Int) + 1) = ((i + 1 : Nat) : Int) := by rw [IntKind.wrap_i64]; omega
      have hu1 : Try.prog.underlying 51 = some (.array 16 5) := Try.underlying51
      have hu2 : Try.prog.underlying 114 = some (.array 256 5) := Try.underlying114
      have hi1 := info16' HRL.out
      have hi2 := info256' HL.out
      have hi3 := info16' HRL1.out
      have hl3 : (W.cellsOf (E.rk k (i + 1))).length = 16 := by rw [c8_len, HRL1.out]
      have ho3 := c8_one (E.rk k (i + 1))
      have l0 : Hid (∀ wx, Row wx (w.heap.size + 1 + 1 + 1) 116 (W.cellsOf (keyRow k (i + 1))) → wx.rangeAt (w.heap.size + 1 + 1 + 1) (i * 16) (W.cellsOf (E.rk k i))) := fun wx h => by have := h.rangeOf (i * 16) 16; rwa [c8_part, Nat.mul_comm i 16, HP.out, Nat.mul_comm 16 i] at this
      have l1 : Hid (∀ wx, Row wx (w.heap.size + 1) 114 (W.cellsOf box) → wx.rangeAt (w.heap.size + 1) 0 (W.cellsOf box)) := fun wx h => by have := h.rangeOf 0 256; rwa [List.drop_zero, List.take_of_length_le (by rw [c8_len, HL.out]; decide)] at this
      have l2 : Hid (∀ wx, Row wx (w.heap.size + 1 + 1 + 1) 116 (W.cellsOf (keyRow k (i + 1))) → wx.there (w.heap.size + 1 + 1 + 1) ((i + 1) * 16) 16) := fun wx h => h.there (by rw [c8_len, HKL.out]; omega)
      go_wp2_with fail
      refine wp_region_held_drew (S := fun w' => w'.rangeAt (w.heap.size + 1 + 1 + 1) (i * 16) (W.cellsOf (E.rk k i)) ∧ w'.rangeAt (w.heap.size + 1) 0 (W.cellsOf box)) (by kernel_rfl) ⟨l0.out _ r3, l1.out _ r1⟩ (fun hHeld => ?_)
      refine take_d 0 (some 13) (.int .i64 (i : Int)) rfl (by kernel_rfl) (by kernel_rfl) (by kernel_rfl) (fun _ _ _ h => h) (fun oi h => by cases h; exact Or.inl ⟨by rfl, fun w' hS' => by go_simp⟩) hHeld ?_
      try simp only [Act.put, List.setIfInBounds_toArray, List.set_cons_zero, List.set_cons_succ]
      refine take_d 1 (some 14) (.int .i64 ((i + 1 : Nat) : Int)) rfl (by kernel_rfl) (by kernel_rfl) (by kernel_rfl) (fun _ _ _ h => h) (fun oi h => by cases h; exact Or.inl ⟨by rfl, fun w' hS' => by go_simp⟩) hHeld ?_
      try simp only [Act.put, List.setIfInBounds_toArray, List.set_cons_zero, List.set_cons_succ]
      refine take_d 2 (some 15) (.int .i64 (i : Int)) rfl (by kernel_rfl) (by kernel_rfl) (by kernel_rfl) (fun _ _ _ h => h) (fun oi h => by cases h; exact Or.inl ⟨by rfl, fun w' hS' => by go_simp⟩) hHeld ?_
      try simp only [Act.put, List.setIfInBounds_toArray, List.set_cons_zero, List.set_cons_succ]
      refine take_d 3 (some 16) (.pointer (some ⟨w.heap.size + 1 + 1 + 1, i * 16, none⟩)) rfl (by kernel_rfl) (by kernel_rfl) (by kernel_rfl) (fun _ _ _ h => h) (fun oi h => by cases h; exact Or.inl ⟨by rfl, fun w' hS' => by go_simp⟩) hHeld ?_
      try simp only [Act.put, List.setIfInBounds_toArray, List.set_cons_zero, List.set_cons_succ]
      refine take_d 4 (some 17) (.agg (W.cellsOf (E.rk k i)).toArray) rfl (by kernel_rfl) (by kernel_rfl) (by kernel_rfl) (fun _ _ _ h => h) (fun oi h => by cases h; exact yieldsIf_load_mid (by rfl) 51 (.tmp 16) rfl (w.heap.size + 1 + 1 + 1) (i * 16) rfl (W.cellsOf (E.rk k i)) _ (fun w' hS' => hS'.1) hu1 rfl hi1) hHeld ?_
      try simp only [Act.put, List.setIfInBounds_toArray, List.set_cons_zero, List.set_cons_succ]
      refine take_d 5 (some 18) (.int .u8 ((E.dblN 1 i).toNat : Int)) rfl (by kernel_rfl) (by kernel_rfl) (by kernel_rfl) (fun _ _ _ h => h) (fun oi h => by cases h; exact Or.inl ⟨by rfl, fun w' hS' => by go_simp⟩) hHeld ?_
      try simp only [Act.put, List.setIfInBounds_toArray, List.set_cons_zero, List.set_cons_succ]
      refine take_d 6 (some 19) (.agg (W.cellsOf box).toArray) rfl (by kernel_rfl) (by kernel_rfl) (by kernel_rfl) (fun _ _ _ h => h) (fun oi h => by cases h; exact yieldsIf_load_mid (by rfl) 114 (.tmp 3) rfl (w.heap.size + 1) 0 rfl (W.cellsOf box) _ (fun w' hS' => hS'.2) hu2 rfl hi2) hHeld ?_
      try simp only [Act.put, List.setIfInBounds_toArray, List.set_cons_zero, List.set_cons_succ]
      refine one_d 7 (some 20) rfl (by kernel_rfl) ?_
      intro o ho hd K hK
      cases ho
      go_simp
      refine (CN.out _).mono ?_
      rintro e w1 ⟨rfl, b1⟩
      have p0 := Row.below r0.drew b1 r0.lt
      have p1 := Row.below r1.drew b1 r1.lt
      have p2 := Row.below r2.drew b1 r2.lt
      have p3 := Row.below r3.drew b1 r3.lt
      have pb : Below w.heap.size w w1 := (hbl.drew).trans (b1.mono hbl.size)
      clear b1 r0 r1 r2 r3 hbl hHeld
      refine hK.out _ _ ⟨l0.out _ p3, l1.out _ p1⟩ (fun hHeld => ?_)
      clear hK K
      try simp only [Act.put, List.setIfInBounds_toArray, List.set_cons_zero, List.set_cons_succ]
      refine take_d 8 (some 21) (.pointer (some ⟨w.heap.size + 1 + 1 + 1, (i + 1) * 16, none⟩)) rfl (by kernel_rfl) (by kernel_rfl) (by kernel_rfl) (fun _ _ _ h => h) (fun oi h => by cases h; exact Or.inl ⟨by rfl, fun w' hS' => by go_simp⟩) hHeld ?_
      try simp only [Act.put, List.setIfInBounds_toArray, List.set_cons_zero, List.set_cons_succ]
      refine one_d 9 none rfl (by kernel_rfl) ?_
      intro o ho hd K hK
      cases ho
      have HT : Hid (w1.there (w.heap.size + 1 + 1 + 1) ((i + 1) * 16) (W.cellsOf (E.rk k (i + 1))).toArray.size) := by have := l2.out _ p3; rw [← hl3] at this; exact this
      rw [if_pos (by rfl)]
      refine wp_store_mid 51 (.tmp 21) (.tmp 20) rfl (w.heap.size + 1 + 1 + 1) ((i + 1) * 16) (W.cellsOf (E.rk k (i + 1))).toArray rfl rfl HT.out (info16 HRL1.out) (c8_all _) ?_
      have q0 := Row.setCells_other (show w.heap.size ≠ w.heap.size + 1 + 1 + 1 by omega) (W.cellsOf (E.rk k (i + 1))) ((i + 1) * 16) _ _ p0
      have q1 := Row.setCells_other (show w.heap.size + 1 ≠ w.heap.size + 1 + 1 + 1 by omega) (W.cellsOf (E.rk k (i + 1))) ((i + 1) * 16) _ _ p1
      have q2 := Row.setCells_other (show w.heap.size + 1 + 1 ≠ w.heap.size + 1 + 1 + 1 by omega) (W.cellsOf (E.rk k (i + 1))) ((i + 1) * 16) _ _ p2
      have q3 := Row.setCells (W.cellsOf (E.rk k (i + 1))) ((i + 1) * 16) _ _ p3 (by rw [c8_len, c8_len, HKL.out, HRL1.out]; omega)
      rw [c8_splice, Nat.mul_comm (i + 1) 16, HST.out, Nat.mul_comm 16 (i + 1)] at q3
      have qb := below_setCells (show w.heap.size ≤ w.heap.size + 1 + 1 + 1 by omega) (W.cellsOf (E.rk k (i + 1))) ((i + 1) * 16) _ pb
      have hre := l0.out _ p3
      have HSA : Hid (_ ∧ _) := ⟨World.rangeAt_setCells_apart hre (w.heap.size + 1 + 1 + 1) ((i + 1) * 16) (W.cellsOf (E.rk k (i + 1))) (.inr (.inl (by rw [c8_len, HRL.out]; omega))), l1.out _ q1⟩
      refine hK.out _ _ HSA.out (fun hHeld => ?_)
      clear hK K hHeld HSA hre HT p0 p1 p2 p3 pb
      refine wpAnyH_done (by kernel_rfl) ?_ _
      try simp only [Act.put]
      generalize w1.setCells (w.heap.size + 1 + 1 + 1) ((i + 1) * 16) (W.cellsOf (E.rk k (i + 1))) = w2 at *
      clear hu1 hu2 hi1 hi2 hi3 hl3 ho3 l0 l1 l2
      go_wp2_with fail
      refine (CD.out _).mono ?_
      rintro e w3 ⟨rfl, rfl⟩
      go_wp2
      go_roundw
      case rel => exact ⟨i + 1, by omega, by go_num, rfl, q0, q1, q2, q3, qb⟩
      case measure => simp [intOf]; omega
    · obtain rfl : i = 10 := by omega
      rw [show 10 + 1 = 11 from rfl, keyRow_full] at r3
      have hi176 := info176 (E.rks_length HK.out 11)
      go_wp2_with (first | refine wpList_load_row rfl 116 _ rfl (w.heap.size + 1 + 1 + 1) rfl _ _ _ _ r3 Try.underlying116 rfl hi176 ?_ | refine wpList_store_row rfl 116 (.tmp 4) (.tmp 25) rfl (w.heap.size + 1 + 1) _ rfl rfl _ _ r2 hi176 (by rw [List.size_toArray, List.size_toArray, c8_len, c8_len, keyRow_length HK.out (by decide), E.rks_length HK.out 11]) (c8_all _) ?_)
      exact bodyPost_ret (results_cell_row rfl _ _ (w.heap.size + 1 + 1) _ _ _ _ rfl (r2.setRow (W.cellsOf (E.rks k 11))) Try.underlying116 rfl hi176) rfl ⟨rfl, below_row hbl (by omega) _⟩

end Go.Proofs.Ytbkeodgiflfakaa

/-
  Layer 5: Encrypt.
-/
namespace Go.Proofs.Ytbkeodgiflfakaa
open Go.RowKit
set_option linter.unusedVariables false
set_option maxRecDepth 20000

theorem info16k {b : List UInt8} (h : b.length = 16) : (Try.prog.info? 53).map (·.size) = some (W.cellsOf b).toArray.size := by
  rw [List.size_toArray, c8_len, h]; kernel_rfl

set_option maxHeartbeats 4000000 in
theorem enc_any (k b : List UInt8) (hk : k.length = 16) (hb : b.length = 16) (w : World) :
    Calls Try.prog 64 #[.agg (W.cellsOf k).toArray, .agg (W.cellsOf b).toArray] w fun e w' => e = .returned (.agg (W.cellsOf (E.enc k b)).toArray) ∧ Below w.heap.size w w' := by
  have HK := Lib.hid hk
  have HB := Lib.hid hb
  clear hk hb
  obtain ⟨box, hbox⟩ : ∃ box, box = E.sbox := ⟨_, rfl⟩
  have HL : Hid (box.length = 256) := by rw [hbox]; exact E.sbox_length
  have CBX : Hid (∀ wx, Calls Try.prog 71 #[] wx fun e w' => e = .returned (.agg (W.cellsOf box).toArray) ∧ Below wx.heap.size wx w') := fun wx => by rw [hbox]; exact box_any wx
  have CKS : Hid (∀ wx, Calls Try.prog 72 #[.agg (W.cellsOf k).toArray, .agg (W.cellsOf box).toArray] wx fun e w' => e = .returned (.agg (W.cellsOf (E.rks k 11)).toArray) ∧ Below wx.heap.size wx w') := fun wx => by rw [hbox]; exact keys_any k HK.out wx
  have CSH : Hid (∀ x : List UInt8, x.length = 16 → ∀ wx, Calls Try.prog 75 #[.agg (W.cellsOf x).toArray, .agg (W.cellsOf box).toArray] wx fun e w' => e = .returned (.agg (W.cellsOf (E.shift x)).toArray) ∧ Below wx.heap.size wx w') := fun x hx wx => by rw [hbox]; exact shift_any x hx wx
  clear hbox
  have CMX : Hid (∀ x : List UInt8, x.length = 16 → ∀ wx, Calls Try.prog 74 #[.agg (W.cellsOf x).toArray] wx fun e w' => e = .returned (.agg (W.cellsOf (E.mix x)).toArray) ∧ Below wx.heap.size wx w') := fun x hx wx => mix_any x hx wx
  have COV : Hid (∀ x y : List UInt8, x.length = 16 → y.length = 16 → ∀ wx, Calls Try.prog 73 #[.agg (W.cellsOf x).toArray, .agg (W.cellsOf y).toArray] wx fun e w' => e = .returned (.agg (W.cellsOf (E.over x y)).toArray) ∧ Below wx.heap.size wx w') := fun x y hx hy wx => over_any x y hx hy wx
  have hikk := info16k HK.out
  have hik := info16 HK.out
  have hib := info16 HB.out
  have hibx := info256 HL.out
  have HRKS := Lib.hid (E.rks_length HK.out 11)
  have hiks := info176 HRKS.out
  have HO1 : Hid (Try.zeroCells114.size = (W.cellsOf box).toArray.size) := by
    have h1 : Try.zeroCells114.size = 256 := by kernel_rfl
    have h2 : (W.cellsOf box).toArray.size = 256 := by rw [List.size_toArray, c8_len, HL.out]
    exact h1.trans h2.symm
  have HO2 : Hid (Try.zeroCells116.size = (W.cellsOf (E.rks k 11)).toArray.size) := by
    have h1 : Try.zeroCells116.size = 176 := by kernel_rfl
    have h2 : (W.cellsOf (E.rks k 11)).toArray.size = 176 := by rw [List.size_toArray, c8_len, HRKS.out]
    exact h1.trans h2.symm
  have HP0 := Lib.hid (rks_part HK.out (i := 0) (by decide))
  go_enter Try.func64, Try.ntmps64
  go_wp2_with fail
  refine (CBX.out _).mono ?_
  rintro e w1 ⟨rfl, b1⟩
  have r0 : Row w1 w.heap.size 53 (W.cellsOf k) := Row.below (((Row.new w _ _).alloc _).alloc _) b1 (by simp; omega)
  have r1 : Row w1 (w.heap.size + 1) 51 (W.cellsOf b) := Row.below ((Row.new' rfl (by simp)).alloc _) b1 (by simp)
  have r2 : Row w1 (w.heap.size + 1 + 1) 51 (W.cellsOf (List.replicate 16 0)) := Row.below (Row.new' rfl (by simp)) b1 (by simp)
  have hz := b1.size
  simp at hz
  have hb1 : Below w.heap.size w w1 := ((((Below.refl _ _).alloc (Nat.le_refl _) _).alloc (by simp) _).alloc (by simp; omega) _).trans (b1.mono (by simp; omega))
  clear b1
  have r0a := r0.alloc (.cells (W.cellsOf box).toArray 114 (0, 0))
  have r3a : Row (w1.alloc (.cells (W.cellsOf box).toArray 114 (0, 0))) w1.heap.size 114 (W.cellsOf box) := Row.new' rfl rfl
  go_wp2_with (first | refine wpList_store_new rfl 114 (.tmp 5) (.tmp 8) rfl w1 _ _ _ _ rfl rfl rfl hibx HO1.out (c8_all _) ?_ | refine wpList_load_row rfl 51 (.tmp 9) rfl w.heap.size rfl _ _ _ _ r0a Try.underlying51 rfl hik ?_ | refine wpList_load_row rfl 114 (.tmp 5) rfl w1.heap.size rfl _ _ _ _ r3a Try.underlying114 rfl hibx ?_)
  refine (CKS.out _).mono ?_
  rintro e w2 ⟨rfl, b2⟩
  have p0 := Row.below r0a b2 (by have := r0.lt; simp; omega)
  have p1 := Row.below (r1.alloc (.cells (W.cellsOf box).toArray 114 (0, 0))) b2 (by have := r1.lt; simp; omega)
  have p2 := Row.below (r2.alloc (.cells (W.cellsOf box).toArray 114 (0, 0))) b2 (by have := r2.lt; simp; omega)
  have p3 := Row.below r3a b2 (by simp)
  have hz2 := b2.size
  simp at hz2
  have hb2 : Below w.heap.size w w2 := (hb1.alloc (by omega) _).trans (b2.mono (by simp; omega))
  generalize hg3 : w1.heap.size = g3 at *
  clear b2 r0 r1 r2 r0a r3a hb1 hg3
  clear w1
  have p1a := p1.alloc (.cells (W.cellsOf (E.rks k 11)).toArray 116 (0, 0))
  have p4a : Row (w2.alloc (.cells (W.cellsOf (E.rks k 11)).toArray 116 (0, 0))) w2.heap.size 116 (W.cellsOf (E.rks k 11)) := Row.new' rfl rfl
  have HR0 := Lib.hid (E.rk_length HK.out 0)
  have hrg : (w2.alloc (.cells (W.cellsOf (E.rks k 11)).toArray 116 (0, 0))).rangeAt w2.heap.size 0 (W.cellsOf (E.rk k 0)) := by
    have := p4a.rangeOf 0 16
    rw [c8_part, show 0 = 16 * 0 from rfl, HP0.out] at this; exact this
  have hir0 := info16' HR0.out
  go_wp2_with (first | refine wpList_store_new rfl 116 (.tmp 6) (.tmp 12) rfl w2 _ _ _ _ rfl rfl rfl hiks HO2.out (c8_all _) ?_ | refine wpList_load_row rfl 51 (.tmp 3) rfl (w.heap.size + 1) rfl _ _ _ _ p1a Try.underlying51 rfl hib ?_ | refine wpList_load_mid rfl 51 (.tmp 14) rfl w2.heap.size 0 rfl _ _ hrg Try.underlying51 rfl hir0 ?_)
  refine (COV.out b (E.rk k 0) HB.out HR0.out _).mono ?_
  rintro e w3 ⟨rfl, b3⟩
  have q1 := Row.below p1a b3 (by have := p1.lt; simp; omega)
  have q2 := Row.below (p2.alloc (.cells (W.cellsOf (E.rks k 11)).toArray 116 (0, 0))) b3 (by have := p2.lt; simp; omega)
  have q3 := Row.below (p3.alloc (.cells (W.cellsOf (E.rks k 11)).toArray 116 (0, 0))) b3 (by have := p3.lt; simp; omega)
  have q4 := Row.below p4a b3 (by simp)
  have hz3 : w.heap.size + 1 + 1 < g3 := by omega
  have hz4 : g3 < w2.heap.size := by omega
  have hb3 : Below w.heap.size w w3 := (hb2.alloc (by omega) _).trans (b3.mono (by simp; omega))
  generalize hg4 : w2.heap.size = g4 at *
  clear b3 p0 p1 p2 p3 p1a p4a hb2 hrg hz2 hz hg4
  clear w2
  have hs1 := info16 (E.over_length b (E.rk k 0))
  go_wp2_with (first | refine wpList_store_row rfl 51 (.tmp 3) (.tmp 16) rfl (w.heap.size + 1) _ rfl rfl _ _ q1 hs1 (by rw [List.size_toArray, List.size_toArray, c8_len, c8_len, HB.out, E.over_length]) (c8_all _) ?_)
  have v1 := q1.setRow (W.cellsOf (E.over b (E.rk k 0)))
  have v2 := q2.setRow_other (show w.heap.size + 1 + 1 ≠ w.heap.size + 1 by omega) (W.cellsOf (E.over b (E.rk k 0))).toArray
  have v3 := q3.setRow_other (show g3 ≠ w.heap.size + 1 by omega) (W.cellsOf (E.over b (E.rk k 0))).toArray
  have v4 := q4.setRow_other (show g4 ≠ w.heap.size + 1 by omega) (W.cellsOf (E.over b (E.rk k 0))).toArray
  have vb := below_row hb3 (show w.heap.size ≤ w.heap.size + 1 by omega) (W.cellsOf (E.over b (E.rk k 0))).toArray
  clear q1 q2 q3 q4 hb3 hs1 hikk hik hib hibx hiks hir0 CBX CKS HO1 HO2 HP0 HR0
  go_loopw [7] (fun iv wr => ∃ i : Nat, i ≤ 9 ∧ iv = .int .i64 ((i : Int) + 1) ∧ Row wr (w.heap.size + 1) 51 (W.cellsOf (E.st k b i)) ∧ Row wr (w.heap.size + 1 + 1) 51 (W.cellsOf (List.replicate 16 0)) ∧ Row wr g3 114 (W.cellsOf box) ∧ Row wr g4 116 (W.cellsOf (E.rks k 11)) ∧ Below w.heap.size w wr) (fun iv _ => 10 - (intOf iv).toNat)
  case atStart => exact ⟨0, Nat.zero_le _, rfl, v1, v2, v3, v4, vb⟩
  case round =>
    clear v1 v2 v3 v4 vb
    obtain ⟨i, hi, rfl, r1, r2, r3, r4, rb⟩ := hrel
    have hu1 : Try.prog.underlying 51 = some (.array 16 5) := Try.underlying51
    have hu2 : Try.prog.underlying 114 = some (.array 256 5) := Try.underlying114
    have hi2 := info256' HL.out
    have HSL := Lib.hid (E.st_length k b i)
    have HRL1 := Lib.hid (E.rk_length HK.out (i + 1))
    have hi3 := info16' HSL.out
    have hi4 := info16' HRL1.out
    have HP := Lib.hid (rks_part HK.out (i := i + 1) (by omega))
    have l1 : Hid (∀ wx, Row wx (w.heap.size + 1) 51 (W.cellsOf (E.st k b i)) → wx.rangeAt (w.heap.size + 1) 0 (W.cellsOf (E.st k b i))) := fun wx h => by have := h.rangeOf 0 16; rwa [List.drop_zero, List.take_of_length_le (by rw [c8_len, HSL.out]; decide)] at this
    have l3 : Hid (∀ wx, Row wx g3 114 (W.cellsOf box) → wx.rangeAt g3 0 (W.cellsOf box)) := fun wx h => by have := h.rangeOf 0 256; rwa [List.drop_zero, List.take_of_length_le (by rw [c8_len, HL.out]; decide)] at this
    have l4 : Hid (∀ wx, Row wx g4 116 (W.cellsOf (E.rks k 11)) → wx.rangeAt g4 ((i + 1) * 16) (W.cellsOf (E.rk k (i + 1)))) := fun wx h => by have := h.rangeOf ((i + 1) * 16) 16; rwa [c8_part, Nat.mul_comm (i + 1) 16, HP.out, Nat.mul_comm 16 (i + 1)] at this
    by_cases hlt : i < 9
    · have hs : (i : Int) + 1 < 10 := by omega
      have hs11 : (i : Int) + 1 < 11 := by omega
      have hn1 : ¬ ((i : Int) + 1 < 0) := by omega
      go_wp2_with fail
      refine wp_region_held_drew (S := fun w' => w'.rangeAt g3 0 (W.cellsOf box) ∧ w'.rangeAt g4 ((i + 1) * 16) (W.cellsOf (E.rk k (i + 1)))) (by kernel_rfl) ⟨l3.out _ r3, l4.out _ r4⟩ (fun hHeld => ?_)
      refine take_d 1 (some 22) (.agg (W.cellsOf box).toArray) rfl (by kernel_rfl) (by kernel_rfl) (by kernel_rfl) (fun _ _ _ h => h) (fun oi h => by cases h; exact yieldsIf_load_mid (by rfl) 114 (.tmp 5) rfl g3 0 rfl (W.cellsOf box) _ (fun w' hS' => hS'.1) hu2 rfl hi2) hHeld ?_
      try simp only [Act.put, List.setIfInBounds_toArray, List.set_cons_zero, List.set_cons_succ]
      refine take_d 4 (some 25) (.int .i64 ((i : Int) + 1)) rfl (by kernel_rfl) (by kernel_rfl) (by kernel_rfl) (fun _ _ _ h => h) (fun oi h => by cases h; exact Or.inl ⟨by rfl, fun w' hS' => by go_simp⟩) hHeld ?_
      try simp only [Act.put, List.setIfInBounds_toArray, List.set_cons_zero, List.set_cons_succ]
      refine take_d 5 (some 26) (.pointer (some ⟨g4, (i + 1) * 16, none⟩)) rfl (by kernel_rfl) (by kernel_rfl) (by kernel_rfl) (fun _ _ _ h => h) (fun oi h => by cases h; exact Or.inl ⟨by rfl, fun w' hS' => by go_simp⟩) hHeld ?_
      try simp only [Act.put, List.setIfInBounds_toArray, List.set_cons_zero, List.set_cons_succ]
      refine take_d 6 (some 27) (.agg (W.cellsOf (E.rk k (i + 1))).toArray) rfl (by kernel_rfl) (by kernel_rfl) (by kernel_rfl) (fun _ _ _ h => h) (fun oi h => by cases h; exact yieldsIf_load_mid (by rfl) 51 (.tmp 26) rfl g4 ((i + 1) * 16) rfl (W.cellsOf (E.rk k (i + 1))) _ (fun w' hS' => hS'.2) hu1 rfl hi4) hHeld ?_
      try simp only [Act.put, List.setIfInBounds_toArray, List.set_cons_zero, List.set_cons_succ]
      refine one_d 0 (some 21) rfl (by kernel_rfl) ?_
      intro o ho hd K hK
      cases ho
      rw [if_pos (by rfl)]
      refine wp_load_mid 51 (.tmp 3) rfl (w.heap.size + 1) 0 rfl (W.cellsOf (E.st k b i)) _ (l1.out _ r1) hu1 rfl hi3 ?_
      refine hK.out _ _ hHeld (fun hHeld => ?_)
      clear hK K
      try simp only [Act.put, List.setIfInBounds_toArray]
      have d1 := r1.drew
      have d2 := r2.drew
      have d3 := r3.drew
      have d4 := r4.drew
      have db := rb.drew
      clear r1 r2 r3 r4 rb
      refine one_d 2 (some 23) rfl (by kernel_rfl) ?_
      intro o ho hd K hK
      cases ho
      go_simp
      refine (CSH.out _ HSL.out _).mono ?_
      rintro e wA ⟨rfl, bb⟩
      have e1 := Row.below d1 bb d1.lt
      have e2 := Row.below d2 bb d2.lt
      have e3 := Row.below d3 bb d3.lt
      have e4 := Row.below d4 bb d4.lt
      have eb := db.trans (bb.mono db.size)
      clear bb hHeld hd d1 d2 d3 d4 db
      refine hK.out _ _ ⟨l3.out _ e3, l4.out _ e4⟩ (fun hHeld => ?_)
      clear hK K
      try simp only [Act.put, List.setIfInBounds_toArray, List.set_cons_zero, List.set_cons_succ]
      refine one_d 3 (some 24) rfl (by kernel_rfl) ?_
      intro o ho hd K hK
      cases ho
      go_simp
      refine (CMX.out _ (E.shift_length _) _).mono ?_
      rintro e wB ⟨rfl, bb⟩
      have f1 := Row.below e1 bb e1.lt
      have f2 := Row.below e2 bb e2.lt
      have f3 := Row.below e3 bb e3.lt
      have f4 := Row.below e4 bb e4.lt
      have fb := eb.trans (bb.mono eb.size)
      clear bb hHeld hd e1 e2 e3 e4 eb
      refine hK.out _ _ ⟨l3.out _ f3, l4.out _ f4⟩ (fun hHeld => ?_)
      clear hK K
      try simp only [Act.put, List.setIfInBounds_toArray, List.set_cons_zero, List.set_cons_succ]
      refine one_d 7 (some 28) rfl (by kernel_rfl) ?_
      intro o ho hd K hK
      cases ho
      go_simp
      refine (COV.out _ _ (E.mix_length _) HRL1.out _).mono ?_
      rintro e wC ⟨rfl, bb⟩
      have s1 := Row.below f1 bb f1.lt
      have s2 := Row.below f2 bb f2.lt
      have s3 := Row.below f3 bb f3.lt
      have s4 := Row.below f4 bb f4.lt
      have sb := fb.trans (bb.mono fb.size)
      clear bb hHeld hd f1 f2 f3 f4 fb
      refine hK.out _ _ ⟨l3.out _ s3, l4.out _ s4⟩ (fun hHeld => ?_)
      clear hK K
      try simp only [Act.put, List.setIfInBounds_toArray, List.set_cons_zero, List.set_cons_succ]
      refine one_d 8 none rfl (by kernel_rfl) ?_
      intro o ho hd K hK
      cases ho
      have HT : Hid (wC.there (w.heap.size + 1) 0 (W.cellsOf (E.over (E.mix (E.shift (E.st k b i))) (E.rk k (i + 1)))).toArray.size) := by
        have := s1.there (o := 0) (n := 16) (by rw [c8_len, HSL.out]; decide)
        have e : (W.cellsOf (E.over (E.mix (E.shift (E.st k b i))) (E.rk k (i + 1)))).toArray.size = 16 := by rw [List.size_toArray, c8_len, E.over_length]
        rw [← e] at this; exact this
      rw [if_pos (by rfl)]
      refine wp_store_mid 51 (.tmp 3) (.tmp 28) rfl (w.heap.size + 1) 0 (W.cellsOf (E.over (E.mix (E.shift (E.st k b i))) (E.rk k (i + 1)))).toArray rfl rfl HT.out (info16 (E.over_length _ _)) (c8_all _) ?_
      have v1 := Row.setCells (W.cellsOf (E.over (E.mix (E.shift (E.st k b i))) (E.rk k (i + 1)))) 0 _ _ s1 (by rw [c8_len, c8_len, HSL.out, E.over_length]; decide)
      rw [splice_whole (by rw [c8_len, c8_len, HSL.out, E.over_length])] at v1
      have v2 := Row.setCells_other (show w.heap.size + 1 + 1 ≠ w.heap.size + 1 by omega) (W.cellsOf (E.over (E.mix (E.shift (E.st k b i))) (E.rk k (i + 1)))) 0 _ _ s2
      have v3 := Row.setCells_other (show g3 ≠ w.heap.size + 1 by omega) (W.cellsOf (E.over (E.mix (E.shift (E.st k b i))) (E.rk k (i + 1)))) 0 _ _ s3
      have v4 := Row.setCells_other (show g4 ≠ w.heap.size + 1 by omega) (W.cellsOf (E.over (E.mix (E.shift (E.st k b i))) (E.rk k (i + 1)))) 0 _ _ s4
      have vb := below_setCells (show w.heap.size ≤ w.heap.size + 1 by omega) (W.cellsOf (E.over (E.mix (E.shift (E.st k b i))) (E.rk k (i + 1)))) 0 _ sb
      refine hK.out _ _ ⟨l3.out _ v3, l4.out _ v4⟩ (fun hHeld => ?_)
      clear hK K hHeld HT s1 s2 s3 s4 sb l1 l3 l4 hu1 hu2 hi2 hi3 hi4
      refine wpAnyH_done (by kernel_rfl) ?_ _
      try simp only [Act.put]
      have HSI : Hid (E.over (E.mix (E.shift (E.st k b i))) (E.rk k (i + 1)) = E.st k b (i + 1)) := rfl
      generalize wC.setCells (w.heap.size + 1) 0 (W.cellsOf (E.over (E.mix (E.shift (E.st k b i))) (E.rk k (i + 1)))) = wD at *
      rw [HSI.out] at v1
      go_wp2
      go_roundw
      case rel => exact ⟨i + 1, by omega, by go_num, v1, v2, v3, v4, vb⟩
      case measure => simp [intOf]; omega
    · obtain rfl : i = 9 := by omega
      go_wp2_with fail
      refine wp_region_held_drew (S := fun w' => w'.rangeAt g3 0 (W.cellsOf box) ∧ w'.rangeAt g4 ((9 + 1) * 16) (W.cellsOf (E.rk k (9 + 1)))) (by kernel_rfl) ⟨l3.out _ r3, l4.out _ r4⟩ (fun hHeld => ?_)
      refine take_d 1 (some 30) (.agg (W.cellsOf box).toArray) rfl (by kernel_rfl) (by kernel_rfl) (by kernel_rfl) (fun _ _ _ h => h) (fun oi h => by cases h; exact yieldsIf_load_mid (by rfl) 114 (.tmp 5) rfl g3 0 rfl (W.cellsOf box) _ (fun w' hS' => hS'.1) hu2 rfl hi2) hHeld ?_
      try simp only [Act.put, List.setIfInBounds_toArray, List.set_cons_zero, List.set_cons_succ]
      refine take_d 3 (some 32) (.pointer (some ⟨g4, (9 + 1) * 16, none⟩)) rfl (by kernel_rfl) (by kernel_rfl) (by kernel_rfl) (fun _ _ _ h => h) (fun oi h => by cases h; exact Or.inl ⟨by rfl, fun w' hS' => by go_simp⟩) hHeld ?_
      try simp only [Act.put, List.setIfInBounds_toArray, List.set_cons_zero, List.set_cons_succ]
      refine take_d 4 (some 33) (.agg (W.cellsOf (E.rk k (9 + 1))).toArray) rfl (by kernel_rfl) (by kernel_rfl) (by kernel_rfl) (fun _ _ _ h => h) (fun oi h => by cases h; exact yieldsIf_load_mid (by rfl) 51 (.tmp 32) rfl g4 ((9 + 1) * 16) rfl (W.cellsOf (E.rk k (9 + 1))) _ (fun w' hS' => hS'.2) hu1 rfl hi4) hHeld ?_
      try simp only [Act.put, List.setIfInBounds_toArray, List.set_cons_zero, List.set_cons_succ]
      refine one_d 0 (some 29) rfl (by kernel_rfl) ?_
      intro o ho hd K hK
      cases ho
      rw [if_pos (by rfl)]
      refine wp_load_mid 51 (.tmp 3) rfl (w.heap.size + 1) 0 rfl (W.cellsOf (E.st k b 9)) _ (l1.out _ r1) hu1 rfl hi3 ?_
      refine hK.out _ _ hHeld (fun hHeld => ?_)
      clear hK K
      try simp only [Act.put, List.setIfInBounds_toArray]
      have d1 := r1.drew
      have d2 := r2.drew
      have d3 := r3.drew
      have d4 := r4.drew
      have db := rb.drew
      clear r1 r2 r3 r4 rb
      refine one_d 2 (some 31) rfl (by kernel_rfl) ?_
      intro o ho hd K hK
      cases ho
      go_simp
      refine (CSH.out _ HSL.out _).mono ?_
      rintro e wA ⟨rfl, bb⟩
      have e1 := Row.below d1 bb d1.lt
      have e2 := Row.below d2 bb d2.lt
      have e3 := Row.below d3 bb d3.lt
      have e4 := Row.below d4 bb d4.lt
      have eb := db.trans (bb.mono db.size)
      clear bb hHeld hd d1 d2 d3 d4 db
      refine hK.out _ _ ⟨l3.out _ e3, l4.out _ e4⟩ (fun hHeld => ?_)
      clear hK K
      try simp only [Act.put, List.setIfInBounds_toArray, List.set_cons_zero, List.set_cons_succ]
      refine one_d 5 (some 34) rfl (by kernel_rfl) ?_
      intro o ho hd K hK
      cases ho
      go_simp
      refine (COV.out _ _ (E.shift_length _) HRL1.out _).mono ?_
      rintro e wC ⟨rfl, bb⟩
      have s1 := Row.below e1 bb e1.lt
      have s2 := Row.below e2 bb e2.lt
      have s3 := Row.below e3 bb e3.lt
      have s4 := Row.below e4 bb e4.lt
      have sb := eb.trans (bb.mono eb.size)
      clear bb hHeld hd e1 e2 e3 e4 eb
      refine hK.out _ _ ⟨l3.out _ s3, l4.out _ s4⟩ (fun hHeld => ?_)
      clear hK K
      try simp only [Act.put, List.setIfInBounds_toArray, List.set_cons_zero, List.set_cons_succ]
      refine one_d 6 none rfl (by kernel_rfl) ?_
      intro o ho hd K hK
      cases ho
      have HT : Hid (wC.there (w.heap.size + 1 + 1) 0 (W.cellsOf (E.over (E.shift (E.st k b 9)) (E.rk k (9 + 1)))).toArray.size) := by
        have := s2.there (o := 0) (n := 16) (by rw [c8_len]; decide)
        have e : (W.cellsOf (E.over (E.shift (E.st k b 9)) (E.rk k (9 + 1)))).toArray.size = 16 := by rw [List.size_toArray, c8_len, E.over_length]
        rw [← e] at this; exact this
      rw [if_pos (by rfl)]
      refine wp_store_mid 51 (.tmp 4) (.tmp 34) rfl (w.heap.size + 1 + 1) 0 (W.cellsOf (E.over (E.shift (E.st k b 9)) (E.rk k (9 + 1)))).toArray rfl rfl HT.out (info16 (E.over_length _ _)) (c8_all _) ?_
      have v2 := Row.setCells (W.cellsOf (E.over (E.shift (E.st k b 9)) (E.rk k (9 + 1)))) 0 _ _ s2 (by rw [c8_len, c8_len, E.over_length]; decide)
      rw [splice_whole (by rw [c8_len, c8_len, E.over_length]; rfl)] at v2
      have v3 := Row.setCells_other (show g3 ≠ w.heap.size + 1 + 1 by omega) (W.cellsOf (E.over (E.shift (E.st k b 9)) (E.rk k (9 + 1)))) 0 _ _ s3
      have v4 := Row.setCells_other (show g4 ≠ w.heap.size + 1 + 1 by omega) (W.cellsOf (E.over (E.shift (E.st k b 9)) (E.rk k (9 + 1)))) 0 _ _ s4
      have vb := below_setCells (show w.heap.size ≤ w.heap.size + 1 + 1 by omega) (W.cellsOf (E.over (E.shift (E.st k b 9)) (E.rk k (9 + 1)))) 0 _ sb
      refine hK.out _ _ ⟨l3.out _ v3, l4.out _ v4⟩ (fun hHeld => ?_)
      clear hK K hHeld HT s1 s2 s3 s4 sb l1 l3 l4 hu1 hu2 hi2 hi3 hi4
      refine wpAnyH_done (by kernel_rfl) ?_ _
      try simp only [Act.put]
      have HSI : Hid (E.over (E.shift (E.st k b 9)) (E.rk k (9 + 1)) = E.enc k b) := rfl
      generalize wC.setCells (w.heap.size + 1 + 1) 0 (W.cellsOf (E.over (E.shift (E.st k b 9)) (E.rk k (9 + 1)))) = wD at *
      rw [HSI.out] at v2
      have hiE := info16 (E.enc_length k b)
      go_wp2_with fail
      exact bodyPost_ret (results_cell_row rfl _ _ (w.heap.size + 1 + 1) _ _ _ _ rfl v2 Try.underlying51 rfl hiE) rfl ⟨rfl, vb⟩

end Go.Proofs.Ytbkeodgiflfakaa
