/-
  Layer 4: a key's block; one byte laid over each of its bytes.
-/
import Derived.Test.YtbkeodgiflfakaaHPlain
import Derived.Test.YtbkeodgiflfakaaSAwake
namespace Go.Proofs.Ytbkeodgiflfakaa
open Go.RowKit
set_option linter.unusedVariables false
set_option maxRecDepth 20000

/-- copy(dst, s), in a region in the text's order. -/
theorem wpList_copy_text {P : Program} {w : World} {ops : Array Oper} {rest : List Oper} {o : Oper} {a : Act} {Q : Exit → Act → World → Prop} (hgd : o.guard = none) (d x : Operand) (dT sT : TypeId)
    (ho : o.op = .call { callee := .builtin .copy, args := #[d, x], argTypes := #[dT, sT] }) (elem : TypeId) (hu : P.underlying dT = some (.slice elem)) (hs : (P.info? elem).map (·.size) = some 1)
    (g off dLen dCap k : Nat) (hd : a.eval d = .slice (some ⟨g, off, none⟩) dLen dCap) (s : ByteArray) (hx : a.eval x = .string s) (cur : List Value) (t : TypeId) (hg : Row w g t cur) (hk : Nat.min s.size dLen = k) (hfit : off + k ≤ cur.length)
    (h : ∀ w', Hid (Row w' g t (splice cur off (W.cellsOf (s.data.toList.take k)))) → Below g w w' → wpList P ops Q rest (a.put o.dst (goInt k)) w') : wpList P ops Q (o :: rest) a w := by
  refine wpList_plain hgd fun K hK => ?_
  have hrun := run_copy_text (P := P) w dT sT o.type elem g off dLen dCap k s cur t hu hs hg hk hfit
  unfold Oper.wp
  simp [execOp, ho, resolve, invoke, builtin, hd, hx, hrun, Result.andThen]
  exact hK _ _ (h _ (hg.setRow _) (below_row (Below.refl _ _) (Nat.le_refl _) _))

theorem splice_key (k : List UInt8) (h : k.length ≤ 64) : splice (W.cellsOf (List.replicate 64 0)) 0 (W.cellsOf k) = W.cellsOf (k ++ List.replicate (64 - k.length) 0) := by
  have e : W.cellsOf (List.replicate 64 0) = List.replicate 64 (Value.int .u8 0) := rfl
  have e2 : ∀ n, W.cellsOf (List.replicate n 0) = List.replicate n (Value.int .u8 0) := fun n => by unfold W.cellsOf; rw [List.map_replicate]; rfl
  have e3 : W.cellsOf (k ++ List.replicate (64 - k.length) 0) = W.cellsOf k ++ W.cellsOf (List.replicate (64 - k.length) 0) := by unfold W.cellsOf; rw [List.map_append]
  rw [e3, e2, e2]
  unfold splice
  rw [List.take_zero, List.nil_append, Nat.zero_add, List.drop_replicate, cellsOf_len]

theorem isStrs_at (w : World) (t : TypeId) (xs : List ByteArray) (A : Array Value) (hA : A = (xs.map Value.string).toArray) (n : Nat) (hn : n = xs.length) (g : Nat) (hg : g = w.heap.size) : IsStrs (w.alloc (.cells A t (0, 0))) (.slice (some ⟨g, 0, none⟩) n n) xs := by
  subst hg; exact isStrs_new w t xs A hA n hn

set_option maxHeartbeats 1000000 in
/-- The block of a key of at most 64 bytes. -/
theorem keyBlock_short (key : ByteArray) (hk : key.size ≤ 64) (w : World) :
    Calls Try.prog 66 #[.string key] w fun e w' => e = .returned (.agg (W.cellsOf (H.keyL key.data.toList)).toArray) ∧ Below w.heap.size w w' := by
  have hlen : key.data.toList.length = key.size := by simp
  have hK : H.keyL key.data.toList = key.data.toList ++ List.replicate (64 - key.data.toList.length) 0 := by
    unfold H.keyL H.short; rw [if_neg (by omega)]
  have hi : (Try.prog.info? 110).map (·.size) = some (W.cellsOf (H.keyL key.data.toList)).toArray.size := by rw [List.size_toArray, cellsOf_len, H.keyL_length]; kernel_rfl
  have HM : Hid (Nat.min key.size 64 = key.size) := Nat.min_eq_left hk
  have HE : Hid (key.data.toList.take key.size = key.data.toList) := List.take_of_length_le (by omega)
  have HK := Lib.hid hK
  have HLN := Lib.hid hlen
  clear hK hlen
  go_enter Try.func66, Try.ntmps66
  go_wp2_with (refine wpList_copy_text rfl (.tmp 10) (.tmp 11) 78 9 rfl 5 Try.underlying78 (by kernel_rfl) (w.heap.size + 1) 0 64 64 key.size rfl key rfl _ _ (Row.new' (l := W.cellsOf (List.replicate 64 0)) rfl (by simp)) HM.out ?hf ?_)
  case hf => rw [cellsOf_len, List.length_replicate]; omega
  intro w1 h1 b1
  have r1 : Row w1 (w.heap.size + 1) 110 (W.cellsOf (H.keyL key.data.toList)) := by
    have := h1.out
    rw [HE.out] at this
    have e := splice_key key.data.toList (by rw [HLN.out]; exact hk)
    rw [← HK.out] at e
    exact (congrArg (Row w1 (w.heap.size + 1) 110) e).mp this
  have r0 : Row w1 w.heap.size 110 (W.cellsOf (List.replicate 64 0)) := ((Row.new' rfl rfl).alloc _).below b1 (by omega)
  have b2 : Below w.heap.size w w1 := ((((Below.refl _ _).alloc (Nat.le_refl _) _).alloc (by simp) _)).trans (b1.mono (by omega))
  clear h1 b1
  go_wp2_with (first | refine wpList_load_row rfl 110 _ rfl (w.heap.size + 1) rfl _ _ _ _ r1 Try.underlying110 rfl hi ?_ | refine wpList_store_row rfl 110 (.tmp 2) (.tmp 13) rfl w.heap.size _ rfl rfl _ _ r0 hi (by simp [cellsOf_len, H.keyL_length]) (cellsOf_all _) ?_)
  exact bodyPost_ret (results_cell_row rfl _ _ w.heap.size _ _ _ _ rfl (r0.setRow (W.cellsOf (H.keyL key.data.toList))) Try.underlying110 rfl hi) rfl ⟨rfl, below_row b2 (Nat.le_refl _) _⟩

set_option maxHeartbeats 1000000 in
/-- The block of a longer key. -/
theorem keyBlock_long (key : ByteArray) (hk : 64 < key.size) (hm : key.size ≤ 1000000) (w : World) :
    Calls Try.prog 66 #[.string key] w fun e w' => e = .returned (.agg (W.cellsOf (H.keyL key.data.toList)).toArray) ∧ Below w.heap.size w w' := by
  have hlen : key.data.toList.length = key.size := by simp
  have hK : H.keyL key.data.toList = S.sumL key.data.toList ++ List.replicate (64 - (S.sumL key.data.toList).length) 0 := by
    unfold H.keyL H.short; rw [if_pos (by omega)]
  have hi : (Try.prog.info? 110).map (·.size) = some (W.cellsOf (H.keyL key.data.toList)).toArray.size := by rw [List.size_toArray, cellsOf_len, H.keyL_length]; kernel_rfl
  have HK := Lib.hid hK
  clear hK
  go_enter Try.func66, Try.ntmps66
  go_wp2_with fail
  refine (text_any _ [key] _ (isStrs_at _ _ [key] _ rfl 1 rfl _ (by simp)) (by simp) (by rw [show allOf [key] = key.data.toList from by simp [allOf]]; omega)).mono ?_
  rintro e w1 ⟨rfl, b1⟩
  have hall : allOf [key] = key.data.toList := by simp [allOf]
  rw [hall]
  have r0 : Row w1 w.heap.size 110 (W.cellsOf (List.replicate 64 0)) := ((Row.new' rfl rfl).alloc _).below b1 (by simp; omega)
  have b1' : Below w.heap.size w w1 := (((Below.refl _ _).alloc (Nat.le_refl _) _).alloc (by simp) _).trans (b1.mono (by simp; omega))
  have z1 := r0.lt
  obtain ⟨t, ht⟩ : ∃ t : ByteArray, t = ⟨(S.sumL key.data.toList).toArray⟩ := ⟨_, rfl⟩
  have hts : t.size = 32 := by rw [ht]; exact sum_size _
  have htd : t.data.toList = S.sumL key.data.toList := by rw [ht]
  rw [← ht]
  have HM : Hid (Nat.min t.size 64 = 32) := by show Nat.min t.size 64 = 32; rw [hts]; rfl
  have HE : Hid (t.data.toList.take 32 = S.sumL key.data.toList) := by show List.take 32 _ = _; rw [htd, List.take_of_length_le (by rw [S.sumL_length]; exact Nat.le_refl _)]
  clear ht hts htd b1 hall
  go_wp2_with (refine wpList_copy_text rfl (.tmp 10) (.tmp 11) 78 9 rfl 5 Try.underlying78 (by kernel_rfl) w1.heap.size 0 64 64 32 rfl t rfl _ _ (Row.new' (l := W.cellsOf (List.replicate 64 0)) rfl rfl) HM.out (by simp [cellsOf_len]) ?_)
  intro w2 h2 b2
  have r1 : Row w2 w1.heap.size 110 (W.cellsOf (H.keyL key.data.toList)) := by
    have := h2.out
    rw [HE.out] at this
    have e := splice_key (S.sumL key.data.toList) (by rw [S.sumL_length]; decide)
    rw [← HK.out] at e
    exact (congrArg (Row w2 w1.heap.size 110) e).mp this
  have r0' : Row w2 w.heap.size 110 (W.cellsOf (List.replicate 64 0)) := (r0.alloc _).below b2 z1
  have b3 : Below w.heap.size w w2 := (b1'.alloc b1'.size _).trans (b2.mono b1'.size)
  clear h2 b2 r0 b1'
  obtain ⟨g, hg⟩ : ∃ g, g = w1.heap.size := ⟨_, rfl⟩
  rw [← hg] at r1 ⊢
  clear hg
  go_wp2_with (first | refine wpList_load_row rfl 110 _ rfl g rfl _ _ _ _ r1 Try.underlying110 rfl hi ?_ | refine wpList_store_row rfl 110 (.tmp 2) (.tmp 13) rfl w.heap.size _ rfl rfl _ _ r0' hi (by simp [cellsOf_len, H.keyL_length]) (cellsOf_all _) ?_)
  exact bodyPost_ret (results_cell_row rfl _ _ w.heap.size _ _ _ _ rfl (r0'.setRow (W.cellsOf (H.keyL key.data.toList))) Try.underlying110 rfl hi) rfl ⟨rfl, below_row b3 (Nat.le_refl _) _⟩

theorem keyBlock_any (key : ByteArray) (hm : key.size ≤ 1000000) (w : World) :
    Calls Try.prog 66 #[.string key] w fun e w' => e = .returned (.agg (W.cellsOf (H.keyL key.data.toList)).toArray) ∧ Below w.heap.size w w' := by
  by_cases hk : key.size ≤ 64
  · exact keyBlock_short key hk w
  · exact keyBlock_long key (by omega) hm w

/-- What lies in the row behind k bytes. -/
def overRow (b : List UInt8) (p : UInt8) (k : Nat) : List UInt8 := H.over (b.take k) p ++ b.drop k
theorem overRow_step (b : List UInt8) (p : UInt8) (k : Nat) (h : k < b.length) : (overRow b p k).set k (b[k] ^^^ p) = overRow b p (k + 1) := by
  have hl : (H.over (b.take k) p).length = k := by rw [H.over_length, List.length_take]; omega
  unfold overRow
  rw [List.set_append_right _ _ (by omega), hl, Nat.sub_self, List.drop_eq_getElem_cons h, List.set_cons_zero, List.take_succ_eq_append_getElem h]
  simp only [H.over, List.map_append, List.append_assoc, List.map_cons, List.map_nil, List.cons_append, List.nil_append]
theorem overRow_at (b : List UInt8) (p : UInt8) (k : Nat) (h : k < b.length) : (overRow b p k)[k]? = some b[k] := by
  have hl : (H.over (b.take k) p).length = k := by rw [H.over_length, List.length_take]; omega
  unfold overRow
  rw [List.getElem?_append_right (by omega), hl, Nat.sub_self, List.drop_eq_getElem_cons h]
  rfl
theorem cellsOf_set (l : List UInt8) (i : Nat) (x : UInt8) : (W.cellsOf l).set i (.int .u8 (x.toNat : Int)) = W.cellsOf (l.set i x) := by simp [W.cellsOf, List.map_set]

set_option maxHeartbeats 1000000 in
theorem laidOver_any (b : List UInt8) (hb : b.length = 64) (p : UInt8) (w : World) :
    Calls Try.prog 67 #[.agg (W.cellsOf b).toArray, .int .u8 (p.toNat : Int)] w fun e w' => e = .returned (.string ⟨(H.over b p).toArray⟩) ∧ Below w.heap.size w w' := by
  have HBL := Lib.hid hb
  clear hb
  go_enter Try.func67, Try.ntmps67
  go_wp2
  go_loopw [6] (fun iv wr => ∃ k : Nat, k ≤ 64 ∧ iv = .int .i64 k ∧ Row wr w.heap.size 110 (W.cellsOf (overRow b p k)) ∧ Below w.heap.size w wr) (fun iv _ => 64 - (intOf iv).toNat)
  case atStart => exact ⟨0, Nat.zero_le _, rfl, by rw [show overRow b p 0 = b from by simp [overRow, H.over]]; exact Row.new _ _ _, (Below.refl _ _).alloc (Nat.le_refl _) _⟩
  case round =>
    obtain ⟨k, hk, rfl, r0, hbl⟩ := hrel
    by_cases hlt : k < 64
    · have hlen : k < b.length := by rw [HBL.out]; exact hlt
      have ck : wr.cell? ⟨w.heap.size, k, none⟩ = some (.int .u8 (b[k].toNat : Int)) := by
        rw [r0.cell]; simp [W.cellsOf, overRow_at b p k hlen]
      have fk := r0.frozen k
      have r0' := r0.set k (.int .u8 ((b[k] ^^^ p).toNat : Int))
      rw [cellsOf_set, overRow_step b p k hlen] at r0'
      have h1 := b[k].toNat_lt
      have h2 := p.toNat_lt
      have hx : bits .xor .u8 (b[k].toNat : Int) (p.toNat : Int) = ((b[k] ^^^ p).toNat : Int) := by
        rw [u8_xor_nat _ _ h1 h2, UInt8.toNat_xor]
      have bk : (k : Int) < 64 := by omega
      generalize b[k] ^^^ p = y at *
      go_wp2
      go_roundw
      case rel => exact ⟨k + 1, by omega, by go_num, r0', hbl.setCell (Nat.le_refl _) _⟩
      case measure => simp [intOf]; omega
    · obtain rfl : k = 64 := by omega
      have e : overRow b p 64 = H.over b p := by unfold overRow; rw [List.take_of_length_le (by rw [HBL.out]; exact Nat.le_refl _), List.drop_eq_nil_of_le (by rw [HBL.out]; exact Nat.le_refl _), List.append_nil]
      rw [e] at r0
      have hcv := run_convert_bytes_back (P := Try.prog) wr 78 9 5 ⟨w.heap.size, 0, none⟩ 64 (H.over b p) Try.underlying78 Try.underlying5 Try.underlying9 (fun t ht => r0.src t _ (by simp [W.cellsOf, ht]))
      rw [show (H.over b p).length = 64 from by rw [H.over_length, HBL.out]] at hcv
      clear e
      go_wp2
      go_ret
      exact ⟨rfl, hbl⟩

end Go.Proofs.Ytbkeodgiflfakaa
