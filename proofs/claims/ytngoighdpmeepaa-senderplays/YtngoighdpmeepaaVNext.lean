/-
  Layer 15: Next.
-/
import Derived.Test.YtngoighdpmeepaaVInstr
import Derived.Test.YtngoighdpmeepaaVAcked
namespace Go.Proofs.Ytngoighdpmeepaa
open Go.RowKit
set_option linter.unusedVariables false
set_option linter.unusedSimpArgs false
set_option maxRecDepth 20000

/-- An append whose run is known, as one step of a region that draws. -/
theorem step_appendRun {P : Program} {ops : Array Oper} {o : Oper} {a : Act} {w : World} {K : Act → World → Prop} {Q : Exit → Act → World → Prop} {E : Prop}
    (hg : o.guard = none) (d x : Operand) (dT sT : TypeId) (hop : o.op = Op.call { callee := Callee.builtin Builtin.append, args := #[d, x], argTypes := #[dT, sT] })
    (v u : Value) (hd : a.eval d = v) (hx : a.eval x = u) {v' : Value} {w' : World} (hr : (Builtin.append_ #[dT, sT] o.type #[v, u]).run P w = .ok v' w') (hK : K (a.put o.dst v') w') :
    if Region.wanted o (yielded ops a.tmps) = true then Oper.wp P o a w K Q else E := by
  have hw : Region.wanted o (yielded ops a.tmps) = true := by simp [Region.wanted, hg]
  rw [if_pos hw]
  unfold Oper.wp
  simp [execOp, hop, resolve, invoke, builtin, hd, hx, hr, Result.andThen]
  exact hK
theorem Row.grownG {w w' : World} {b g t : Nat} {l : List Value} (h : Row w b t l) (k : w.grownBy w' (some g)) (hb : b ≠ g) : Row w' b t l := by
  unfold Row; rw [k.block b h.lt (fun e => hb (by simpa using e))]; exact h
theorem S15.StAt.grownG {w w' : World} {b off g : Nat} {L : List S15.St} (h : S15.StAt w b off L) (k : w.grownBy w' (some g)) (hb : b ≠ g) : S15.StAt w' b off L := by
  obtain ⟨t, pre, sp, h1, r⟩ := h; exact ⟨t, pre, sp, h1, r.grownG k hb⟩

set_option maxHeartbeats 4000000 in
theorem next_new (now : ByteArray) (g n cap last : Nat) (L : List S15.St) (p : S15.St) (w : World) (hn : L.length = n + 1) (h8 : n < 8) (hp : L[n]? = some p) (ha : S15.StAt w g 0 L) (tk wait beat ack : Nat) (hw : wait ≤ 18446744073709551615) (hbt : beat ≤ 18446744073709551615) (hl : last ≤ 18446744073709551615) (ht : p.tick ≤ 18446744073709551615) (hcap : n + 1 ≤ cap ∧ cap ≤ maxLen) (b : S15.St) (hb : L[0]? = some b) (hbx : b.tx.size ≤ 1099511627776) (hnx : now.size ≤ 1099511627776) (hpn : p.num < 18446744073709551615) (N1 : Nat) (hN : N1 = p.num + 1) (hd : (decide (n < 7) && !decide (now = p.tx)) = true) :
    Calls Try.prog 22 #[.agg #[.func (.func 34) #[] #[], .func (.func 35) #[] #[], .string now, .slice (some ⟨g, 0, none⟩) (n + 1) cap, .int .u64 (last : Int)], .int .u64 (tk : Int), .int .u64 (wait : Int), .int .u64 (beat : Int), .int .u64 (ack : Int)] w fun e w' => ∃ g' cap', e = .returned (.tuple #[.agg #[.func (.func 34) #[] #[], .func (.func 35) #[] #[], .string now, .slice (some ⟨g', 0, none⟩) (n + 1 + 1) cap', .int .u64 (tk : Int)], .agg #[.int .u64 (b.num : Int), .int .u64 (N1 : Int), .int .u64 (ack : Int), .int .u64 (b.num : Int), .string (b.tx ++ ⟨#[62]⟩ ++ now)], .bool true]) ∧ S15.StAt w' g' 0 (L ++ [⟨N1, tk, now⟩]) ∧ (n + 1 + 1 ≤ cap' ∧ cap' ≤ maxLen) ∧ Below w.heap.size w w' := by
  have CC : Hid (∀ wx, S15.StAt wx g 0 L → Calls Try.prog 36 #[.slice (some ⟨g, 0, none⟩) (n + 1) cap] wx fun e w' => ∃ v, e = .returned v ∧ w'.ownsRow wx.heap.size 75 3 v (n + 1) (S15.cellsL L) ∧ Below wx.heap.size wx w') := fun wx hx => cloneSt_any g 0 n cap L wx hn (by omega) hx
  have CH : Hid (∀ wx, S15.StAt wx g 0 L → Calls Try.prog 38 #[.agg #[.func (.func 34) #[] #[], .func (.func 35) #[] #[], .string now, .slice (some ⟨g, 0, none⟩) (n + 1) cap, .int .u64 (last : Int)]] wx fun e w' => e = .returned (.bool true) ∧ Below wx.heap.size wx w') := fun wx hx => by have := hasNew_any now g n cap last L p wx hn h8 hp hx; rw [hd] at this; exact this
  have CN : Hid (∀ wx, S15.StAt wx g 0 L → Calls Try.prog 40 #[.agg #[.func (.func 34) #[] #[], .func (.func 35) #[] #[], .string now, .slice (some ⟨g, 0, none⟩) (n + 1) cap, .int .u64 (last : Int)]] wx fun e w' => e = .returned (.agg #[.int .u64 (p.num : Int), .int .u64 (p.tick : Int), .string p.tx]) ∧ Below wx.heap.size wx w') := fun wx hx => newest_any now g n cap last L p wx hn h8 hp hx
  have CI : Hid (∀ wx g' cap', S15.StAt wx g' 0 (L ++ [⟨N1, tk, now⟩]) → Calls Try.prog 41 #[.agg #[.func (.func 34) #[] #[], .func (.func 35) #[] #[], .string now, .slice (some ⟨g', 0, none⟩) (n + 1 + 1) cap', .int .u64 (tk : Int)], .int .u64 (ack : Int)] wx fun e w' => e = .returned (.agg #[.int .u64 (b.num : Int), .int .u64 (N1 : Int), .int .u64 (ack : Int), .int .u64 (b.num : Int), .string (b.tx ++ ⟨#[62]⟩ ++ now)]) ∧ Below wx.heap.size wx w') := fun wx g' cap' hx => instr_any now g' (n + 1) cap' tk (L ++ [⟨N1, tk, now⟩]) ⟨N1, tk, now⟩ wx (by simp [hn]) (by simp at hd; omega) (by rw [List.getElem?_append_right (by omega), hn]; simp) hx b (by rw [List.getElem?_append_left (by omega)]; exact hb) ack hbx hnx
  have h7 : n < 7 := by simp at hd; exact hd.1
  have x3 : IntKind.u64.wrap ((p.num : Int) + 1) = (N1 : Int) := by rw [IntKind.wrap_u64]; omega
  clear hN
  obtain ⟨i0, hi, hz0, hz1, hz2⟩ := info_parts infoStZ
  have la : g < w.heap.size := ha.lt
  have r1 : Row (((w.alloc (.cells #[.func (.func 34) #[] #[], .func (.func 35) #[] #[], .string now, .slice (some ⟨g, 0, none⟩) (n + 1) cap, .int .u64 (last : Int)] 42 (0, 0))).alloc (.cells #[.nilFunc, .nilFunc, .string ⟨#[]⟩, .slice none 0 0, .int .u64 0] 42 (0, 0))).alloc (.cells #[.int .u64 0, .int .u64 0, .int .u64 0, .int .u64 0, .string ⟨#[]⟩] 24 (0, 0))) w.heap.size 42 [.func (.func 34) #[] #[], .func (.func 35) #[] #[], .string now, .slice (some ⟨g, 0, none⟩) (n + 1) cap, .int .u64 (last : Int)] := ((Row.new' rfl rfl).alloc _).alloc _
  have q1 : Row (((w.alloc (.cells #[.func (.func 34) #[] #[], .func (.func 35) #[] #[], .string now, .slice (some ⟨g, 0, none⟩) (n + 1) cap, .int .u64 (last : Int)] 42 (0, 0))).alloc (.cells #[.nilFunc, .nilFunc, .string ⟨#[]⟩, .slice none 0 0, .int .u64 0] 42 (0, 0))).alloc (.cells #[.int .u64 0, .int .u64 0, .int .u64 0, .int .u64 0, .string ⟨#[]⟩] 24 (0, 0))) (w.heap.size + 1) 42 [.nilFunc, .nilFunc, .string ⟨#[]⟩, .slice none 0 0, .int .u64 0] := (Row.new' rfl (by simp)).alloc _
  have i1 : Row (((w.alloc (.cells #[.func (.func 34) #[] #[], .func (.func 35) #[] #[], .string now, .slice (some ⟨g, 0, none⟩) (n + 1) cap, .int .u64 (last : Int)] 42 (0, 0))).alloc (.cells #[.nilFunc, .nilFunc, .string ⟨#[]⟩, .slice none 0 0, .int .u64 0] 42 (0, 0))).alloc (.cells #[.int .u64 0, .int .u64 0, .int .u64 0, .int .u64 0, .string ⟨#[]⟩] 24 (0, 0))) (w.heap.size + 2) 24 [.int .u64 0, .int .u64 0, .int .u64 0, .int .u64 0, .string ⟨#[]⟩] := Row.new' rfl (by simp)
  have ha1 := ((ha.alloc (.cells #[.func (.func 34) #[] #[], .func (.func 35) #[] #[], .string now, .slice (some ⟨g, 0, none⟩) (n + 1) cap, .int .u64 (last : Int)] 42 (0, 0))).alloc (.cells #[.nilFunc, .nilFunc, .string ⟨#[]⟩, .slice none 0 0, .int .u64 0] 42 (0, 0))).alloc (.cells #[.int .u64 0, .int .u64 0, .int .u64 0, .int .u64 0, .string ⟨#[]⟩] 24 (0, 0))
  have bb : Below w.heap.size w (((w.alloc (.cells #[.func (.func 34) #[] #[], .func (.func 35) #[] #[], .string now, .slice (some ⟨g, 0, none⟩) (n + 1) cap, .int .u64 (last : Int)] 42 (0, 0))).alloc (.cells #[.nilFunc, .nilFunc, .string ⟨#[]⟩, .slice none 0 0, .int .u64 0] 42 (0, 0))).alloc (.cells #[.int .u64 0, .int .u64 0, .int .u64 0, .int .u64 0, .string ⟨#[]⟩] 24 (0, 0))) := (((Below.refl _ _).alloc (Nat.le_refl _) _).alloc (by simp) _).alloc (by simp; omega) _
  have h3 : w.heap.size + 3 ≤ (((w.alloc (.cells #[.func (.func 34) #[] #[], .func (.func 35) #[] #[], .string now, .slice (some ⟨g, 0, none⟩) (n + 1) cap, .int .u64 (last : Int)] 42 (0, 0))).alloc (.cells #[.nilFunc, .nilFunc, .string ⟨#[]⟩, .slice none 0 0, .int .u64 0] 42 (0, 0))).alloc (.cells #[.int .u64 0, .int .u64 0, .int .u64 0, .int .u64 0, .string ⟨#[]⟩] 24 (0, 0))).heap.size := by simp
  go_enter Try.func22, Try.ntmps22
  go_wp2_with fail
  generalize ((w.alloc (.cells #[.func (.func 34) #[] #[], .func (.func 35) #[] #[], .string now, .slice (some ⟨g, 0, none⟩) (n + 1) cap, .int .u64 (last : Int)] 42 (0, 0))).alloc (.cells #[.nilFunc, .nilFunc, .string ⟨#[]⟩, .slice none 0 0, .int .u64 0] 42 (0, 0))).alloc (.cells #[.int .u64 0, .int .u64 0, .int .u64 0, .int .u64 0, .string ⟨#[]⟩] 24 (0, 0)) = w1 at *
  clear ha hd hp hn
  refine (CC.out _ ha1).mono ?_
  rintro e wa6 ⟨v, rfl, hov, bwa6⟩
  replace r1 := r1.below bwa6 r1.lt
  replace q1 := q1.below bwa6 q1.lt
  replace i1 := i1.below bwa6 i1.lt
  replace ha1 := ha1.keep bwa6
  replace bb := bb.trans (bwa6.mono bb.size)
  clear bwa6
  obtain ⟨g', cap', rfl, hg1, hg2, hg3, hg4⟩ := S15.own_slice hov
  clear hg2
  go_wp2_with (first | refine wpList_load_row rfl 42 (.tmp 5) rfl (w.heap.size) rfl _ _ _ _ r1 Try.underlying42 rfl infoSn ?_)
  refine (CH.out _ ha1).mono ?_
  rintro e wa7 ⟨rfl, bwa7⟩
  replace r1 := r1.below bwa7 r1.lt
  replace q1 := q1.below bwa7 q1.lt
  replace i1 := i1.below bwa7 i1.lt
  replace ha1 := ha1.keep bwa7
  replace hov := ownT hov bwa7
  replace bb := bb.trans (bwa7.mono bb.size)
  clear bwa7
  go_wp2
  refine wp_region_held_drew (S := fun w' => Row w' w.heap.size 42 [.func (.func 34) #[] #[], .func (.func 35) #[] #[], .string now, .slice (some ⟨g, 0, none⟩) (n + 1) cap, .int .u64 (last : Int)] ∧ S15.StAt w' g 0 L ∧ Below w.heap.size w w') (by kernel_rfl) (⟨r1.drew, ha1.drew, bb.drew⟩) (fun hHeld => ?_)
  replace q1 := q1.drew
  replace i1 := i1.drew
  replace hov := hov.drew
  generalize wa7.drew = wd8 at *
  refine take_d 0 (some 22) (.slice (some ⟨g', 0, none⟩) (n + 1) cap') rfl (by kernel_rfl) (by kernel_rfl) (by kernel_rfl) (fun _ _ _ h => h) (fun oi h => by cases h; exact Or.inl ⟨by rfl, fun w' hS' => by go_simp⟩) hHeld ?_
  try simp only [Act.put, List.setIfInBounds_toArray, List.set_cons_zero, List.set_cons_succ]
  refine take_d 1 (some 23) (.agg #[.func (.func 34) #[] #[], .func (.func 35) #[] #[], .string now, .slice (some ⟨g, 0, none⟩) (n + 1) cap, .int .u64 (last : Int)]) rfl (by kernel_rfl) (by kernel_rfl) (by kernel_rfl) (fun _ _ _ h => h) (fun oi h => by cases h; exact yieldsIf_load_mid (by rfl) 42 (.tmp 5) rfl w.heap.size 0 rfl [.func (.func 34) #[] #[], .func (.func 35) #[] #[], .string now, .slice (some ⟨g, 0, none⟩) (n + 1) cap, .int .u64 (last : Int)] _ (fun w' hS' => hS'.1.range) Try.underlying42 rfl infoSn) hHeld ?_
  try simp only [Act.put, List.setIfInBounds_toArray, List.set_cons_zero, List.set_cons_succ]
  refine take_d 5 (some 27) (.int .u64 (tk : Int)) rfl (by kernel_rfl) (by kernel_rfl) (by kernel_rfl) (fun _ _ _ h => h) (fun oi h => by cases h; exact Or.inl ⟨by rfl, fun w' hS' => by go_simp⟩) hHeld ?_
  try simp only [Act.put, List.setIfInBounds_toArray, List.set_cons_zero, List.set_cons_succ]
  refine take_d 6 (some 28) (.pointer (some ⟨w.heap.size, 2, none⟩)) rfl (by kernel_rfl) (by kernel_rfl) (by kernel_rfl) (fun _ _ _ h => h) (fun oi h => by cases h; exact Or.inl ⟨by rfl, fun w' hS' => by go_simp⟩) hHeld ?_
  try simp only [Act.put, List.setIfInBounds_toArray, List.set_cons_zero, List.set_cons_succ]
  refine take_d 7 (some 29) (.string now) rfl (by kernel_rfl) (by kernel_rfl) (by kernel_rfl) (fun _ _ _ h => h) (fun oi h => by cases h; exact Or.inl ⟨by rfl, fun w' hS' => by have c : w'.cell? ⟨w.heap.size, 2, none⟩ = some (.string now) := hS'.1.cell 2; go_simp⟩) hHeld ?_
  try simp only [Act.put, List.setIfInBounds_toArray, List.set_cons_zero, List.set_cons_succ]
  refine one_d 2 (some 24) rfl (by kernel_rfl) ?_
  intro o ho1 hd K hK
  cases ho1
  go_simp
  refine (CN.out _ hHeld.2.1).mono ?_
  rintro e v9 ⟨rfl, bb0⟩
  replace q1 := q1.below bb0 q1.lt
  replace i1 := i1.below bb0 i1.lt
  replace hov := ownT hov bb0
  refine hK.out _ _ (⟨hHeld.1.below bb0 hHeld.1.lt, hHeld.2.1.keep bb0, hHeld.2.2.trans (bb0.mono hHeld.2.2.size)⟩) (fun hHeld => ?_)
  clear bb0
  clear hK K hd
  try simp only [Act.put, List.setIfInBounds_toArray, List.set_cons_zero, List.set_cons_succ]
  refine take_d 3 (some 25) (.int .u64 (p.num : Int)) rfl (by kernel_rfl) (by kernel_rfl) (by kernel_rfl) (fun _ _ _ h => h) (fun oi h => by cases h; exact Or.inl ⟨by rfl, fun w' hS' => by have hfd : ∀ wx : World, (Instr.field 75 (.agg #[.int .u64 (p.num : Int), .int .u64 (p.tick : Int), .string p.tx]) 0).run Try.prog wx = .ok (.int .u64 (p.num : Int)) wx := fun _ => (by kernel_rfl); go_simp⟩) hHeld ?_
  try simp only [Act.put, List.setIfInBounds_toArray, List.set_cons_zero, List.set_cons_succ]
  refine take_d 4 (some 26) (.int .u64 (N1 : Int)) rfl (by kernel_rfl) (by kernel_rfl) (by kernel_rfl) (fun _ _ _ h => h) (fun oi h => by cases h; exact Or.inl ⟨by rfl, fun w' hS' => by go_simp⟩) hHeld ?_
  try simp only [Act.put, List.setIfInBounds_toArray, List.set_cons_zero, List.set_cons_succ]
  refine take_d 8 (some 30) (.agg #[.int .u64 (N1 : Int), .int .u64 (tk : Int), .string now]) rfl (by kernel_rfl) (by kernel_rfl) (by kernel_rfl) (fun _ _ _ h => h) (fun oi h => by cases h; exact Or.inl ⟨by rfl, fun w' hS' => by go_simp⟩) hHeld ?_
  try simp only [Act.put, List.setIfInBounds_toArray, List.set_cons_zero, List.set_cons_succ]
  refine one_d 9 (some 31) rfl (by kernel_rfl) ?_
  intro o ho1 hd K hK
  cases ho1
  go_simp
  refine hK.out _ _ ⟨hHeld.1.alloc _, hHeld.2.1.alloc _, hHeld.2.2.alloc hHeld.2.2.size _⟩ (fun hHeld => ?_)
  have x31 : Row (v9.alloc (.cells #[.int .u64 (N1 : Int), .int .u64 (tk : Int), .string now] 75 (0, 0))) v9.heap.size 75 [.int .u64 (N1 : Int), .int .u64 (tk : Int), .string now] := Row.new' rfl rfl
  replace q1 := q1.alloc (.cells #[.int .u64 (N1 : Int), .int .u64 (tk : Int), .string now] 75 (0, 0))
  replace i1 := i1.alloc (.cells #[.int .u64 (N1 : Int), .int .u64 (tk : Int), .string now] 75 (0, 0))
  replace hov := hov.alloc (.cells #[.int .u64 (N1 : Int), .int .u64 (tk : Int), .string now] 75 (0, 0))
  obtain ⟨p31, hp31⟩ : ∃ p, p = v9.heap.size := ⟨_, rfl⟩
  rw [← hp31] at x31 ⊢
  generalize v9.alloc (.cells #[.int .u64 (N1 : Int), .int .u64 (tk : Int), .string now] 75 (0, 0)) = v10 at *
  clear hp31
  clear hK K hd
  try simp only [Act.put, List.setIfInBounds_toArray, List.set_cons_zero, List.set_cons_succ]
  refine one_d 10 (some 32) rfl (by kernel_rfl) ?_
  intro o ho1 hd K hK
  cases ho1
  have hlo := hov.lt g' rfl
  have hbs : w1.heap.size ≤ v10.heap.size := by omega
  have hlq := q1.lt
  have hli := i1.lt
  obtain ⟨v', w', hrun, ho', hgr, _⟩ := run_append_own (P := Try.prog) v10 w1.heap.size 40 40 75 i0 _ 3 32 Try.underlying40 hi hz0 hz1 hz2 rfl (by decide) (.slice (some ⟨g', 0, none⟩) (n + 1) cap') (n + 1) _ hov ⟨p31, 0, none⟩ 1 1 [.int .u64 (N1 : Int), .int .u64 (tk : Int), .string now] rfl (fun j u hj => by rw [S15.addrAdd, Nat.zero_add, x31.cell]; exact hj) (by intro u hu; simp at hu; rcases hu with rfl | rfl | rfl <;> rfl) (by unfold maxLen; omega) (by omega) hbs
  have ho2 : w'.ownsRow w1.heap.size 75 3 v' (n + 1 + 1) (S15.cellsL (L ++ [⟨N1, tk, now⟩])) := by rw [S15.cellsL_append]; exact ho'
  clear ho' hov
  refine step_appendRun rfl _ _ 40 40 rfl _ _ rfl rfl hrun ?_
  clear hrun
  replace hgr : v10.grownBy w' (some g') := hgr
  refine hK.out _ _ ⟨hHeld.1.grownG hgr (by omega), hHeld.2.1.grownG hgr (by omega), hHeld.2.2.grown hgr hHeld.2.2.size (fun k hk => by cases hk; omega)⟩ (fun hHeld => ?_)
  replace q1 := q1.grownG hgr (by omega)
  replace i1 := i1.grownG hgr (by omega)
  clear hgr x31 hlo hbs
  obtain ⟨g2, cap2, rfl, hg1', hg2', hg3', hg4'⟩ := S15.own_slice ho2
  clear hK K hd
  try simp only [Act.put, List.setIfInBounds_toArray, List.set_cons_zero, List.set_cons_succ]
  refine take_d 11 (some 13) (.slice (some ⟨g2, 0, none⟩) (n + 1 + 1) cap2) rfl (by kernel_rfl) (by kernel_rfl) (by kernel_rfl) (fun _ _ _ h => h) (fun oi h => by cases h; exact Or.inl ⟨by rfl, fun w' hS' => by go_simp⟩) hHeld ?_
  try simp only [Act.put, List.setIfInBounds_toArray, List.set_cons_zero, List.set_cons_succ]
  refine wpAnyH_done (by kernel_rfl) ?_ _
  try simp only [Act.put]
  replace r1 := hHeld.1
  replace ha1 := hHeld.2.1
  replace bb := hHeld.2.2
  clear hHeld
  have hs := S15.StAt.of_owns ho2
  clear ho2 ha1
  have c3 := r1.cell 3
  have f3 := r1.frozen 3
  simp only [List.getElem?_cons_zero, List.getElem?_cons_succ] at c3
  have r2 := r1.set 3 (.slice (some ⟨g2, 0, none⟩) (n + 1 + 1) cap2)
  simp only [List.set_cons_succ, List.set_cons_zero] at r2
  have c4 := r2.cell 4
  have f4 := r2.frozen 4
  simp only [List.getElem?_cons_zero, List.getElem?_cons_succ] at c4
  have r3 := r2.set 4 (.int .u64 (tk : Int))
  simp only [List.set_cons_succ, List.set_cons_zero] at r3
  have lr := r1.lt
  have lq := q1.lt
  have li := i1.lt
  have q3 := (q1.other (k := w.heap.size) (i := 3) (by omega) (.slice (some ⟨g2, 0, none⟩) (n + 1 + 1) cap2)).other (k := w.heap.size) (i := 4) (by omega) (.int .u64 (tk : Int))
  have i3 := (i1.other (k := w.heap.size) (i := 3) (by omega) (.slice (some ⟨g2, 0, none⟩) (n + 1 + 1) cap2)).other (k := w.heap.size) (i := 4) (by omega) (.int .u64 (tk : Int))
  have hs3 := (hs.other (k := w.heap.size) (i := 3) (by omega) (.slice (some ⟨g2, 0, none⟩) (n + 1 + 1) cap2)).other (k := w.heap.size) (i := 4) (by omega) (.int .u64 (tk : Int))
  have bb3 := (bb.setCell (p := ⟨w.heap.size, 3, none⟩) (Nat.le_refl _) (.slice (some ⟨g2, 0, none⟩) (n + 1 + 1) cap2)).setCell (p := ⟨w.heap.size, 4, none⟩) (Nat.le_refl _) (.int .u64 (tk : Int))
  clear r1 q1 i1 hs bb r2
  go_wp2
  generalize ((w'.setCell ⟨w.heap.size, 3, none⟩ (.slice (some ⟨g2, 0, none⟩) (n + 1 + 1) cap2)).setCell ⟨w.heap.size, 4, none⟩ (.int .u64 (tk : Int))) = wt at *
  clear c3 f3 c4 f4
  refine wp_region_held_drew (S := fun w' => Row w' w.heap.size 42 [.func (.func 34) #[] #[], .func (.func 35) #[] #[], .string now, .slice (some ⟨g2, 0, none⟩) (n + 1 + 1) cap2, .int .u64 (tk : Int)] ∧ S15.StAt w' g2 0 (L ++ [⟨N1, tk, now⟩]) ∧ Below w.heap.size w w') (by kernel_rfl) (⟨r3.drew, hs3.drew, bb3.drew⟩) (fun hHeld => ?_)
  replace q3 := q3.drew
  replace i3 := i3.drew
  generalize wt.drew = wd11 at *
  refine take_d 0 (some 51) (.agg #[.func (.func 34) #[] #[], .func (.func 35) #[] #[], .string now, .slice (some ⟨g2, 0, none⟩) (n + 1 + 1) cap2, .int .u64 (tk : Int)]) rfl (by kernel_rfl) (by kernel_rfl) (by kernel_rfl) (fun _ _ _ h => h) (fun oi h => by cases h; exact yieldsIf_load_mid (by rfl) 42 (.tmp 5) rfl w.heap.size 0 rfl [.func (.func 34) #[] #[], .func (.func 35) #[] #[], .string now, .slice (some ⟨g2, 0, none⟩) (n + 1 + 1) cap2, .int .u64 (tk : Int)] _ (fun w' hS' => hS'.1.range) Try.underlying42 rfl infoSn) hHeld ?_
  try simp only [Act.put, List.setIfInBounds_toArray, List.set_cons_zero, List.set_cons_succ]
  refine take_d 1 (some 52) (.agg #[.func (.func 34) #[] #[], .func (.func 35) #[] #[], .string now, .slice (some ⟨g2, 0, none⟩) (n + 1 + 1) cap2, .int .u64 (tk : Int)]) rfl (by kernel_rfl) (by kernel_rfl) (by kernel_rfl) (fun _ _ _ h => h) (fun oi h => by cases h; exact yieldsIf_load_mid (by rfl) 42 (.tmp 5) rfl w.heap.size 0 rfl [.func (.func 34) #[] #[], .func (.func 35) #[] #[], .string now, .slice (some ⟨g2, 0, none⟩) (n + 1 + 1) cap2, .int .u64 (tk : Int)] _ (fun w' hS' => hS'.1.range) Try.underlying42 rfl infoSn) hHeld ?_
  try simp only [Act.put, List.setIfInBounds_toArray, List.set_cons_zero, List.set_cons_succ]
  refine take_d 2 (some 53) (.int .u64 (ack : Int)) rfl (by kernel_rfl) (by kernel_rfl) (by kernel_rfl) (fun _ _ _ h => h) (fun oi h => by cases h; exact Or.inl ⟨by rfl, fun w' hS' => by go_simp⟩) hHeld ?_
  try simp only [Act.put, List.setIfInBounds_toArray, List.set_cons_zero, List.set_cons_succ]
  refine one_d 3 (some 54) rfl (by kernel_rfl) ?_
  intro o ho1 hd K hK
  cases ho1
  go_simp
  refine (CI.out _ g2 cap2 hHeld.2.1).mono ?_
  rintro e v12 ⟨rfl, bb0⟩
  replace q3 := q3.below bb0 q3.lt
  replace i3 := i3.below bb0 i3.lt
  refine hK.out _ _ (⟨hHeld.1.below bb0 hHeld.1.lt, hHeld.2.1.keep bb0, hHeld.2.2.trans (bb0.mono hHeld.2.2.size)⟩) (fun hHeld => ?_)
  clear bb0
  clear hK K hd
  try simp only [Act.put, List.setIfInBounds_toArray, List.set_cons_zero, List.set_cons_succ]
  refine one_d 4 none rfl (by kernel_rfl) ?_
  intro o ho1 hd K hK
  cases ho1
  refine step_store_row rfl 42 (.tmp 10) (.tmp 51) rfl ((w.heap.size + 1)) [.func (.func 34) #[] #[], .func (.func 35) #[] #[], .string now, .slice (some ⟨g2, 0, none⟩) (n + 1 + 1) cap2, .int .u64 (tk : Int)] rfl rfl _ _ q3 infoSn rfl (by simp [Value.oneCell']) ?_
  rw [hd]
  replace q3 := q3.setRow [.func (.func 34) #[] #[], .func (.func 35) #[] #[], .string now, .slice (some ⟨g2, 0, none⟩) (n + 1 + 1) cap2, .int .u64 (tk : Int)]
  replace i3 := i3.setRow_other (k := (w.heap.size + 1)) (by omega) (List.toArray [.func (.func 34) #[] #[], .func (.func 35) #[] #[], .string now, .slice (some ⟨g2, 0, none⟩) (n + 1 + 1) cap2, .int .u64 (tk : Int)])
  have hH : Row (v12.setRow ((w.heap.size + 1)) (List.toArray [.func (.func 34) #[] #[], .func (.func 35) #[] #[], .string now, .slice (some ⟨g2, 0, none⟩) (n + 1 + 1) cap2, .int .u64 (tk : Int)])) w.heap.size 42 [.func (.func 34) #[] #[], .func (.func 35) #[] #[], .string now, .slice (some ⟨g2, 0, none⟩) (n + 1 + 1) cap2, .int .u64 (tk : Int)] ∧ S15.StAt (v12.setRow ((w.heap.size + 1)) (List.toArray [.func (.func 34) #[] #[], .func (.func 35) #[] #[], .string now, .slice (some ⟨g2, 0, none⟩) (n + 1 + 1) cap2, .int .u64 (tk : Int)])) g2 0 (L ++ [⟨N1, tk, now⟩]) ∧ Below w.heap.size w (v12.setRow ((w.heap.size + 1)) (List.toArray [.func (.func 34) #[] #[], .func (.func 35) #[] #[], .string now, .slice (some ⟨g2, 0, none⟩) (n + 1 + 1) cap2, .int .u64 (tk : Int)])) := ⟨hHeld.1.setRow_other (k := (w.heap.size + 1)) (by omega) (List.toArray [.func (.func 34) #[] #[], .func (.func 35) #[] #[], .string now, .slice (some ⟨g2, 0, none⟩) (n + 1 + 1) cap2, .int .u64 (tk : Int)]), hHeld.2.1.setRow (k := ((w.heap.size + 1))) (by omega) (List.toArray [.func (.func 34) #[] #[], .func (.func 35) #[] #[], .string now, .slice (some ⟨g2, 0, none⟩) (n + 1 + 1) cap2, .int .u64 (tk : Int)]), below_row hHeld.2.2 (show _ ≤ (w.heap.size + 1) by omega) (List.toArray [.func (.func 34) #[] #[], .func (.func 35) #[] #[], .string now, .slice (some ⟨g2, 0, none⟩) (n + 1 + 1) cap2, .int .u64 (tk : Int)])⟩
  clear hHeld
  generalize v12.setRow ((w.heap.size + 1)) (List.toArray [.func (.func 34) #[] #[], .func (.func 35) #[] #[], .string now, .slice (some ⟨g2, 0, none⟩) (n + 1 + 1) cap2, .int .u64 (tk : Int)]) = v13 at *
  refine hK.out _ _ hH (fun hHeld => ?_)
  clear hH
  clear hK K hd
  try simp only [Act.put]
  refine one_d 5 none rfl (by kernel_rfl) ?_
  intro o ho1 hd K hK
  cases ho1
  refine step_store_row rfl 24 (.tmp 11) (.tmp 54) rfl ((w.heap.size + 2)) [.int .u64 (b.num : Int), .int .u64 (N1 : Int), .int .u64 (ack : Int), .int .u64 (b.num : Int), .string (b.tx ++ ⟨#[62]⟩ ++ now)] rfl rfl _ _ i3 infoIn rfl (by simp [Value.oneCell']) ?_
  rw [hd]
  replace q3 := q3.setRow_other (k := (w.heap.size + 2)) (by omega) (List.toArray [.int .u64 (b.num : Int), .int .u64 (N1 : Int), .int .u64 (ack : Int), .int .u64 (b.num : Int), .string (b.tx ++ ⟨#[62]⟩ ++ now)])
  replace i3 := i3.setRow [.int .u64 (b.num : Int), .int .u64 (N1 : Int), .int .u64 (ack : Int), .int .u64 (b.num : Int), .string (b.tx ++ ⟨#[62]⟩ ++ now)]
  have hH : Row (v13.setRow ((w.heap.size + 2)) (List.toArray [.int .u64 (b.num : Int), .int .u64 (N1 : Int), .int .u64 (ack : Int), .int .u64 (b.num : Int), .string (b.tx ++ ⟨#[62]⟩ ++ now)])) w.heap.size 42 [.func (.func 34) #[] #[], .func (.func 35) #[] #[], .string now, .slice (some ⟨g2, 0, none⟩) (n + 1 + 1) cap2, .int .u64 (tk : Int)] ∧ S15.StAt (v13.setRow ((w.heap.size + 2)) (List.toArray [.int .u64 (b.num : Int), .int .u64 (N1 : Int), .int .u64 (ack : Int), .int .u64 (b.num : Int), .string (b.tx ++ ⟨#[62]⟩ ++ now)])) g2 0 (L ++ [⟨N1, tk, now⟩]) ∧ Below w.heap.size w (v13.setRow ((w.heap.size + 2)) (List.toArray [.int .u64 (b.num : Int), .int .u64 (N1 : Int), .int .u64 (ack : Int), .int .u64 (b.num : Int), .string (b.tx ++ ⟨#[62]⟩ ++ now)])) := ⟨hHeld.1.setRow_other (k := (w.heap.size + 2)) (by omega) (List.toArray [.int .u64 (b.num : Int), .int .u64 (N1 : Int), .int .u64 (ack : Int), .int .u64 (b.num : Int), .string (b.tx ++ ⟨#[62]⟩ ++ now)]), hHeld.2.1.setRow (k := ((w.heap.size + 2))) (by omega) (List.toArray [.int .u64 (b.num : Int), .int .u64 (N1 : Int), .int .u64 (ack : Int), .int .u64 (b.num : Int), .string (b.tx ++ ⟨#[62]⟩ ++ now)]), below_row hHeld.2.2 (show _ ≤ (w.heap.size + 2) by omega) (List.toArray [.int .u64 (b.num : Int), .int .u64 (N1 : Int), .int .u64 (ack : Int), .int .u64 (b.num : Int), .string (b.tx ++ ⟨#[62]⟩ ++ now)])⟩
  clear hHeld
  generalize v13.setRow ((w.heap.size + 2)) (List.toArray [.int .u64 (b.num : Int), .int .u64 (N1 : Int), .int .u64 (ack : Int), .int .u64 (b.num : Int), .string (b.tx ++ ⟨#[62]⟩ ++ now)]) = v14 at *
  refine hK.out _ _ hH (fun hHeld => ?_)
  clear hH
  clear hK K hd
  try simp only [Act.put]
  refine take_d 6 (some 12) (.bool true) rfl (by kernel_rfl) (by kernel_rfl) (by kernel_rfl) (fun _ _ _ h => h) (fun oi h => by cases h; exact Or.inl ⟨by rfl, fun w' hS' => by go_simp⟩) hHeld ?_
  try simp only [Act.put, List.setIfInBounds_toArray]
  refine wpAnyH_done (by kernel_rfl) ?_ _
  try simp only [Act.put]
  replace r3 := hHeld.1
  replace hs3 := hHeld.2.1
  replace bb3 := hHeld.2.2
  clear hHeld
  go_wp2
  try simp only [Act.put, List.setIfInBounds_toArray]
  exact bodyPost_ret (results_row2_tmp rfl _ _ (w.heap.size + 1) 42 [.func (.func 34) #[] #[], .func (.func 35) #[] #[], .string now, .slice (some ⟨g2, 0, none⟩) (n + 1 + 1) cap2, .int .u64 (tk : Int)] _ (w.heap.size + 2) 24 [.int .u64 (b.num : Int), .int .u64 (N1 : Int), .int .u64 (ack : Int), .int .u64 (b.num : Int), .string (b.tx ++ ⟨#[62]⟩ ++ now)] _ rfl q3 Try.underlying42 rfl infoSn rfl i3 Try.underlying24 rfl infoIn) rfl ⟨g2, cap2, rfl, hs3, ⟨by omega, by assumption⟩, bb3⟩

end Go.Proofs.Ytngoighdpmeepaa
