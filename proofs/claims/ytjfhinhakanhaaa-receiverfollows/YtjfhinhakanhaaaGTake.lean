/-
  Layer 16: slices.Insert at the end; Take of a state behind all others; Take whose Old is not there.
-/
import Derived.Test.YtjfhinhakanhaaaGMake
import Derived.Test.YtjfhinhakanhaaaCut
import Derived.Test.YtjfhinhakanhaaaVLaw
namespace Go.Proofs.Ytjfhinhakanhaaa
open Go.RowKit
set_option linter.unusedVariables false
set_option linter.unusedSimpArgs false
set_option maxRecDepth 20000

theorem infoIn16 : (Try.prog.info? 37).map (·.size) = some 5 := by kernel_rfl
set_option maxHeartbeats 2000000 in
/-- slices.Insert at the end of a row of the call's own. -/
theorem insertEnd_any (B g n cap gv : Nat) (L : List R16.Cm) (p : R16.Cm) (w : World) (hn : L.length = n + 1) (h8 : n < 900) (hB : B ≤ w.heap.size) (ho : w.ownsRow B 60 2 (.slice (some ⟨g, 0, none⟩) (n + 1) cap) (n + 1) (R16.cellsL L)) (hv : Row w gv 60 [.int .u64 (p.num : Int), .string p.tx]) :
    Calls Try.prog 23 #[.slice (some ⟨g, 0, none⟩) (n + 1) cap, .int .i64 ((n + 1 : Nat) : Int), .slice (some ⟨gv, 0, none⟩) 1 1] w fun e w' => ∃ v, e = .returned v ∧ w'.ownsRow B 60 2 v (n + 1 + 1) (R16.cellsL (L ++ [p])) ∧ w.grownBy w' (some g) := by
  obtain ⟨i0, hi, hz0, hz1, hz2⟩ := info_parts infoCmZ
  have hnews : Hid (∀ j u, ([.int .u64 (p.num : Int), .string p.tx] : List Value)[j]? = some u → w.cell? ((⟨gv, 0, none⟩ : Addr).add j) = some u) := fun j u hj => by rw [R16.addrAdd, Nat.zero_add, hv.cell]; exact hj
  have e0 : ((n + 1 : Nat) : Int) = ((n + 1 : Nat) : Int) := rfl
  have e1 : ¬ ((n + 1 : Nat) : Int) < 0 := by omega
  clear hn hv
  go_enter Try.func23, Try.ntmps23
  by_cases hc : cap = n + 1
  · go_wp2_with (at_builtin; refine wpList_append_own _ rfl _ _ 28 rfl B 60 i0 _ 2 24 Try.underlying28 hi hz0 hz1 hz2 rfl (by decide) (.slice (some ⟨g, 0, none⟩) (n + 1) cap) (n + 1) _ rfl ho ⟨gv, 0, none⟩ 1 1 [.int .u64 (p.num : Int), .string p.tx] rfl rfl hnews.out (by intro u hu; simp at hu; rcases hu with rfl | rfl <;> rfl) (by unfold maxLen; omega) (by omega) hB ?_)
    intro v' w' ho' hgr _
    have ho2 : w'.ownsRow B 60 2 v' (n + 1 + 1) (R16.cellsL (L ++ [p])) := by rw [R16.cellsL_append]; exact ho'
    clear ho'
    go_wp2
    go_ret
    exact ⟨v', rfl, ho2, hgr⟩
  · go_wp2_with (at_builtin; refine wpList_append_own _ rfl _ _ 28 rfl B 60 i0 _ 2 24 Try.underlying28 hi hz0 hz1 hz2 rfl (by decide) (.slice (some ⟨g, 0, none⟩) (n + 1) cap) (n + 1) _ rfl ho ⟨gv, 0, none⟩ 1 1 [.int .u64 (p.num : Int), .string p.tx] rfl rfl hnews.out (by intro u hu; simp at hu; rcases hu with rfl | rfl <;> rfl) (by unfold maxLen; omega) (by omega) hB ?_)
    intro v' w' ho' hgr _
    have ho2 : w'.ownsRow B 60 2 v' (n + 1 + 1) (R16.cellsL (L ++ [p])) := by rw [R16.cellsL_append]; exact ho'
    clear ho'
    go_wp2
    go_ret
    exact ⟨v', rfl, ho2, hgr⟩

theorem Row.grown16 {w w' : World} {b g t : Nat} {l : List Value} (h : Row w b t l) (k : w.grownBy w' (some g)) (hb : b ≠ g) : Row w' b t l := by
  unfold Row; rw [k.block b h.lt (fun e => hb (by simpa using e))]; exact h
theorem R16.CmAt.grown16 {w w' : World} {b off g : Nat} {L : List R16.Cm} (h : R16.CmAt w b off L) (k : w.grownBy w' (some g)) (hb : b ≠ g) : R16.CmAt w' b off L := by
  obtain ⟨t, pre, sp, h1, r⟩ := h; exact ⟨t, pre, sp, h1, r.grown16 k hb⟩
theorem results_row_tmp2 {P : Program} {fn : Func} {p u u' : Tmp} {ty : TypeId} (h : fn.results = #[.cell p ty, .tmp u, .tmp u']) (tmps : Array Value) (w : World) (g : Nat) (t : TypeId) (l : List Value) (d : TypeDesc)
    (hp : tmps.getD p undef = .pointer (some ⟨g, 0, none⟩)) (hg : Row w g t l)
    (hu : P.underlying ty = some d) (hd : (match d with | .struct _ | .array _ _ => true | _ => false) = true) (hi : (P.info? ty).map (·.size) = some l.toArray.size) :
    (results fn tmps).run P w = .ok (.tuple #[.agg l.toArray, tmps.getD u undef, tmps.getD u' undef]) w := by
  have e1 := run_loadVar_row w g t ty _ _ d hg hu hd hi
  have hp2 : tmps[p]?.getD undef = .pointer (some ⟨g, 0, none⟩) := by simpa using hp
  simp only [results, h]
  simp [Sem.run_bind, Result.andThen, hp2, asAddr, e1]
set_option maxHeartbeats 8000000 in
/-- Take of a state behind all others. -/
theorem take_end (g n cap o nn aa tt : Nat) (d : ByteArray) (L : List R16.Cm) (w : World) (hn : L.length = n + 1) (h8 : n < 800) (hu : R16.Up L) (hc : n + 1 ≤ cap) (ha : R16.CmAt w g 0 L) (jo : Nat) (po : R16.Cm) (hpo : L[jo]? = some po) (hon : po.num = o) (hlt : ∀ (j : Nat) (q : R16.Cm), L[j]? = some q → q.num < nn) (hb : bang d = false) (hs : po.tx.size + d.size ≤ 1099511627776) :
    Calls Try.prog 11 #[.agg #[.func (.func 18) #[] #[], .slice (some ⟨g, 0, none⟩) (n + 1) cap], .agg #[.int .u64 (o : Int), .int .u64 (nn : Int), .int .u64 (aa : Int), .int .u64 (tt : Int), .string d]] w fun e w' => ∃ a m g' cap', e = .returned (.tuple #[.agg #[.func (.func 18) #[] #[], .slice (some ⟨g', 0, none⟩) (m + 1) cap'], .bool true, .int .i64 0]) ∧ R16.Kp (L ++ [R16.Cm.mk nn (po.tx ++ d)]) tt a ∧ R16.CmAt w' g' 0 ((L ++ [R16.Cm.mk nn (po.tx ++ d)]).drop a) ∧ ((L ++ [R16.Cm.mk nn (po.tx ++ d)]).drop a).length = m + 1 ∧ m + 1 ≤ cap' ∧ Below w.heap.size w w' := by
  have HUP := Lib.hid hu
  have HPO := Lib.hid hpo
  have HLT := Lib.hid hlt
  have HLN := Lib.hid hn
  have hat0 : ∀ i, R16.Pl L nn i → i = n + 1 ∧ R16.at? L nn i = false := fun i hP => by
    have hi : i = n + 1 := by
      rcases Nat.lt_or_ge i (n + 1) with h | h
      · have := hP.hi i (L[i]'(by omega)) (Nat.le_refl _) (List.getElem?_eq_getElem (by omega))
        have := hlt i (L[i]'(by omega)) (List.getElem?_eq_getElem (by omega))
        omega
      · have := hP.le; omega
    exact ⟨hi, by unfold R16.at?; rw [List.getElem?_eq_none (by omega)]⟩
  have hat1 : ∀ i, R16.Pl L o i → R16.at? L o i = true ∧ R16.ofT L o i = po.tx := fun i hP => by
    have hij : i = jo := by
      have hjl := (List.getElem?_eq_some_iff.1 hpo).1
      rcases Nat.lt_trichotomy i jo with h | h | h
      · have h1 := hP.hi i (L[i]'(by omega)) (Nat.le_refl _) (List.getElem?_eq_getElem (by omega))
        have h2 := hu i jo (L[i]'(by omega)) po h (List.getElem?_eq_getElem (by omega)) hpo
        omega
      · exact h
      · have := hP.lo jo po h hpo; omega
    subst hij
    have h1 : R16.at? L o i = true := by unfold R16.at?; rw [hpo]; simp [hon]
    exact ⟨h1, by unfold R16.ofT; rw [h1, hpo]; rfl⟩
  have hon2 : o < nn := by rw [← hon]; exact hlt jo po hpo
  have CP : Hid (∀ wx, R16.CmAt wx g 0 L → Calls Try.prog 20 #[.agg #[.func (.func 18) #[] #[], .slice (some ⟨g, 0, none⟩) (n + 1) cap], .int .u64 (nn : Int)] wx fun e w' => e = .returned (.tuple #[.int .i64 ((n + 1 : Nat) : Int), .bool false]) ∧ Below wx.heap.size wx w') := fun wx hx => by
    refine (place_any g n cap nn L wx hn (by omega) hu hx).mono ?_
    rintro e w' ⟨i, rfl, hP, hbb⟩
    obtain ⟨rfl, h2⟩ := hat0 i hP
    exact ⟨by rw [h2], hbb⟩
  obtain ⟨X, hX⟩ : ∃ X : ByteArray, X = po.tx ++ d := ⟨_, rfl⟩
  have CO : Hid (∀ wx, R16.CmAt wx g 0 L → Calls Try.prog 14 #[.agg #[.func (.func 18) #[] #[], .slice (some ⟨g, 0, none⟩) (n + 1) cap], .int .u64 (o : Int)] wx fun e w' => e = .returned (.tuple #[.string po.tx, .bool true]) ∧ Below wx.heap.size wx w') := fun wx hx => by
    refine (of_any16 g n cap o L wx hn (by omega) hu hx).mono ?_
    rintro e w' ⟨i, rfl, hP, hbb⟩
    exact ⟨by rw [(hat1 i hP).1, (hat1 i hP).2], hbb⟩
  have CC : Hid (∀ wx, Calls Try.prog 21 #[.string d] wx fun e w' => e = .returned (.string d) ∧ Below wx.heap.size wx w') := fun wx => clone_any d wx (by omega)
  have CR : Hid (∀ wx, Calls Try.prog 18 #[.string po.tx, .string d] wx fun e w' => e = .returned (.tuple #[.string X, .int .i64 0]) ∧ Below wx.heap.size wx w') := fun wx => by
    rw [hX]
    refine (ruleF_yes po.tx d hb hs wx).mono ?_
    rintro e w' ⟨rfl, rfl⟩
    exact ⟨rfl, Below.refl _ _⟩
  have e3 : ¬ (nn : Int) ≤ (o : Int) := by omega
  have d3 : decide ((nn : Int) ≤ (o : Int)) = false := decide_eq_false e3
  have e4 : (((n + 1 : Nat) : Int) == 0) = false := by rw [beq_eq_false_iff_ne]; omega
  have e5 : ((n : Int) + 1 == 0) = false := by rw [beq_eq_false_iff_ne]; omega
  rw [← hX]
  have ptx := po.tx
  have la : g < w.heap.size := ha.lt
  have r1 : Row (((w.alloc (.cells #[.func (.func 18) #[] #[], .slice (some ⟨g, 0, none⟩) (n + 1) cap] 30 (0, 0))).alloc (.cells #[.int .u64 (o : Int), .int .u64 (nn : Int), .int .u64 (aa : Int), .int .u64 (tt : Int), .string d] 37 (0, 0))).alloc (.cells #[.nilFunc, .slice none 0 0] 30 (0, 0))) w.heap.size 30 [.func (.func 18) #[] #[], .slice (some ⟨g, 0, none⟩) (n + 1) cap] := ((Row.new' rfl rfl).alloc _).alloc _
  have i1 : Row (((w.alloc (.cells #[.func (.func 18) #[] #[], .slice (some ⟨g, 0, none⟩) (n + 1) cap] 30 (0, 0))).alloc (.cells #[.int .u64 (o : Int), .int .u64 (nn : Int), .int .u64 (aa : Int), .int .u64 (tt : Int), .string d] 37 (0, 0))).alloc (.cells #[.nilFunc, .slice none 0 0] 30 (0, 0))) (w.heap.size + 1) 37 [.int .u64 (o : Int), .int .u64 (nn : Int), .int .u64 (aa : Int), .int .u64 (tt : Int), .string d] := (Row.new' rfl (by simp)).alloc _
  have q1 : Row (((w.alloc (.cells #[.func (.func 18) #[] #[], .slice (some ⟨g, 0, none⟩) (n + 1) cap] 30 (0, 0))).alloc (.cells #[.int .u64 (o : Int), .int .u64 (nn : Int), .int .u64 (aa : Int), .int .u64 (tt : Int), .string d] 37 (0, 0))).alloc (.cells #[.nilFunc, .slice none 0 0] 30 (0, 0))) (w.heap.size + 2) 30 [.nilFunc, .slice none 0 0] := Row.new' rfl (by simp)
  have ha1 := ((ha.alloc (.cells #[.func (.func 18) #[] #[], .slice (some ⟨g, 0, none⟩) (n + 1) cap] 30 (0, 0))).alloc (.cells #[.int .u64 (o : Int), .int .u64 (nn : Int), .int .u64 (aa : Int), .int .u64 (tt : Int), .string d] 37 (0, 0))).alloc (.cells #[.nilFunc, .slice none 0 0] 30 (0, 0))
  have bb : Below w.heap.size w (((w.alloc (.cells #[.func (.func 18) #[] #[], .slice (some ⟨g, 0, none⟩) (n + 1) cap] 30 (0, 0))).alloc (.cells #[.int .u64 (o : Int), .int .u64 (nn : Int), .int .u64 (aa : Int), .int .u64 (tt : Int), .string d] 37 (0, 0))).alloc (.cells #[.nilFunc, .slice none 0 0] 30 (0, 0))) := (((Below.refl _ _).alloc (Nat.le_refl _) _).alloc (by simp) _).alloc (by simp; omega) _
  have h3 : w.heap.size + 3 ≤ (((w.alloc (.cells #[.func (.func 18) #[] #[], .slice (some ⟨g, 0, none⟩) (n + 1) cap] 30 (0, 0))).alloc (.cells #[.int .u64 (o : Int), .int .u64 (nn : Int), .int .u64 (aa : Int), .int .u64 (tt : Int), .string d] 37 (0, 0))).alloc (.cells #[.nilFunc, .slice none 0 0] 30 (0, 0))).heap.size := by simp
  clear hat0 hat1 hX hon hlt hb hs hpo hu ha hn ptx
  generalize po.tx = vt at *
  go_enter Try.func11, Try.ntmps11
  go_wp2_with (refine wpList_load_row rfl 30 (.tmp 2) rfl (w.heap.size) rfl _ _ _ _ r1 Try.underlying30 rfl infoRv ?_)
  generalize ((w.alloc (.cells #[.func (.func 18) #[] #[], .slice (some ⟨g, 0, none⟩) (n + 1) cap] 30 (0, 0))).alloc (.cells #[.int .u64 (o : Int), .int .u64 (nn : Int), .int .u64 (aa : Int), .int .u64 (tt : Int), .string d] 37 (0, 0))).alloc (.cells #[.nilFunc, .slice none 0 0] 30 (0, 0)) = w1 at *
  clear h3
  obtain ⟨B1, hB1⟩ : ∃ B, B = w.heap.size + 3 := ⟨_, rfl⟩
  have h3 : w.heap.size + 3 ≤ B1 := by omega
  have h3' : B1 ≤ w.heap.size + 3 := by omega
  clear hB1
  have CCl : Hid (∀ wx, B1 ≤ wx.heap.size → R16.CmAt wx g 0 L → Calls Try.prog 24 #[.slice (some ⟨g, 0, none⟩) (n + 1) cap] wx fun e w' => ∃ g3 cap3, e = .returned (.slice (some ⟨g3, 0, none⟩) (n + 1) cap3) ∧ w'.ownsRow B1 60 2 (.slice (some ⟨g3, 0, none⟩) (n + 1) cap3) (n + 1) (R16.cellsL L) ∧ B1 ≤ g3 ∧ n + 1 ≤ cap3 ∧ Below wx.heap.size wx w') := fun wx hlw hx => by
    refine (cloneCm_any g 0 n cap L wx HLN.out (by omega) hx).mono ?_
    rintro e w' ⟨v, rfl, ho, hbb⟩
    obtain ⟨g3, cap3, rfl, h31, h32, h33, h34⟩ := R16.own_slice ho
    exact ⟨g3, cap3, rfl, own_lower ho hlw, Nat.le_trans hlw h31, h33, hbb⟩
  refine (CP.out _ ha1).mono ?_
  rintro e wa6 ⟨rfl, bwa6⟩
  replace r1 := r1.below bwa6 r1.lt
  replace i1 := i1.below bwa6 i1.lt
  replace q1 := q1.below bwa6 q1.lt
  replace ha1 := ha1.keep bwa6
  replace bb := bb.trans (bwa6.mono bb.size)
  clear bwa6
  have ci10 : wa6.cell? ⟨(w.heap.size + 1), 0, none⟩ = some (.int .u64 (o : Int)) := i1.cell 0
  have tok7 : True := True.intro
  go_wp2_with (first | (refine at_op (.load 30 (.tmp 2)) (by with_reducible rfl) ?_; clear tok7; refine wpList_load_row rfl 30 (.tmp 2) rfl (w.heap.size) rfl _ _ _ _ r1 Try.underlying30 rfl infoRv ?_))
  clear ci10
  refine (CO.out _ ha1).mono ?_
  rintro e wa8 ⟨rfl, bwa8⟩
  replace r1 := r1.below bwa8 r1.lt
  replace i1 := i1.below bwa8 i1.lt
  replace q1 := q1.below bwa8 q1.lt
  replace ha1 := ha1.keep bwa8
  replace bb := bb.trans (bwa8.mono bb.size)
  clear bwa8
  have ci10 : wa8.cell? ⟨(w.heap.size + 1), 0, none⟩ = some (.int .u64 (o : Int)) := i1.cell 0
  have ci11 : wa8.cell? ⟨(w.heap.size + 1), 1, none⟩ = some (.int .u64 (nn : Int)) := i1.cell 1
  go_wp2
  clear ci10 ci11
  refine wp_region_held_drew (S := fun w' => Row w' w.heap.size 30 [.func (.func 18) #[] #[], .slice (some ⟨g, 0, none⟩) (n + 1) cap] ∧ Row w' (w.heap.size + 1) 37 [.int .u64 (o : Int), .int .u64 (nn : Int), .int .u64 (aa : Int), .int .u64 (tt : Int), .string d] ∧ Row w' (w.heap.size + 2) 30 [.nilFunc, .slice none 0 0] ∧ R16.CmAt w' g 0 L ∧ Below w.heap.size w w') (by kernel_rfl) (⟨r1.drew, i1.drew, q1.drew, ha1.drew, bb.drew⟩) (fun hHeld => ?_)
  generalize wa8.drew = wd9 at *
  refine take_d 0 (some 43) (.pointer (some ⟨w.heap.size, 0, none⟩)) rfl (by kernel_rfl) (by kernel_rfl) (by kernel_rfl) (fun _ _ _ h => h) (fun oi h => by cases h; exact Or.inl ⟨by rfl, fun w' hS' => by go_simp⟩) hHeld ?_
  try simp only [Act.put, List.setIfInBounds_toArray, List.set_cons_zero, List.set_cons_succ]
  refine take_d 1 (some 44) (.pointer (some ⟨w.heap.size, 0, none⟩)) rfl (by kernel_rfl) (by kernel_rfl) (by kernel_rfl) (fun _ _ _ h => h) (fun oi h => by cases h; exact Or.inl ⟨by rfl, fun w' hS' => by go_simp⟩) hHeld ?_
  try simp only [Act.put, List.setIfInBounds_toArray, List.set_cons_zero, List.set_cons_succ]
  refine take_d 2 (some 45) (.func (.func 18) #[] #[]) rfl (by kernel_rfl) (by kernel_rfl) (by kernel_rfl) (fun _ _ _ h => h) (fun oi h => by cases h; exact Or.inl ⟨by rfl, fun w' hS' => by have c : w'.cell? ⟨w.heap.size, 0, none⟩ = some (.func (.func 18) #[] #[]) := hS'.1.cell 0; go_simp⟩) hHeld ?_
  try simp only [Act.put, List.setIfInBounds_toArray, List.set_cons_zero, List.set_cons_succ]
  refine take_d 3 (some 46) (.string vt) rfl (by kernel_rfl) (by kernel_rfl) (by kernel_rfl) (fun _ _ _ h => h) (fun oi h => by cases h; exact Or.inl ⟨by rfl, fun w' hS' => by go_simp⟩) hHeld ?_
  try simp only [Act.put, List.setIfInBounds_toArray, List.set_cons_zero, List.set_cons_succ]
  refine take_d 4 (some 47) (.pointer (some ⟨(w.heap.size + 1), 4, none⟩)) rfl (by kernel_rfl) (by kernel_rfl) (by kernel_rfl) (fun _ _ _ h => h) (fun oi h => by cases h; exact Or.inl ⟨by rfl, fun w' hS' => by go_simp⟩) hHeld ?_
  try simp only [Act.put, List.setIfInBounds_toArray, List.set_cons_zero, List.set_cons_succ]
  refine take_d 5 (some 48) (.string d) rfl (by kernel_rfl) (by kernel_rfl) (by kernel_rfl) (fun _ _ _ h => h) (fun oi h => by cases h; exact Or.inl ⟨by rfl, fun w' hS' => by have c : w'.cell? ⟨(w.heap.size + 1), 4, none⟩ = some (.string d) := hS'.2.1.cell 4; go_simp⟩) hHeld ?_
  try simp only [Act.put, List.setIfInBounds_toArray, List.set_cons_zero, List.set_cons_succ]
  refine one_d 6 (some 49) rfl (by kernel_rfl) ?_
  intro o ho1 hd K hK
  cases ho1
  go_simp
  refine (CC.out _).mono ?_
  rintro e v10 ⟨rfl, bb0⟩
  refine hK.out _ _ (⟨hHeld.1.below bb0 hHeld.1.lt, hHeld.2.1.below bb0 hHeld.2.1.lt, hHeld.2.2.1.below bb0 hHeld.2.2.1.lt, hHeld.2.2.2.1.keep bb0, hHeld.2.2.2.2.trans (bb0.mono hHeld.2.2.2.2.size)⟩) (fun hHeld => ?_)
  clear bb0
  clear hK K hd
  try simp only [Act.put, List.setIfInBounds_toArray, List.set_cons_zero, List.set_cons_succ]
  refine one_d 7 (some 50) rfl (by kernel_rfl) ?_
  intro o ho1 hd K hK
  cases ho1
  go_simp
  refine (CR.out _).mono ?_
  rintro e v11 ⟨rfl, bb0⟩
  refine hK.out _ _ (⟨hHeld.1.below bb0 hHeld.1.lt, hHeld.2.1.below bb0 hHeld.2.1.lt, hHeld.2.2.1.below bb0 hHeld.2.2.1.lt, hHeld.2.2.2.1.keep bb0, hHeld.2.2.2.2.trans (bb0.mono hHeld.2.2.2.2.size)⟩) (fun hHeld => ?_)
  clear bb0
  clear hK K hd
  try simp only [Act.put, List.setIfInBounds_toArray, List.set_cons_zero, List.set_cons_succ]
  refine take_d 8 (some 42) (.tuple #[.string X, .int .i64 0]) rfl (by kernel_rfl) (by kernel_rfl) (by kernel_rfl) (fun _ _ _ h => h) (fun oi h => by cases h; exact Or.inl ⟨by rfl, fun w' hS' => by go_simp⟩) hHeld ?_
  try simp only [Act.put, List.setIfInBounds_toArray, List.set_cons_zero, List.set_cons_succ]
  refine take_d 9 (some 51) (.string X) rfl (by kernel_rfl) (by kernel_rfl) (by kernel_rfl) (fun _ _ _ h => h) (fun oi h => by cases h; exact Or.inl ⟨by rfl, fun w' hS' => by go_simp⟩) hHeld ?_
  try simp only [Act.put, List.setIfInBounds_toArray, List.set_cons_zero, List.set_cons_succ]
  refine take_d 10 (some 52) (.int .i64 0) rfl (by kernel_rfl) (by kernel_rfl) (by kernel_rfl) (fun _ _ _ h => h) (fun oi h => by cases h; exact Or.inl ⟨by rfl, fun w' hS' => by go_simp⟩) hHeld ?_
  try simp only [Act.put, List.setIfInBounds_toArray, List.set_cons_zero, List.set_cons_succ]
  refine take_d 11 (some 10) (.string X) rfl (by kernel_rfl) (by kernel_rfl) (by kernel_rfl) (fun _ _ _ h => h) (fun oi h => by cases h; exact Or.inl ⟨by rfl, fun w' hS' => by go_simp⟩) hHeld ?_
  try simp only [Act.put, List.setIfInBounds_toArray, List.set_cons_zero, List.set_cons_succ]
  refine take_d 12 (some 11) (.int .i64 0) rfl (by kernel_rfl) (by kernel_rfl) (by kernel_rfl) (fun _ _ _ h => h) (fun oi h => by cases h; exact Or.inl ⟨by rfl, fun w' hS' => by go_simp⟩) hHeld ?_
  try simp only [Act.put, List.setIfInBounds_toArray, List.set_cons_zero, List.set_cons_succ]
  refine wpAnyH_done (by kernel_rfl) ?_ _
  try simp only [Act.put]
  replace r1 := hHeld.1
  replace i1 := hHeld.2.1
  replace q1 := hHeld.2.2.1
  replace ha1 := hHeld.2.2.2.1
  replace bb := hHeld.2.2.2.2
  clear hHeld
  have cr11 : v11.cell? ⟨w.heap.size, 1, none⟩ = some (.slice (some ⟨g, 0, none⟩) (n + 1) cap) := r1.cell 1
  go_wp2
  clear cr11
  have l0 : w.heap.size + 3 ≤ B1 := h3
  refine wp_region_held_drew (S := fun w' => Row w' (w.heap.size + 1) 37 [.int .u64 (o : Int), .int .u64 (nn : Int), .int .u64 (aa : Int), .int .u64 (tt : Int), .string d] ∧ Row w' (w.heap.size + 2) 30 [.nilFunc, .slice none 0 0] ∧ R16.CmAt w' g 0 L ∧ Below w.heap.size w w') (by kernel_rfl) (⟨i1.drew, q1.drew, ha1.drew, bb.drew⟩) (fun hHeld => ?_)
  replace r1 := r1.drew
  generalize v11.drew = wd12 at *
  refine take_d 0 (some 61) (.pointer (some ⟨w.heap.size, 1, none⟩)) rfl (by kernel_rfl) (by kernel_rfl) (by kernel_rfl) (fun _ _ _ h => h) (fun oi h => by cases h; exact Or.inl ⟨by rfl, fun w' hS' => by go_simp⟩) hHeld ?_
  try simp only [Act.put, List.setIfInBounds_toArray, List.set_cons_zero, List.set_cons_succ]
  refine take_d 3 (some 64) (.int .i64 ((n + 1 : Nat) : Int)) rfl (by kernel_rfl) (by kernel_rfl) (by kernel_rfl) (fun _ _ _ h => h) (fun oi h => by cases h; exact Or.inl ⟨by rfl, fun w' hS' => by go_simp⟩) hHeld ?_
  try simp only [Act.put, List.setIfInBounds_toArray, List.set_cons_zero, List.set_cons_succ]
  refine take_d 4 (some 65) (.pointer (some ⟨(w.heap.size + 1), 1, none⟩)) rfl (by kernel_rfl) (by kernel_rfl) (by kernel_rfl) (fun _ _ _ h => h) (fun oi h => by cases h; exact Or.inl ⟨by rfl, fun w' hS' => by go_simp⟩) hHeld ?_
  try simp only [Act.put, List.setIfInBounds_toArray, List.set_cons_zero, List.set_cons_succ]
  refine take_d 5 (some 66) (.int .u64 (nn : Int)) rfl (by kernel_rfl) (by kernel_rfl) (by kernel_rfl) (fun _ _ _ h => h) (fun oi h => by cases h; exact Or.inl ⟨by rfl, fun w' hS' => by have c : w'.cell? ⟨(w.heap.size + 1), 1, none⟩ = some (.int .u64 (nn : Int)) := hS'.1.cell 1; go_simp⟩) hHeld ?_
  try simp only [Act.put, List.setIfInBounds_toArray, List.set_cons_zero, List.set_cons_succ]
  refine take_d 6 (some 67) (.string X) rfl (by kernel_rfl) (by kernel_rfl) (by kernel_rfl) (fun _ _ _ h => h) (fun oi h => by cases h; exact Or.inl ⟨by rfl, fun w' hS' => by go_simp⟩) hHeld ?_
  try simp only [Act.put, List.setIfInBounds_toArray, List.set_cons_zero, List.set_cons_succ]
  refine take_d 7 (some 68) (.agg #[.int .u64 (nn : Int), .string X]) rfl (by kernel_rfl) (by kernel_rfl) (by kernel_rfl) (fun _ _ _ h => h) (fun oi h => by cases h; exact Or.inl ⟨by rfl, fun w' hS' => by go_simp⟩) hHeld ?_
  try simp only [Act.put, List.setIfInBounds_toArray, List.set_cons_zero, List.set_cons_succ]
  refine take_d 10 (some 71) (.pointer (some ⟨(w.heap.size + 1), 3, none⟩)) rfl (by kernel_rfl) (by kernel_rfl) (by kernel_rfl) (fun _ _ _ h => h) (fun oi h => by cases h; exact Or.inl ⟨by rfl, fun w' hS' => by go_simp⟩) hHeld ?_
  try simp only [Act.put, List.setIfInBounds_toArray, List.set_cons_zero, List.set_cons_succ]
  refine take_d 11 (some 72) (.int .u64 (tt : Int)) rfl (by kernel_rfl) (by kernel_rfl) (by kernel_rfl) (fun _ _ _ h => h) (fun oi h => by cases h; exact Or.inl ⟨by rfl, fun w' hS' => by have c : w'.cell? ⟨(w.heap.size + 1), 3, none⟩ = some (.int .u64 (tt : Int)) := hS'.1.cell 3; go_simp⟩) hHeld ?_
  try simp only [Act.put, List.setIfInBounds_toArray, List.set_cons_zero, List.set_cons_succ]
  refine two_d 1 8 rfl rfl (by kernel_rfl) ?_ ?_
  · intro K hK
    have c : wd12.cell? ⟨w.heap.size, 1, none⟩ = some (.slice (some ⟨g, 0, none⟩) (n + 1) cap) := r1.cell 1
    go_simp
    refine hK.out _ _ hHeld (fun hHeld => ?_)
    clear c
    clear hK K
    try simp only [Act.put, List.setIfInBounds_toArray, List.set_cons_zero, List.set_cons_succ]
    refine two_d 2 8 rfl rfl (by kernel_rfl) ?_ ?_
    · intro K hK
      have hlw : B1 ≤ wd12.heap.size := by have := hHeld.2.1.lt; omega
      go_simp
      refine (CCl.out _ hlw hHeld.2.2.1).mono ?_
      rintro e v13 ⟨g3, cap3, rfl, hov, hg3, hcp3, bb0⟩
      replace r1 := r1.below bb0 r1.lt
      refine hK.out _ _ (⟨hHeld.1.below bb0 hHeld.1.lt, hHeld.2.1.below bb0 hHeld.2.1.lt, hHeld.2.2.1.keep bb0, hHeld.2.2.2.trans (bb0.mono hHeld.2.2.2.size)⟩) (fun hHeld => ?_)
      clear bb0 hlw
      clear hK K
      try simp only [Act.put, List.setIfInBounds_toArray, List.set_cons_zero, List.set_cons_succ]
      refine one_d 8 (some 69) rfl (by kernel_rfl) ?_
      intro o ho1 hd K hK
      cases ho1
      go_simp
      refine hK.out _ _ ⟨hHeld.1.alloc _, hHeld.2.1.alloc _, hHeld.2.2.1.alloc _, hHeld.2.2.2.alloc hHeld.2.2.2.size _⟩ (fun hHeld => ?_)
      have x31 : Row (v13.alloc (.cells #[.int .u64 (nn : Int), .string X] 60 (0, 0))) v13.heap.size 60 [.int .u64 (nn : Int), .string X] := Row.new' rfl rfl
      replace r1 := r1.alloc (.cells #[.int .u64 (nn : Int), .string X] 60 (0, 0))
      replace hov := hov.alloc (.cells #[.int .u64 (nn : Int), .string X] 60 (0, 0))
      obtain ⟨p31, hp31⟩ : ∃ p, p = v13.heap.size := ⟨_, rfl⟩
      rw [← hp31] at x31 ⊢
      generalize v13.alloc (.cells #[.int .u64 (nn : Int), .string X] 60 (0, 0)) = v14 at *
      clear hp31
      clear hK K hd
      try simp only [Act.put, List.setIfInBounds_toArray, List.set_cons_zero, List.set_cons_succ]
      refine one_d 9 (some 70) rfl (by kernel_rfl) ?_
      intro o ho1 hd K hK
      cases ho1
      have hlw : B1 ≤ v14.heap.size := by have := hHeld.2.1.lt; omega
      go_simp
      refine (insertEnd_any B1 g3 n cap3 p31 L (R16.Cm.mk nn X) _ HLN.out (by omega) hlw hov x31).mono ?_
      rintro e v15 ⟨v4, rfl, ho4, hgr⟩
      obtain ⟨g4, cap4, rfl, hg4, hg4', hcp4, hcp4'⟩ := R16.own_slice ho4
      replace r1 := r1.grown16 hgr (by omega)
      clear hov x31 hlw
      refine hK.out _ _ ⟨hHeld.1.grown16 hgr (by omega), hHeld.2.1.grown16 hgr (by omega), hHeld.2.2.1.grown16 hgr (by omega), hHeld.2.2.2.grown hgr hHeld.2.2.2.size (fun k hk => by cases hk; omega)⟩ (fun hHeld => ?_)
      clear hgr hg4'
      clear hK K hd
      try simp only [Act.put, List.setIfInBounds_toArray, List.set_cons_zero, List.set_cons_succ]
      refine one_d 12 (some 73) rfl (by kernel_rfl) ?_
      intro o ho1 hd K hK
      cases ho1
      have hlw : B1 ≤ v15.heap.size := by have := hHeld.2.1.lt; omega
      go_simp
      refine (kept_any g4 (n + 1) cap4 tt (L ++ [R16.Cm.mk nn X]) _ (by rw [List.length_append, HLN.out]; rfl) (by omega) hcp4 (R16.CmAt.of_owns ho4)).mono ?_
      rintro e v16 ⟨a, v5, rfl, hKp, ho5, bb0⟩
      obtain ⟨m, hm⟩ : ∃ m, ((L ++ [R16.Cm.mk nn X]).drop a).length = m + 1 := ⟨((L ++ [R16.Cm.mk nn X]).drop a).length - 1, by have := hKp.1; rw [List.length_drop]; omega⟩
      have HKP := Lib.hid hKp
      have HM5 := Lib.hid hm
      rw [hm] at ho5
      replace ho5 := own_lower ho5 hlw
      clear hm hKp
      obtain ⟨g5, cap5, rfl, hg5, hg5', hcp5, hcp5'⟩ := R16.own_slice ho5
      replace r1 := r1.below bb0 r1.lt
      refine hK.out _ _ (⟨hHeld.1.below bb0 hHeld.1.lt, hHeld.2.1.below bb0 hHeld.2.1.lt, hHeld.2.2.1.keep bb0, hHeld.2.2.2.trans (bb0.mono hHeld.2.2.2.size)⟩) (fun hHeld => ?_)
      clear bb0 hlw ho4 hg5'
      clear hK K hd
      try simp only [Act.put, List.setIfInBounds_toArray, List.set_cons_zero, List.set_cons_succ]
      refine take_d 13 (some 74) (.pointer (some ⟨w.heap.size, 1, none⟩)) rfl (by kernel_rfl) (by kernel_rfl) (by kernel_rfl) (fun _ _ _ h => h) (fun oi h => by cases h; exact Or.inl ⟨by rfl, fun w' hS' => by go_simp⟩) hHeld ?_
      try simp only [Act.put, List.setIfInBounds_toArray, List.set_cons_zero, List.set_cons_succ]
      refine one_d 14 none rfl (by kernel_rfl) ?_
      intro o ho1 hd K hK
      cases ho1
      have c : v16.cell? ⟨w.heap.size, 1, none⟩ = some (.slice (some ⟨g, 0, none⟩) (n + 1) cap) := r1.cell 1
      have f := r1.frozen 1
      have hca := R16.CmAt.of_owns ho5
      go_simp
      have r2 := r1.set 1 (.slice (some ⟨g5, 0, none⟩) (m + 1) cap5)
      simp only [List.set_cons_succ, List.set_cons_zero] at r2
      have hca2 := hca.other (k := w.heap.size) (i := 1) (by omega) (.slice (some ⟨g5, 0, none⟩) (m + 1) cap5)
      refine hK.out _ _ ⟨hHeld.1.other (k := w.heap.size) (i := 1) (by omega) (.slice (some ⟨g5, 0, none⟩) (m + 1) cap5), hHeld.2.1.other (k := w.heap.size) (i := 1) (by omega) (.slice (some ⟨g5, 0, none⟩) (m + 1) cap5), hHeld.2.2.1.other (k := w.heap.size) (i := 1) (by omega) (.slice (some ⟨g5, 0, none⟩) (m + 1) cap5), hHeld.2.2.2.setCell (p := ⟨w.heap.size, 1, none⟩) (Nat.le_refl _) (.slice (some ⟨g5, 0, none⟩) (m + 1) cap5)⟩ (fun hHeld => ?_)
      generalize v16.setCell ⟨w.heap.size, 1, none⟩ (.slice (some ⟨g5, 0, none⟩) (m + 1) cap5) = v17 at *
      clear c f r1 ho5 hca
      clear hK K hd
      try simp only [Act.put, List.setIfInBounds_toArray, List.set_cons_zero, List.set_cons_succ]
      refine wpAnyH_done (by kernel_rfl) ?_ _
      try simp only [Act.put]
      replace i1 := hHeld.1
      replace q1 := hHeld.2.1
      replace ha1 := hHeld.2.2.1
      replace bb := hHeld.2.2.2
      clear hHeld
      have tok18 : True := True.intro
      have tok19 : True := True.intro
      go_wp2_with (first | (refine at_op (.load 30 (.tmp 2)) (by with_reducible rfl) ?_; clear tok18; refine wpList_load_row rfl 30 (.tmp 2) rfl (w.heap.size) rfl _ _ _ _ r2 Try.underlying30 rfl infoRv ?_) | (refine at_op (.store 30 (.tmp 4) (.tmp 75)) (by with_reducible rfl) ?_; clear tok19; refine wpList_store_row rfl 30 (.tmp 4) (.tmp 75) rfl ((w.heap.size + 2)) _ rfl rfl _ _ q1 infoRv rfl (by simp [Value.oneCell']) ?_))
      exact bodyPost_ret (results_row_tmp2 rfl _ _ (w.heap.size + 2) 30 [.func (.func 18) #[] #[], .slice (some ⟨g5, 0, none⟩) (m + 1) cap5] _ rfl (q1.setRow [.func (.func 18) #[] #[], .slice (some ⟨g5, 0, none⟩) (m + 1) cap5]) Try.underlying30 rfl infoRv) rfl ⟨a, m, g5, cap5, rfl, HKP.out, hca2.setRow (k := w.heap.size + 2) (by omega) _, HM5.out, hcp5, below_row bb (show _ ≤ w.heap.size + 2 by omega) _⟩
    · intro K hK
      go_simp
      refine hK.out _ _ ⟨hHeld.1.alloc _, hHeld.2.1.alloc _, hHeld.2.2.1.alloc _, hHeld.2.2.2.alloc hHeld.2.2.2.size _⟩ (fun hHeld => ?_)
      have x31 : Row (wd12.alloc (.cells #[.int .u64 (nn : Int), .string X] 60 (0, 0))) wd12.heap.size 60 [.int .u64 (nn : Int), .string X] := Row.new' rfl rfl
      replace r1 := r1.alloc (.cells #[.int .u64 (nn : Int), .string X] 60 (0, 0))
      obtain ⟨p31, hp31⟩ : ∃ p, p = wd12.heap.size := ⟨_, rfl⟩
      rw [← hp31] at x31 ⊢
      generalize wd12.alloc (.cells #[.int .u64 (nn : Int), .string X] 60 (0, 0)) = v13 at *
      clear hp31
      clear hK K
      try simp only [Act.put, List.setIfInBounds_toArray, List.set_cons_zero, List.set_cons_succ]
      refine one_d 2 (some 63) rfl (by kernel_rfl) ?_
      intro o ho1 hd K hK
      cases ho1
      have hlw : B1 ≤ v13.heap.size := by have := hHeld.2.1.lt; omega
      go_simp
      refine (CCl.out _ hlw hHeld.2.2.1).mono ?_
      rintro e v14 ⟨g3, cap3, rfl, hov, hg3, hcp3, bb0⟩
      replace r1 := r1.below bb0 r1.lt
      replace x31 := x31.below bb0 x31.lt
      refine hK.out _ _ (⟨hHeld.1.below bb0 hHeld.1.lt, hHeld.2.1.below bb0 hHeld.2.1.lt, hHeld.2.2.1.keep bb0, hHeld.2.2.2.trans (bb0.mono hHeld.2.2.2.size)⟩) (fun hHeld => ?_)
      clear bb0 hlw
      clear hK K hd
      try simp only [Act.put, List.setIfInBounds_toArray, List.set_cons_zero, List.set_cons_succ]
      refine one_d 9 (some 70) rfl (by kernel_rfl) ?_
      intro o ho1 hd K hK
      cases ho1
      have hlw : B1 ≤ v14.heap.size := by have := hHeld.2.1.lt; omega
      go_simp
      refine (insertEnd_any B1 g3 n cap3 p31 L (R16.Cm.mk nn X) _ HLN.out (by omega) hlw hov x31).mono ?_
      rintro e v15 ⟨v4, rfl, ho4, hgr⟩
      obtain ⟨g4, cap4, rfl, hg4, hg4', hcp4, hcp4'⟩ := R16.own_slice ho4
      replace r1 := r1.grown16 hgr (by omega)
      clear hov x31 hlw
      refine hK.out _ _ ⟨hHeld.1.grown16 hgr (by omega), hHeld.2.1.grown16 hgr (by omega), hHeld.2.2.1.grown16 hgr (by omega), hHeld.2.2.2.grown hgr hHeld.2.2.2.size (fun k hk => by cases hk; omega)⟩ (fun hHeld => ?_)
      clear hgr hg4'
      clear hK K hd
      try simp only [Act.put, List.setIfInBounds_toArray, List.set_cons_zero, List.set_cons_succ]
      refine one_d 12 (some 73) rfl (by kernel_rfl) ?_
      intro o ho1 hd K hK
      cases ho1
      have hlw : B1 ≤ v15.heap.size := by have := hHeld.2.1.lt; omega
      go_simp
      refine (kept_any g4 (n + 1) cap4 tt (L ++ [R16.Cm.mk nn X]) _ (by rw [List.length_append, HLN.out]; rfl) (by omega) hcp4 (R16.CmAt.of_owns ho4)).mono ?_
      rintro e v16 ⟨a, v5, rfl, hKp, ho5, bb0⟩
      obtain ⟨m, hm⟩ : ∃ m, ((L ++ [R16.Cm.mk nn X]).drop a).length = m + 1 := ⟨((L ++ [R16.Cm.mk nn X]).drop a).length - 1, by have := hKp.1; rw [List.length_drop]; omega⟩
      have HKP := Lib.hid hKp
      have HM5 := Lib.hid hm
      rw [hm] at ho5
      replace ho5 := own_lower ho5 hlw
      clear hm hKp
      obtain ⟨g5, cap5, rfl, hg5, hg5', hcp5, hcp5'⟩ := R16.own_slice ho5
      replace r1 := r1.below bb0 r1.lt
      refine hK.out _ _ (⟨hHeld.1.below bb0 hHeld.1.lt, hHeld.2.1.below bb0 hHeld.2.1.lt, hHeld.2.2.1.keep bb0, hHeld.2.2.2.trans (bb0.mono hHeld.2.2.2.size)⟩) (fun hHeld => ?_)
      clear bb0 hlw ho4 hg5'
      clear hK K hd
      try simp only [Act.put, List.setIfInBounds_toArray, List.set_cons_zero, List.set_cons_succ]
      refine take_d 13 (some 74) (.pointer (some ⟨w.heap.size, 1, none⟩)) rfl (by kernel_rfl) (by kernel_rfl) (by kernel_rfl) (fun _ _ _ h => h) (fun oi h => by cases h; exact Or.inl ⟨by rfl, fun w' hS' => by go_simp⟩) hHeld ?_
      try simp only [Act.put, List.setIfInBounds_toArray, List.set_cons_zero, List.set_cons_succ]
      refine one_d 14 none rfl (by kernel_rfl) ?_
      intro o ho1 hd K hK
      cases ho1
      have c : v16.cell? ⟨w.heap.size, 1, none⟩ = some (.slice (some ⟨g, 0, none⟩) (n + 1) cap) := r1.cell 1
      have f := r1.frozen 1
      have hca := R16.CmAt.of_owns ho5
      go_simp
      have r2 := r1.set 1 (.slice (some ⟨g5, 0, none⟩) (m + 1) cap5)
      simp only [List.set_cons_succ, List.set_cons_zero] at r2
      have hca2 := hca.other (k := w.heap.size) (i := 1) (by omega) (.slice (some ⟨g5, 0, none⟩) (m + 1) cap5)
      refine hK.out _ _ ⟨hHeld.1.other (k := w.heap.size) (i := 1) (by omega) (.slice (some ⟨g5, 0, none⟩) (m + 1) cap5), hHeld.2.1.other (k := w.heap.size) (i := 1) (by omega) (.slice (some ⟨g5, 0, none⟩) (m + 1) cap5), hHeld.2.2.1.other (k := w.heap.size) (i := 1) (by omega) (.slice (some ⟨g5, 0, none⟩) (m + 1) cap5), hHeld.2.2.2.setCell (p := ⟨w.heap.size, 1, none⟩) (Nat.le_refl _) (.slice (some ⟨g5, 0, none⟩) (m + 1) cap5)⟩ (fun hHeld => ?_)
      generalize v16.setCell ⟨w.heap.size, 1, none⟩ (.slice (some ⟨g5, 0, none⟩) (m + 1) cap5) = v17 at *
      clear c f r1 ho5 hca
      clear hK K hd
      try simp only [Act.put, List.setIfInBounds_toArray, List.set_cons_zero, List.set_cons_succ]
      refine wpAnyH_done (by kernel_rfl) ?_ _
      try simp only [Act.put]
      replace i1 := hHeld.1
      replace q1 := hHeld.2.1
      replace ha1 := hHeld.2.2.1
      replace bb := hHeld.2.2.2
      clear hHeld
      have tok18 : True := True.intro
      have tok19 : True := True.intro
      go_wp2_with (first | (refine at_op (.load 30 (.tmp 2)) (by with_reducible rfl) ?_; clear tok18; refine wpList_load_row rfl 30 (.tmp 2) rfl (w.heap.size) rfl _ _ _ _ r2 Try.underlying30 rfl infoRv ?_) | (refine at_op (.store 30 (.tmp 4) (.tmp 75)) (by with_reducible rfl) ?_; clear tok19; refine wpList_store_row rfl 30 (.tmp 4) (.tmp 75) rfl ((w.heap.size + 2)) _ rfl rfl _ _ q1 infoRv rfl (by simp [Value.oneCell']) ?_))
      exact bodyPost_ret (results_row_tmp2 rfl _ _ (w.heap.size + 2) 30 [.func (.func 18) #[] #[], .slice (some ⟨g5, 0, none⟩) (m + 1) cap5] _ rfl (q1.setRow [.func (.func 18) #[] #[], .slice (some ⟨g5, 0, none⟩) (m + 1) cap5]) Try.underlying30 rfl infoRv) rfl ⟨a, m, g5, cap5, rfl, HKP.out, hca2.setRow (k := w.heap.size + 2) (by omega) _, HM5.out, hcp5, below_row bb (show _ ≤ w.heap.size + 2 by omega) _⟩
  · intro K hK
    go_simp
    refine hK.out _ _ ⟨hHeld.1.alloc _, hHeld.2.1.alloc _, hHeld.2.2.1.alloc _, hHeld.2.2.2.alloc hHeld.2.2.2.size _⟩ (fun hHeld => ?_)
    have x31 : Row (wd12.alloc (.cells #[.int .u64 (nn : Int), .string X] 60 (0, 0))) wd12.heap.size 60 [.int .u64 (nn : Int), .string X] := Row.new' rfl rfl
    replace r1 := r1.alloc (.cells #[.int .u64 (nn : Int), .string X] 60 (0, 0))
    obtain ⟨p31, hp31⟩ : ∃ p, p = wd12.heap.size := ⟨_, rfl⟩
    rw [← hp31] at x31 ⊢
    generalize wd12.alloc (.cells #[.int .u64 (nn : Int), .string X] 60 (0, 0)) = v13 at *
    clear hp31
    clear hK K
    try simp only [Act.put, List.setIfInBounds_toArray, List.set_cons_zero, List.set_cons_succ]
    refine one_d 1 (some 62) rfl (by kernel_rfl) ?_
    intro o ho1 hd K hK
    cases ho1
    have c : v13.cell? ⟨w.heap.size, 1, none⟩ = some (.slice (some ⟨g, 0, none⟩) (n + 1) cap) := r1.cell 1
    go_simp
    refine hK.out _ _ hHeld (fun hHeld => ?_)
    clear c
    clear hK K hd
    try simp only [Act.put, List.setIfInBounds_toArray, List.set_cons_zero, List.set_cons_succ]
    refine one_d 2 (some 63) rfl (by kernel_rfl) ?_
    intro o ho1 hd K hK
    cases ho1
    have hlw : B1 ≤ v13.heap.size := by have := hHeld.2.1.lt; omega
    go_simp
    refine (CCl.out _ hlw hHeld.2.2.1).mono ?_
    rintro e v14 ⟨g3, cap3, rfl, hov, hg3, hcp3, bb0⟩
    replace r1 := r1.below bb0 r1.lt
    replace x31 := x31.below bb0 x31.lt
    refine hK.out _ _ (⟨hHeld.1.below bb0 hHeld.1.lt, hHeld.2.1.below bb0 hHeld.2.1.lt, hHeld.2.2.1.keep bb0, hHeld.2.2.2.trans (bb0.mono hHeld.2.2.2.size)⟩) (fun hHeld => ?_)
    clear bb0 hlw
    clear hK K hd
    try simp only [Act.put, List.setIfInBounds_toArray, List.set_cons_zero, List.set_cons_succ]
    refine one_d 9 (some 70) rfl (by kernel_rfl) ?_
    intro o ho1 hd K hK
    cases ho1
    have hlw : B1 ≤ v14.heap.size := by have := hHeld.2.1.lt; omega
    go_simp
    refine (insertEnd_any B1 g3 n cap3 p31 L (R16.Cm.mk nn X) _ HLN.out (by omega) hlw hov x31).mono ?_
    rintro e v15 ⟨v4, rfl, ho4, hgr⟩
    obtain ⟨g4, cap4, rfl, hg4, hg4', hcp4, hcp4'⟩ := R16.own_slice ho4
    replace r1 := r1.grown16 hgr (by omega)
    clear hov x31 hlw
    refine hK.out _ _ ⟨hHeld.1.grown16 hgr (by omega), hHeld.2.1.grown16 hgr (by omega), hHeld.2.2.1.grown16 hgr (by omega), hHeld.2.2.2.grown hgr hHeld.2.2.2.size (fun k hk => by cases hk; omega)⟩ (fun hHeld => ?_)
    clear hgr hg4'
    clear hK K hd
    try simp only [Act.put, List.setIfInBounds_toArray, List.set_cons_zero, List.set_cons_succ]
    refine one_d 12 (some 73) rfl (by kernel_rfl) ?_
    intro o ho1 hd K hK
    cases ho1
    have hlw : B1 ≤ v15.heap.size := by have := hHeld.2.1.lt; omega
    go_simp
    refine (kept_any g4 (n + 1) cap4 tt (L ++ [R16.Cm.mk nn X]) _ (by rw [List.length_append, HLN.out]; rfl) (by omega) hcp4 (R16.CmAt.of_owns ho4)).mono ?_
    rintro e v16 ⟨a, v5, rfl, hKp, ho5, bb0⟩
    obtain ⟨m, hm⟩ : ∃ m, ((L ++ [R16.Cm.mk nn X]).drop a).length = m + 1 := ⟨((L ++ [R16.Cm.mk nn X]).drop a).length - 1, by have := hKp.1; rw [List.length_drop]; omega⟩
    have HKP := Lib.hid hKp
    have HM5 := Lib.hid hm
    rw [hm] at ho5
    replace ho5 := own_lower ho5 hlw
    clear hm hKp
    obtain ⟨g5, cap5, rfl, hg5, hg5', hcp5, hcp5'⟩ := R16.own_slice ho5
    replace r1 := r1.below bb0 r1.lt
    refine hK.out _ _ (⟨hHeld.1.below bb0 hHeld.1.lt, hHeld.2.1.below bb0 hHeld.2.1.lt, hHeld.2.2.1.keep bb0, hHeld.2.2.2.trans (bb0.mono hHeld.2.2.2.size)⟩) (fun hHeld => ?_)
    clear bb0 hlw ho4 hg5'
    clear hK K hd
    try simp only [Act.put, List.setIfInBounds_toArray, List.set_cons_zero, List.set_cons_succ]
    refine take_d 13 (some 74) (.pointer (some ⟨w.heap.size, 1, none⟩)) rfl (by kernel_rfl) (by kernel_rfl) (by kernel_rfl) (fun _ _ _ h => h) (fun oi h => by cases h; exact Or.inl ⟨by rfl, fun w' hS' => by go_simp⟩) hHeld ?_
    try simp only [Act.put, List.setIfInBounds_toArray, List.set_cons_zero, List.set_cons_succ]
    refine one_d 14 none rfl (by kernel_rfl) ?_
    intro o ho1 hd K hK
    cases ho1
    have c : v16.cell? ⟨w.heap.size, 1, none⟩ = some (.slice (some ⟨g, 0, none⟩) (n + 1) cap) := r1.cell 1
    have f := r1.frozen 1
    have hca := R16.CmAt.of_owns ho5
    go_simp
    have r2 := r1.set 1 (.slice (some ⟨g5, 0, none⟩) (m + 1) cap5)
    simp only [List.set_cons_succ, List.set_cons_zero] at r2
    have hca2 := hca.other (k := w.heap.size) (i := 1) (by omega) (.slice (some ⟨g5, 0, none⟩) (m + 1) cap5)
    refine hK.out _ _ ⟨hHeld.1.other (k := w.heap.size) (i := 1) (by omega) (.slice (some ⟨g5, 0, none⟩) (m + 1) cap5), hHeld.2.1.other (k := w.heap.size) (i := 1) (by omega) (.slice (some ⟨g5, 0, none⟩) (m + 1) cap5), hHeld.2.2.1.other (k := w.heap.size) (i := 1) (by omega) (.slice (some ⟨g5, 0, none⟩) (m + 1) cap5), hHeld.2.2.2.setCell (p := ⟨w.heap.size, 1, none⟩) (Nat.le_refl _) (.slice (some ⟨g5, 0, none⟩) (m + 1) cap5)⟩ (fun hHeld => ?_)
    generalize v16.setCell ⟨w.heap.size, 1, none⟩ (.slice (some ⟨g5, 0, none⟩) (m + 1) cap5) = v17 at *
    clear c f r1 ho5 hca
    clear hK K hd
    try simp only [Act.put, List.setIfInBounds_toArray, List.set_cons_zero, List.set_cons_succ]
    refine wpAnyH_done (by kernel_rfl) ?_ _
    try simp only [Act.put]
    replace i1 := hHeld.1
    replace q1 := hHeld.2.1
    replace ha1 := hHeld.2.2.1
    replace bb := hHeld.2.2.2
    clear hHeld
    have tok18 : True := True.intro
    have tok19 : True := True.intro
    go_wp2_with (first | (refine at_op (.load 30 (.tmp 2)) (by with_reducible rfl) ?_; clear tok18; refine wpList_load_row rfl 30 (.tmp 2) rfl (w.heap.size) rfl _ _ _ _ r2 Try.underlying30 rfl infoRv ?_) | (refine at_op (.store 30 (.tmp 4) (.tmp 75)) (by with_reducible rfl) ?_; clear tok19; refine wpList_store_row rfl 30 (.tmp 4) (.tmp 75) rfl ((w.heap.size + 2)) _ rfl rfl _ _ q1 infoRv rfl (by simp [Value.oneCell']) ?_))
    exact bodyPost_ret (results_row_tmp2 rfl _ _ (w.heap.size + 2) 30 [.func (.func 18) #[] #[], .slice (some ⟨g5, 0, none⟩) (m + 1) cap5] _ rfl (q1.setRow [.func (.func 18) #[] #[], .slice (some ⟨g5, 0, none⟩) (m + 1) cap5]) Try.underlying30 rfl infoRv) rfl ⟨a, m, g5, cap5, rfl, HKP.out, hca2.setRow (k := w.heap.size + 2) (by omega) _, HM5.out, hcp5, below_row bb (show _ ≤ w.heap.size + 2 by omega) _⟩

end Go.Proofs.Ytjfhinhakanhaaa
