/-
  Layer 16: the document's Take, where it takes.
-/
import Derived.Test.YtjfhinhakanhaaaGFind
import Derived.Test.YtjfhinhakanhaaaGPure
namespace Go.Proofs.Ytjfhinhakanhaaa
open Go.RowKit
set_option linter.unusedVariables false
set_option linter.unusedSimpArgs false
set_option maxRecDepth 20000

theorem infoRsZ : (Try.prog.info? 34).map (fun i => (i.zero, i.size, i.bytes)) = some (some (.agg #[.int .u64 0, .string ⟨#[]⟩]), 2, 24) := by kernel_rfl
theorem own_blk {w : World} {B e size n : Nat} {v : Value} {xs : List Value} (h : w.ownsRow B e size v n xs) : ∀ k, v.ownBlock = some k → B ≤ k := by
  intro k hk
  rcases h.2 with ⟨rfl, _⟩ | ⟨g, cap, cur, rfl, hB, _⟩
  · cases hk
  · cases hk; exact hB
theorem R16.CmAt.grownV {w w' : World} {b off : Nat} {r : Option Nat} {L : List R16.Cm} (h : R16.CmAt w b off L) (k : w.grownBy w' r) (hb : ∀ j, r = some j → b ≠ j) : R16.CmAt w' b off L := by
  obtain ⟨t, pre, sp, h1, r1⟩ := h
  refine ⟨t, pre, sp, h1, ?_⟩
  unfold Row
  rw [k.block b r1.lt (fun e => hb b e.symm rfl)]; exact r1
theorem own_lt {w : World} {B e size n : Nat} {v : Value} {xs : List Value} (h : w.ownsRow B e size v n xs) : ∀ k, v.ownBlock = some k → k < w.heap.size := by
  intro k hk
  rcases h.2 with ⟨rfl, _⟩ | ⟨g, cap, cur, rfl, _, hg, _⟩
  · cases hk
  · cases hk; exact (Array.getElem?_eq_some_iff.1 hg).1
theorem Row.grownV {w w' : World} {b t : Nat} {r : Option Nat} {l : List Value} (h : Row w b t l) (k : w.grownBy w' r) (hb : ∀ j, r = some j → b ≠ j) : Row w' b t l := by
  unfold Row; rw [k.block b h.lt (fun e => hb b e.symm rfl)]; exact h
namespace R16
/-- What loop 1 has built behind k states. -/
def Al (L : List Cm) (i k : Nat) (p : Cm) (db : Bool) (AL : List Cm) : Prop := (k ≤ i ∧ db = false ∧ AL = L.take k) ∨ (i < k ∧ db = true ∧ AL = (ins L i p).take (k + 1))
theorem Al.len {L : List Cm} {i k : Nat} {p : Cm} {db : Bool} {AL : List Cm} (h : Al L i k p db AL) (hk : k ≤ L.length) : AL.length ≤ L.length + 1 := by
  rcases h with ⟨_, _, rfl⟩ | ⟨_, _, rfl⟩
  · rw [List.length_take]; omega
  · rw [List.length_take]
    unfold ins; rw [List.length_append, List.length_cons, List.length_take, List.length_drop]; omega
end R16

set_option maxHeartbeats 4000000 in
theorem refTake_ok (g off n cap o nn aa tt : Nat) (d : ByteArray) (L : List R16.Cm) (w : World) (hu : R16.Up L) (hl : L.length = n + 1) (h9 : n ≤ 800) (ha : R16.CmAt w g off L) (i : Nat) (hP : R16.Pl L nn i) (hat : R16.at? L nn i = false) (hi0 : 0 < i) (jo : Nat) (po : R16.Cm) (hpo : L[jo]? = some po) (hpn : po.num = o) (hlo : o < nn) (hb : bang d = false) (hsz : po.tx.size + d.size ≤ 1099511627776) :
    Calls Try.prog 12 #[.slice (some ⟨g, off, none⟩) (n + 1) cap, .int .u64 (o : Int), .int .u64 (nn : Int), .int .u64 (tt : Int), .string d] w fun e w' => ∃ a m g' off' cap', e = .returned (.tuple #[.slice (some ⟨g', off', none⟩) (m + 1) cap', .bool (decide (i = n + 1)), .int .i64 0]) ∧ R16.Kp (R16.ins L i (R16.Cm.mk nn (po.tx ++ d))) tt a ∧ R16.CmAt w' g' off' ((R16.ins L i (R16.Cm.mk nn (po.tx ++ d))).drop a) ∧ ((R16.ins L i (R16.Cm.mk nn (po.tx ++ d))).drop a).length = m + 1 ∧ Below w.heap.size w w' := by
  obtain ⟨i0, hif, hz0, hz1, hz2⟩ := info_parts infoRsZ
  have CF : Hid (∀ wx, R16.CmAt wx g off L → Calls Try.prog 16 #[.slice (some ⟨g, off, none⟩) (n + 1) cap, .int .u64 (nn : Int)] wx fun e w' => e = .returned (.int .i64 (-1)) ∧ Below wx.heap.size wx w') := fun wx hx => by
    refine (refFind_any g off (n + 1) cap nn L wx hl (by omega) hx).mono ?_
    rintro e w' ⟨r, rfl, h, hbb⟩
    obtain rfl := refFind_not hu hP hat h
    exact ⟨rfl, hbb⟩
  have CO : Hid (∀ wx, R16.CmAt wx g off L → Calls Try.prog 16 #[.slice (some ⟨g, off, none⟩) (n + 1) cap, .int .u64 (o : Int)] wx fun e w' => e = .returned (.int .i64 (jo : Int)) ∧ Below wx.heap.size wx w') := fun wx hx => by
    refine (refFind_any g off (n + 1) cap o L wx hl (by omega) hx).mono ?_
    rintro e w' ⟨r, rfl, h, hbb⟩
    obtain rfl : r = (jo : Int) := by
      rcases h with h | ⟨j, q, rfl, hq, hqn⟩
      · exact absurd hpn (h.2 jo po hpo)
      · rw [hu.uniq hq hpo (hqn.trans hpn.symm)]
    exact ⟨rfl, hbb⟩
  have e2 : ¬ (nn : Int) ≤ (o : Int) := by omega
  have e3 : ¬ (jo : Int) < 0 := by omega
  have hjo : jo < n + 1 := by have := (List.getElem?_eq_some_iff.1 hpo).1; omega
  have hjs : (jo : Int) < ((n + 1 : Nat) : Int) := by omega
  have HPO := Lib.hid hpo
  obtain ⟨X, hX⟩ : ∃ X : ByteArray, X = po.tx ++ d := ⟨_, rfl⟩
  have CD : Hid (∀ wx, Calls Try.prog 19 #[.string po.tx, .string d] wx fun e w' => e = .returned (.tuple #[.string X, .bool true]) ∧ w' = wx) := fun wx => by rw [hX]; exact refDo_yes po.tx d hb hsz wx
  rw [← hX]
  obtain ⟨p, hp⟩ : ∃ p, L[0]? = some p := ⟨L[0]'(by omega), List.getElem?_eq_getElem (by omega)⟩
  have hlt : p.num < nn := hP.lo 0 p hi0 hp
  have HP0 := Lib.hid hp
  have e1 : ¬ (nn : Int) < (p.num : Int) := by omega
  have hs : (0 : Int) < ((n + 1 : Nat) : Int) := by omega
  have HLN := Lib.hid hl
  have hil : i ≤ n + 1 := by have := hP.le; omega
  have HLO : Hid (∀ (k : Nat) (q : R16.Cm), k < i → L[k]? = some q → q.num < nn) := fun k q hk hq => hP.lo k q hk hq
  have HGT : Hid (∀ q : R16.Cm, L[i]? = some q → nn < q.num) := fun q hq => by
    have h1 := hP.hi i q (Nat.le_refl _) hq
    have h2 : q.num ≠ nn := by unfold R16.at? at hat; rw [hq] at hat; exact of_decide_eq_false hat
    omega
  have HUM : Hid (R16.Up (R16.ins L i (R16.Cm.mk nn X))) := hu.ins hP hat rfl
  obtain ⟨M, hMe⟩ : ∃ M, M = R16.ins L i (R16.Cm.mk nn X) := ⟨_, rfl⟩
  rw [← hMe] at HUM ⊢
  have HME := Lib.hid hMe
  clear hMe
  have lg : g < w.heap.size := ha.lt
  clear hP hat hp hpo hpn hb hsz hX hl hu
  go_enter Try.func12, Try.ntmps12
  go_wp2_with fail
  refine (CF.out _ ha).mono ?_
  rintro e w1 ⟨rfl, bb⟩
  have ha1 := ha.keep bb
  have c0 := ha1.num HP0.out
  rw [Nat.zero_mul, Nat.add_zero] at c0
  go_wp2_with fail
  refine (CO.out _ ha1).mono ?_
  rintro e w2 ⟨rfl, bb2⟩
  have ha2 := ha1.keep bb2
  replace bb := bb.trans (bb2.mono bb.size)
  clear bb2 c0
  have c1 := ha2.tx HPO.out
  go_wp2_with fail
  refine (CD.out _).mono ?_
  rintro e _ ⟨rfl, rfl⟩
  clear c1 CD CO CF ha ha1
  go_wp2
  go_loopw [61, 16, 17] (fun iv av dv wr => ∃ (k : Nat) (db : Bool) (AL : List R16.Cm), k ≤ n + 1 ∧ iv = .int .i64 (k : Int) ∧ dv = .bool db ∧ Hid (R16.Al L i k (R16.Cm.mk nn X) db AL) ∧ wr.ownsRow w.heap.size 34 2 av AL.length (R16.cellsL AL) ∧ R16.CmAt wr g off L ∧ Below w.heap.size w wr) (fun iv _ _ _ => n + 1 - (intOf iv).toNat)
  case atStart => exact ⟨0, false, [], Nat.zero_le _, rfl, rfl, .inl ⟨Nat.zero_le _, rfl, rfl⟩, World.ownsRow_nil _ _ _ _, ha2, bb⟩
  case round =>
    clear ha2 bb
    obtain ⟨k, db, AL, hk, rfl, rfl, HAL, ho, ha, bb⟩ := hrel
    by_cases hlk : k < n + 1
    · have hsk : (k : Int) < ((n + 1 : Nat) : Int) := by omega
      have hAn : AL.length ≤ n + 2 := by have := HAL.out.len (by have := HLN.out; omega); have := HLN.out; omega
      obtain ⟨q, hq⟩ : ∃ q, L[k]? = some q := ⟨L[k]'(by have := HLN.out; omega), List.getElem?_eq_getElem (by have := HLN.out; omega)⟩
      have hr : wr.rangeAt g (off + k * 2) [.int .u64 (q.num : Int), .string q.tx] := ha.load hq
      have HQ := Lib.hid hq
      have r19 : Row (wr.alloc (.cells #[.int .u64 (q.num : Int), .string q.tx] 34 (0, 0))) wr.heap.size 34 [.int .u64 (q.num : Int), .string q.tx] := Row.new' rfl rfl
      have c19 := r19.cell 0
      simp only [List.getElem?_cons_zero] at c19
      have ho1 := ho.alloc (.cells #[.int .u64 (q.num : Int), .string q.tx] 34 (0, 0))
      have ha1 := ha.alloc (.cells #[.int .u64 (q.num : Int), .string q.tx] 34 (0, 0))
      have bb1 := bb.alloc bb.size (.cells #[.int .u64 (q.num : Int), .string q.tx] 34 (0, 0))
      have hwl := bb.size
      have hown := own_blk ho
      have hownl := own_lt ho
      clear hq ho ha bb
      rcases HAL.out with ⟨h1, h2, h3⟩ | ⟨h1, h2, h3⟩
      · subst h2
        rcases Nat.lt_or_ge k i with c | c
        · have H3 := Lib.hid h3
          clear h3
          have g1 : ¬ (nn : Int) < (q.num : Int) := by have := HLO.out k q c HQ.out; omega
          have r19b := r19
          have ho2 := ho1.alloc (.cells #[.int .u64 (q.num : Int), .string q.tx] 34 (0, 0))
          have ha2 := ha1.alloc (.cells #[.int .u64 (q.num : Int), .string q.tx] 34 (0, 0))
          have bb2 := bb1.alloc bb1.size (.cells #[.int .u64 (q.num : Int), .string q.tx] 34 (0, 0))
          have r20 : Row ((wr.alloc (.cells #[.int .u64 (q.num : Int), .string q.tx] 34 (0, 0))).alloc (.cells #[.int .u64 (q.num : Int), .string q.tx] 34 (0, 0))) (wr.heap.size + 1) 34 [.int .u64 (q.num : Int), .string q.tx] := Row.new' rfl (by simp)
          have hnews : Hid (∀ (j : Nat) (u : Value), ([.int .u64 (q.num : Int), .string q.tx] : List Value)[j]? = some u → ((wr.alloc (.cells #[.int .u64 (q.num : Int), .string q.tx] 34 (0, 0))).alloc (.cells #[.int .u64 (q.num : Int), .string q.tx] 34 (0, 0))).cell? ((⟨wr.heap.size + 1, 0, none⟩ : Addr).add j) = some u) := fun j u hj => by rw [R16.addrAdd, Nat.zero_add, r20.cell]; exact hj
          clear ho1 ha1 bb1 r20
          have tk1 : True := True.intro
          have tk2 : True := True.intro
          go_wp2_with (first | (refine at_op (.load 34 (.tmp 63)) (by with_reducible rfl) ?_; clear tk1; refine wpList_load_mid rfl 34 (.tmp 63) rfl g (off + k * 2) rfl _ _ hr Try.underlying34 rfl infoRs ?_) | (refine at_op (.load 34 (.tmp 19)) (by with_reducible rfl) ?_; clear tk2; refine wpList_load_row rfl 34 (.tmp 19) rfl wr.heap.size rfl _ _ _ _ r19b Try.underlying34 rfl infoRs ?_) | (at_builtin; go_loud (refine wpList_append_own _ rfl _ _ 35 rfl w.heap.size 34 i0 _ 2 24 Try.underlying35 hif hz0 hz1 hz2 rfl (by decide) _ AL.length _ rfl ho2 ⟨wr.heap.size + 1, 0, none⟩ 1 1 ([.int .u64 (q.num : Int), .string q.tx]) rfl rfl hnews.out (by intro u hu; simp at hu; rcases hu with rfl | rfl <;> rfl) (by unfold maxLen; omega) (by omega) (by simp; omega) ?_)))
          intro v' w' ho' hgr _
          have hAA : R16.cellsL AL ++ [.int .u64 (q.num : Int), .string q.tx] = R16.cellsL (AL ++ [q]) := by rw [R16.cellsL_append]; rfl
          rw [hAA, show AL.length + 1 = (AL ++ [q]).length by simp] at ho'
          have ha3 := ha2.grownV hgr (fun j hj => by have := hown j hj; omega)
          have bb3 := bb2.grown hgr (by simp; omega) (fun j hj => hown j hj)
          clear ho2 ha2 bb2 hgr hnews hAA r19 r19b hr
          go_wp2
          go_roundw
          case rel => exact ⟨k + 1, false, AL ++ [q], by omega, by go_num, rfl, .inl ⟨by omega, rfl, by rw [H3.out]; exact R16.take_snoc HQ.out⟩, ho', ha3, bb3⟩
          case measure => simp [intOf]; omega
        · obtain rfl : k = i := by omega
          have H3 := Lib.hid h3
          clear h3
          have g1 : (nn : Int) < (q.num : Int) := by have := HGT.out q HQ.out; omega
          have ho2 := ho1.alloc (.cells #[.int .u64 (nn : Int), .string X] 34 (0, 0))
          have ha2 := ha1.alloc (.cells #[.int .u64 (nn : Int), .string X] 34 (0, 0))
          have bb2 := bb1.alloc bb1.size (.cells #[.int .u64 (nn : Int), .string X] 34 (0, 0))
          have r19b := r19.alloc (.cells #[.int .u64 (nn : Int), .string X] 34 (0, 0))
          have r20 : Row ((wr.alloc (.cells #[.int .u64 (q.num : Int), .string q.tx] 34 (0, 0))).alloc (.cells #[.int .u64 (nn : Int), .string X] 34 (0, 0))) (wr.heap.size + 1) 34 [.int .u64 (nn : Int), .string X] := Row.new' rfl (by simp)
          have hnews : Hid (∀ (j : Nat) (u : Value), ([.int .u64 (nn : Int), .string X] : List Value)[j]? = some u → ((wr.alloc (.cells #[.int .u64 (q.num : Int), .string q.tx] 34 (0, 0))).alloc (.cells #[.int .u64 (nn : Int), .string X] 34 (0, 0))).cell? ((⟨wr.heap.size + 1, 0, none⟩ : Addr).add j) = some u) := fun j u hj => by rw [R16.addrAdd, Nat.zero_add, r20.cell]; exact hj
          clear ho1 ha1 bb1 r20
          have tk1 : True := True.intro
          have tk2 : True := True.intro
          go_wp2_with (first | (refine at_op (.load 34 (.tmp 63)) (by with_reducible rfl) ?_; clear tk1; refine wpList_load_mid rfl 34 (.tmp 63) rfl g (off + k * 2) rfl _ _ hr Try.underlying34 rfl infoRs ?_) | (at_builtin; go_loud (refine wpList_append_own _ rfl _ _ 35 rfl w.heap.size 34 i0 _ 2 24 Try.underlying35 hif hz0 hz1 hz2 rfl (by decide) _ AL.length _ rfl ho2 ⟨wr.heap.size + 1, 0, none⟩ 1 1 ([.int .u64 (nn : Int), .string X]) rfl rfl hnews.out (by intro u hu; simp at hu; rcases hu with rfl | rfl <;> rfl) (by unfold maxLen; omega) (by omega) (by simp; omega) ?_)))
          intro v3 w3 ho3 hgr _
          have hAA : R16.cellsL AL ++ [.int .u64 (nn : Int), .string X] = R16.cellsL (AL ++ [R16.Cm.mk nn X]) := by rw [R16.cellsL_append]; rfl
          rw [hAA, show AL.length + 1 = (AL ++ [R16.Cm.mk nn X]).length by simp] at ho3
          have ha3 := ha2.grownV hgr (fun j hj => by have := hown j hj; omega)
          have bb3 := bb2.grown hgr (by simp; omega) (fun j hj => hown j hj)
          have r19c := r19b.grownV hgr (fun j hj => by have := hownl j hj; omega)
          clear ho2 ha2 bb2 hgr hnews hAA r19 r19b hr hown hownl c19
          have hwl3 := bb3.size
          have hown3 := own_blk ho3
          have ho4 := ho3.alloc (.cells #[.int .u64 (q.num : Int), .string q.tx] 34 (0, 0))
          have ha4 := ha3.alloc (.cells #[.int .u64 (q.num : Int), .string q.tx] 34 (0, 0))
          have bb4 := bb3.alloc bb3.size (.cells #[.int .u64 (q.num : Int), .string q.tx] 34 (0, 0))
          have r21 : Row (w3.alloc (.cells #[.int .u64 (q.num : Int), .string q.tx] 34 (0, 0))) w3.heap.size 34 [.int .u64 (q.num : Int), .string q.tx] := Row.new' rfl rfl
          have hnews : Hid (∀ (j : Nat) (u : Value), ([.int .u64 (q.num : Int), .string q.tx] : List Value)[j]? = some u → (w3.alloc (.cells #[.int .u64 (q.num : Int), .string q.tx] 34 (0, 0))).cell? ((⟨w3.heap.size, 0, none⟩ : Addr).add j) = some u) := fun j u hj => by rw [R16.addrAdd, Nat.zero_add, r21.cell]; exact hj
          have hA4 : (AL ++ [R16.Cm.mk nn X]).length ≤ n + 3 := by rw [List.length_append]; show AL.length + 1 ≤ _; omega
          obtain ⟨AL2, hAL2⟩ : ∃ x, x = AL ++ [R16.Cm.mk nn X] := ⟨_, rfl⟩
          rw [← hAL2] at ho4 hA4
          have HAL2 := Lib.hid hAL2
          clear hAL2 ho3 ha3 bb3 r21
          go_wp2_with (first | (refine at_op (.load 34 (.tmp 19)) (by with_reducible rfl) ?_; clear tk2; refine wpList_load_row rfl 34 (.tmp 19) rfl wr.heap.size rfl _ _ _ _ r19c Try.underlying34 rfl infoRs ?_) | (at_builtin; go_loud (refine wpList_append_own _ rfl _ _ 35 rfl w.heap.size 34 i0 _ 2 24 Try.underlying35 hif hz0 hz1 hz2 rfl (by decide) _ AL2.length _ rfl ho4 ⟨w3.heap.size, 0, none⟩ 1 1 ([.int .u64 (q.num : Int), .string q.tx]) rfl rfl hnews.out (by intro u hu; simp at hu; rcases hu with rfl | rfl <;> rfl) (by unfold maxLen; omega) (by omega) (by simp; omega) ?_)))
          intro v5 w5 ho5 hgr _
          have hAA : R16.cellsL AL2 ++ [.int .u64 (q.num : Int), .string q.tx] = R16.cellsL (AL2 ++ [q]) := by rw [R16.cellsL_append]; rfl
          rw [hAA, show AL2.length + 1 = (AL2 ++ [q]).length by simp] at ho5
          have ha5 := ha4.grownV hgr (fun j hj => by have := hown3 j hj; omega)
          have bb5 := bb4.grown hgr (by simp; omega) (fun j hj => hown3 j hj)
          clear ho4 ha4 bb4 hgr hnews hAA r19c
          go_wp2
          go_roundw
          case rel => exact ⟨k + 1, true, AL2 ++ [q], by omega, by go_num, rfl, .inr ⟨by omega, rfl, by rw [HAL2.out, H3.out]; exact R16.ins_take_at (by have := HLN.out; omega) HQ.out⟩, ho5, ha5, bb5⟩
          case measure => simp [intOf]; omega
      · have H3 := Lib.hid h3
        clear h3
        subst h2
        have r19b := r19
        have ho2 := ho1.alloc (.cells #[.int .u64 (q.num : Int), .string q.tx] 34 (0, 0))
        have ha2 := ha1.alloc (.cells #[.int .u64 (q.num : Int), .string q.tx] 34 (0, 0))
        have bb2 := bb1.alloc bb1.size (.cells #[.int .u64 (q.num : Int), .string q.tx] 34 (0, 0))
        have r20 : Row ((wr.alloc (.cells #[.int .u64 (q.num : Int), .string q.tx] 34 (0, 0))).alloc (.cells #[.int .u64 (q.num : Int), .string q.tx] 34 (0, 0))) (wr.heap.size + 1) 34 [.int .u64 (q.num : Int), .string q.tx] := Row.new' rfl (by simp)
        have hnews : Hid (∀ (j : Nat) (u : Value), ([.int .u64 (q.num : Int), .string q.tx] : List Value)[j]? = some u → ((wr.alloc (.cells #[.int .u64 (q.num : Int), .string q.tx] 34 (0, 0))).alloc (.cells #[.int .u64 (q.num : Int), .string q.tx] 34 (0, 0))).cell? ((⟨wr.heap.size + 1, 0, none⟩ : Addr).add j) = some u) := fun j u hj => by rw [R16.addrAdd, Nat.zero_add, r20.cell]; exact hj
        clear ho1 ha1 bb1 r20
        have tk1 : True := True.intro
        have tk2 : True := True.intro
        go_wp2_with (first | (refine at_op (.load 34 (.tmp 63)) (by with_reducible rfl) ?_; clear tk1; refine wpList_load_mid rfl 34 (.tmp 63) rfl g (off + k * 2) rfl _ _ hr Try.underlying34 rfl infoRs ?_) | (refine at_op (.load 34 (.tmp 19)) (by with_reducible rfl) ?_; clear tk2; refine wpList_load_row rfl 34 (.tmp 19) rfl wr.heap.size rfl _ _ _ _ r19b Try.underlying34 rfl infoRs ?_) | (at_builtin; go_loud (refine wpList_append_own _ rfl _ _ 35 rfl w.heap.size 34 i0 _ 2 24 Try.underlying35 hif hz0 hz1 hz2 rfl (by decide) _ AL.length _ rfl ho2 ⟨wr.heap.size + 1, 0, none⟩ 1 1 ([.int .u64 (q.num : Int), .string q.tx]) rfl rfl hnews.out (by intro u hu; simp at hu; rcases hu with rfl | rfl <;> rfl) (by unfold maxLen; omega) (by omega) (by simp; omega) ?_)))
        intro v' w' ho' hgr _
        have hAA : R16.cellsL AL ++ [.int .u64 (q.num : Int), .string q.tx] = R16.cellsL (AL ++ [q]) := by rw [R16.cellsL_append]; rfl
        rw [hAA, show AL.length + 1 = (AL ++ [q]).length by simp] at ho'
        have ha3 := ha2.grownV hgr (fun j hj => by have := hown j hj; omega)
        have bb3 := bb2.grown hgr (by simp; omega) (fun j hj => hown j hj)
        clear ho2 ha2 bb2 hgr hnews hAA r19 r19b hr
        go_wp2
        go_roundw
        case rel => exact ⟨k + 1, true, AL ++ [q], by omega, by go_num, rfl, .inr ⟨by omega, rfl, by rw [H3.out]; exact R16.ins_take_gt (by have := HLN.out; omega) h1 HQ.out⟩, ho', ha3, bb3⟩
        case measure => simp [intOf]; omega
    · obtain rfl : k = n + 1 := by omega
      have hMe := HME.out
      have hMl : M.length = n + 1 + 1 := by rw [hMe, R16.ins_len _ _ _ (by rw [HLN.out]; exact hil), HLN.out]
      obtain ⟨a0, ha0, hk1, hk2⟩ := R16.keep_from HUM.out tt (n + 1) hMl
      have HML := Lib.hid hMl
      have HK1 := Lib.hid hk1
      have HK2 := Lib.hid hk2
      clear hk1 hk2 hMl
      rcases HAL.out with ⟨h1, h2, h3⟩ | ⟨h1, h2, h3⟩
      · subst h2
        have hin : i = n + 1 := by omega
        have HN2 : Hid (AL ++ [R16.Cm.mk nn X] = M) := by show _ = _; rw [hMe, h3, ← hin, R16.ins_take_end L i _ (by rw [HLN.out]; exact hil), List.take_of_length_le]; rw [R16.ins_len _ _ _ (by rw [HLN.out]; exact hil), HLN.out]; omega
        have hAn : AL.length ≤ n + 2 := by have := HAL.out.len (by have := HLN.out; omega); have := HLN.out; omega
        have ho2 := ho.alloc (.cells #[.int .u64 (nn : Int), .string X] 34 (0, 0))
        have ha2 := ha.alloc (.cells #[.int .u64 (nn : Int), .string X] 34 (0, 0))
        have bb2 := bb.alloc bb.size (.cells #[.int .u64 (nn : Int), .string X] 34 (0, 0))
        have r20 : Row (wr.alloc (.cells #[.int .u64 (nn : Int), .string X] 34 (0, 0))) wr.heap.size 34 [.int .u64 (nn : Int), .string X] := Row.new' rfl rfl
        have hnews : Hid (∀ (j : Nat) (u : Value), ([.int .u64 (nn : Int), .string X] : List Value)[j]? = some u → (wr.alloc (.cells #[.int .u64 (nn : Int), .string X] 34 (0, 0))).cell? ((⟨wr.heap.size, 0, none⟩ : Addr).add j) = some u) := fun j u hj => by rw [R16.addrAdd, Nat.zero_add, r20.cell]; exact hj
        have hown := own_blk ho
        have hwl := bb.size
        clear ho ha bb r20 h3 hMe HAL
        go_wp2_with (first | (at_builtin; go_loud (refine wpList_append_own _ rfl _ _ 35 rfl w.heap.size 34 i0 _ 2 24 Try.underlying35 hif hz0 hz1 hz2 rfl (by decide) _ AL.length _ rfl ho2 ⟨wr.heap.size, 0, none⟩ 1 1 ([.int .u64 (nn : Int), .string X]) rfl rfl hnews.out (by intro u hu; simp at hu; rcases hu with rfl | rfl <;> rfl) (by unfold maxLen; omega) (by omega) (by simp; omega) ?_)))
        intro v' wt ho' hgr _
        have hAA : R16.cellsL AL ++ [.int .u64 (nn : Int), .string X] = R16.cellsL M := by rw [← HN2.out, R16.cellsL_append]; rfl
        rw [hAA, show AL.length + 1 = (AL ++ [R16.Cm.mk nn X]).length by simp, HN2.out, HML.out] at ho'
        have bb := bb2.grown hgr (by simp; omega) (fun j hj => hown j hj)
        obtain ⟨g2, cap2, hv, hg2, hg2l, hcp2, hcpm⟩ := R16.own_slice ho'
        subst hv
        have hM2 := R16.CmAt.of_owns ho'
        have hdb : decide (i = n + 1) = true := decide_eq_true hin
        obtain ⟨B2, hB2e⟩ : ∃ B, B = wt.heap.size := ⟨_, rfl⟩
        have HDB := Lib.hid hdb
        clear ho' ha2 bb2 hgr hnews hAA hdb HN2 hown
        have hB2 : g2 < B2 := by rw [hB2e]; exact hM2.lt
        have hBw : w.heap.size ≤ B2 := by rw [hB2e]; exact bb.size
        go_wp2
        go_loopw [94, 20, 21] (fun iv ov _ wr => ∃ (k2 : Nat) (OL : List R16.Cm), k2 ≤ n + 1 + 1 ∧ iv = .int .i64 (k2 : Int) ∧ Hid (OL = (M.take k2).drop a0) ∧ wr.ownsRow B2 34 2 ov OL.length (R16.cellsL OL) ∧ B2 ≤ wr.heap.size ∧ R16.CmAt wr g2 0 M ∧ Below w.heap.size w wr) (fun iv _ _ _ => n + 1 + 1 - (intOf iv).toNat)
        case atStart => exact ⟨0, [], Nat.zero_le _, rfl, by show _ = _; simp, World.ownsRow_nil _ _ _ _, by rw [hB2e]; exact Nat.le_refl _, hM2, bb⟩
        case round =>
          clear hM2 bb hB2e
          obtain ⟨k2, OL, hk2, rfl, HOL, ho, hBl, hM, bb⟩ := hrel
          by_cases hl2 : k2 < n + 1 + 1
          · have hsk2 : (k2 : Int) < ((n + 1 + 1 : Nat) : Int) := by omega
            obtain ⟨q, hq⟩ : ∃ q, M[k2]? = some q := ⟨M[k2]'(by rw [HML.out]; exact hl2), List.getElem?_eq_getElem (by rw [HML.out]; exact hl2)⟩
            have hr : wr.rangeAt g2 (k2 * 2) [.int .u64 (q.num : Int), .string q.tx] := by have := hM.load hq; rwa [Nat.zero_add] at this
            have HQ := Lib.hid hq
            have hOn : OL.length ≤ n + 2 := by rw [HOL.out, List.length_drop, List.length_take]; omega
            have r22 : Row (wr.alloc (.cells #[.int .u64 (q.num : Int), .string q.tx] 34 (0, 0))) wr.heap.size 34 [.int .u64 (q.num : Int), .string q.tx] := Row.new' rfl rfl
            have c22 := r22.cell 0
            simp only [List.getElem?_cons_zero] at c22
            have ho1 := ho.alloc (.cells #[.int .u64 (q.num : Int), .string q.tx] 34 (0, 0))
            have hM1 := hM.alloc (.cells #[.int .u64 (q.num : Int), .string q.tx] 34 (0, 0))
            have bb1 := bb.alloc bb.size (.cells #[.int .u64 (q.num : Int), .string q.tx] 34 (0, 0))
            have hwl := bb.size
            have hown := own_blk ho
            have hownl := own_lt ho
            have hBl1 : B2 ≤ (wr.alloc (.cells #[.int .u64 (q.num : Int), .string q.tx] 34 (0, 0))).heap.size := by simp; omega
            have y1 : IntKind.i64.wrap (((n + 1 + 1 : Nat) : Int) - 1) = ((n + 1 : Nat) : Int) := by rw [IntKind.wrap_i64]; omega
            clear hq ho hM bb
            rcases Nat.lt_or_ge k2 a0 with c | c
            · have z1 : ¬ (tt : Int) ≤ (q.num : Int) := by have := (HK1.out k2 q c HQ.out).1; omega
              have z2 : ¬ (k2 : Int) = ((n + 1 : Nat) : Int) := by have := (HK1.out k2 q c HQ.out).2; omega
              have z3 : ((k2 : Int) == ((n + 1 : Nat) : Int)) = false := by simp only [beq_eq_false_iff_ne]; exact z2
              have tk1 : True := True.intro
              go_wp2_with (first | (refine at_op (.load 34 (.tmp 97)) (by with_reducible rfl) ?_; clear tk1; refine wpList_load_mid rfl 34 (.tmp 97) rfl g2 (k2 * 2) rfl _ _ hr Try.underlying34 rfl infoRs ?_))
              go_roundw
              case rel => first | exact ⟨k2 + 1, OL, by omega, by go_num, by show _ = _; rw [HOL.out]; exact (R16.keep_skip c).symm, ho1, hBl1, hM1, bb1⟩ | exact ⟨_, _, _, _, ⟨k2 + 1, by omega, by go_num, OL, by show _ = _; rw [HOL.out]; exact (R16.keep_skip c).symm, ho1, by omega⟩, rfl, rfl, rfl, rfl⟩
              case measure => simp [intOf]; omega
            · by_cases z1 : (tt : Int) ≤ (q.num : Int)
              · have ho2 := ho1.alloc (.cells #[.int .u64 (q.num : Int), .string q.tx] 34 (0, 0))
                have hM2 := hM1.alloc (.cells #[.int .u64 (q.num : Int), .string q.tx] 34 (0, 0))
                have bb2 := bb1.alloc bb1.size (.cells #[.int .u64 (q.num : Int), .string q.tx] 34 (0, 0))
                have r22b := r22.alloc (.cells #[.int .u64 (q.num : Int), .string q.tx] 34 (0, 0))
                have r23 : Row ((wr.alloc (.cells #[.int .u64 (q.num : Int), .string q.tx] 34 (0, 0))).alloc (.cells #[.int .u64 (q.num : Int), .string q.tx] 34 (0, 0))) (wr.heap.size + 1) 34 [.int .u64 (q.num : Int), .string q.tx] := Row.new' rfl (by simp)
                have hnews : Hid (∀ (j : Nat) (u : Value), ([.int .u64 (q.num : Int), .string q.tx] : List Value)[j]? = some u → ((wr.alloc (.cells #[.int .u64 (q.num : Int), .string q.tx] 34 (0, 0))).alloc (.cells #[.int .u64 (q.num : Int), .string q.tx] 34 (0, 0))).cell? ((⟨wr.heap.size + 1, 0, none⟩ : Addr).add j) = some u) := fun j u hj => by rw [R16.addrAdd, Nat.zero_add, r23.cell]; exact hj
                clear ho1 hM1 bb1 r23
                have tk1 : True := True.intro
                have tk2 : True := True.intro
                go_wp2_with (first | (refine at_op (.load 34 (.tmp 97)) (by with_reducible rfl) ?_; clear tk1; refine wpList_load_mid rfl 34 (.tmp 97) rfl g2 (k2 * 2) rfl _ _ hr Try.underlying34 rfl infoRs ?_) | (refine at_op (.load 34 (.tmp 22)) (by with_reducible rfl) ?_; clear tk2; refine wpList_load_row rfl 34 (.tmp 22) rfl wr.heap.size rfl _ _ _ _ r22b Try.underlying34 rfl infoRs ?_) | (at_builtin; go_loud (refine wpList_append_own _ rfl _ _ 35 rfl B2 34 i0 _ 2 24 Try.underlying35 hif hz0 hz1 hz2 rfl (by decide) _ OL.length _ rfl ho2 ⟨wr.heap.size + 1, 0, none⟩ 1 1 ([.int .u64 (q.num : Int), .string q.tx]) rfl rfl hnews.out (by intro u hu; simp at hu; rcases hu with rfl | rfl <;> rfl) (by unfold maxLen; omega) (by omega) (by simp; omega) ?_)))
                intro v' w' ho' hgr _
                have hAA : R16.cellsL OL ++ [.int .u64 (q.num : Int), .string q.tx] = R16.cellsL (OL ++ [q]) := by rw [R16.cellsL_append]; rfl
                rw [hAA, show OL.length + 1 = (OL ++ [q]).length by simp] at ho'
                have hM3 := hM2.grownV hgr (fun j hj => by have := hown j hj; omega)
                have bb3 := bb2.grown hgr (by simp; omega) (fun j hj => Nat.le_trans hBw (hown j hj))
                have hBl3 : B2 ≤ w'.heap.size := Nat.le_trans (by simp; omega) hgr.size
                clear ho2 hM2 bb2 hgr hnews hAA r22 r22b hr
                go_wp2
                go_roundw
                case rel => first | exact ⟨k2 + 1, OL ++ [q], by omega, by go_num, by show _ = _; rw [HOL.out]; exact R16.keep_take c HQ.out, ho', hBl3, hM3, bb3⟩ | exact ⟨_, _, _, _, _, _, _, _, _, _, _, _, _, _, _, _, _, _, _, _, _, _, _, _, ⟨k2 + 1, OL ++ [q], by omega, by go_num, by show _ = _; rw [HOL.out]; exact R16.keep_take c HQ.out, ho', hBl3, hM3, bb3⟩, rfl⟩
                case measure => simp [intOf]; omega
              · obtain rfl : k2 = n + 1 := by rcases HK2.out k2 q c HQ.out with z | z; omega; exact z
                have ho2 := ho1.alloc (.cells #[.int .u64 (q.num : Int), .string q.tx] 34 (0, 0))
                have hM2 := hM1.alloc (.cells #[.int .u64 (q.num : Int), .string q.tx] 34 (0, 0))
                have bb2 := bb1.alloc bb1.size (.cells #[.int .u64 (q.num : Int), .string q.tx] 34 (0, 0))
                have r22b := r22.alloc (.cells #[.int .u64 (q.num : Int), .string q.tx] 34 (0, 0))
                have r23 : Row ((wr.alloc (.cells #[.int .u64 (q.num : Int), .string q.tx] 34 (0, 0))).alloc (.cells #[.int .u64 (q.num : Int), .string q.tx] 34 (0, 0))) (wr.heap.size + 1) 34 [.int .u64 (q.num : Int), .string q.tx] := Row.new' rfl (by simp)
                have hnews : Hid (∀ (j : Nat) (u : Value), ([.int .u64 (q.num : Int), .string q.tx] : List Value)[j]? = some u → ((wr.alloc (.cells #[.int .u64 (q.num : Int), .string q.tx] 34 (0, 0))).alloc (.cells #[.int .u64 (q.num : Int), .string q.tx] 34 (0, 0))).cell? ((⟨wr.heap.size + 1, 0, none⟩ : Addr).add j) = some u) := fun j u hj => by rw [R16.addrAdd, Nat.zero_add, r23.cell]; exact hj
                clear ho1 hM1 bb1 r23
                have tk1 : True := True.intro
                have tk2 : True := True.intro
                go_wp2_with (first | (refine at_op (.load 34 (.tmp 97)) (by with_reducible rfl) ?_; clear tk1; refine wpList_load_mid rfl 34 (.tmp 97) rfl g2 ((n + 1) * 2) rfl _ _ hr Try.underlying34 rfl infoRs ?_) | (refine at_op (.load 34 (.tmp 22)) (by with_reducible rfl) ?_; clear tk2; refine wpList_load_row rfl 34 (.tmp 22) rfl wr.heap.size rfl _ _ _ _ r22b Try.underlying34 rfl infoRs ?_) | (at_builtin; go_loud (refine wpList_append_own _ rfl _ _ 35 rfl B2 34 i0 _ 2 24 Try.underlying35 hif hz0 hz1 hz2 rfl (by decide) _ OL.length _ rfl ho2 ⟨wr.heap.size + 1, 0, none⟩ 1 1 ([.int .u64 (q.num : Int), .string q.tx]) rfl rfl hnews.out (by intro u hu; simp at hu; rcases hu with rfl | rfl <;> rfl) (by unfold maxLen; omega) (by omega) (by simp; omega) ?_)))
                intro v' w' ho' hgr _
                have hAA : R16.cellsL OL ++ [.int .u64 (q.num : Int), .string q.tx] = R16.cellsL (OL ++ [q]) := by rw [R16.cellsL_append]; rfl
                rw [hAA, show OL.length + 1 = (OL ++ [q]).length by simp] at ho'
                have hM3 := hM2.grownV hgr (fun j hj => by have := hown j hj; omega)
                have bb3 := bb2.grown hgr (by simp; omega) (fun j hj => Nat.le_trans hBw (hown j hj))
                have hBl3 : B2 ≤ w'.heap.size := Nat.le_trans (by simp; omega) hgr.size
                clear ho2 hM2 bb2 hgr hnews hAA r22 r22b hr
                go_wp2
                go_roundw
                case rel => first | exact ⟨n + 1 + 1, OL ++ [q], by omega, by go_num, by show _ = _; rw [HOL.out]; exact R16.keep_take c HQ.out, ho', hBl3, hM3, bb3⟩ | exact ⟨_, _, _, _, _, _, _, _, _, _, _, _, _, _, _, _, _, _, _, _, _, _, _, _, ⟨n + 1 + 1, OL ++ [q], by omega, by go_num, by show _ = _; rw [HOL.out]; exact R16.keep_take c HQ.out, ho', hBl3, hM3, bb3⟩, rfl⟩
                case measure => simp [intOf]; omega
          · obtain rfl : k2 = n + 1 + 1 := by omega
            have hOL : OL = M.drop a0 := by rw [HOL.out, List.take_of_length_le (by rw [HML.out]; exact Nat.le_refl _)]
            obtain ⟨m3, hm3⟩ : ∃ m3, m3 = n + 1 - a0 := ⟨_, rfl⟩
            have hol : OL.length = m3 + 1 := by rw [hOL, List.length_drop, HML.out]; omega
            rw [hol] at ho
            obtain ⟨g3, cap3, hv, hg3, hg3l, hcp3, hcpm3⟩ := R16.own_slice ho
            subst hv
            have hC := R16.CmAt.of_owns ho
            have HO3 := Lib.hid hOL
            have HO4 := Lib.hid hol
            clear ho hOL hol HOL hM
            go_wp2
            go_loopw [20] (fun ov wr => ∃ (b l c : Nat), b + l = m3 ∧ b + c = cap3 ∧ ov = .slice (some ⟨g3, b * 2, none⟩) (l + 1) c ∧ (b = 0 ∨ 7 ≤ l) ∧ R16.CmAt wr g3 0 OL ∧ Below w.heap.size w wr) (fun ov _ => match ov with | .slice _ l _ => l | _ => 0)
            case atStart => exact ⟨0, m3, cap3, by omega, by omega, rfl, .inl rfl, hC, bb⟩
            case round =>
              clear hC bb
              obtain ⟨b, l, c, hbl, hbc, rfl, hb7, hC, bb⟩ := hrel
              have hlc : l + 1 ≤ c := by omega
              by_cases h8 : (8 : Int) < ((l + 1 : Nat) : Int)
              · go_wp2
                go_roundw
                case rel => exact ⟨b + 1, l - 1, c - 1, by omega, by omega, by rw [show (b + 1) * 2 = b * 2 + 2 by omega, show l - 1 + 1 = l by omega], by omega, hC, bb⟩
                case measure => simp
              · go_wp2
                go_ret3
                refine ⟨a0 + b, l, g3, b * 2, ⟨c, ?_⟩, ?_, ?_, ?_, bb⟩
                · first | rfl | (rw [HDB.out]; rfl)
                · exact R16.keep_kp HML.out ha0 HK1.out HK2.out (by omega) (by omega) (by omega)
                · have h := hC.from (i := b) (by rw [HO4.out]; omega)
                  rw [HO3.out, List.drop_drop, Nat.zero_add] at h
                  exact h
                · rw [HML.out]; omega
      · subst h2
        have HN2 : Hid (AL = M) := by show _ = _; rw [hMe, h3, List.take_of_length_le]; rw [R16.ins_len _ _ _ (by rw [HLN.out]; exact hil), HLN.out]; omega
        rw [HN2.out, HML.out] at ho
        obtain ⟨g2, cap2, hv, hg2, hg2l, hcp2, hcpm⟩ := R16.own_slice ho
        subst hv
        have hM2 := R16.CmAt.of_owns ho
        have hdb : decide (i = n + 1) = false := decide_eq_false (by omega)
        obtain ⟨B2, hB2e⟩ : ∃ B, B = wr.heap.size := ⟨_, rfl⟩
        have HDB := Lib.hid hdb
        clear h3 ho hMe HAL hdb HN2
        have hB2 : g2 < B2 := by rw [hB2e]; exact hM2.lt
        have hBw : w.heap.size ≤ B2 := by rw [hB2e]; exact bb.size
        go_wp2
        go_loopw [94, 20, 21] (fun iv ov _ wr => ∃ (k2 : Nat) (OL : List R16.Cm), k2 ≤ n + 1 + 1 ∧ iv = .int .i64 (k2 : Int) ∧ Hid (OL = (M.take k2).drop a0) ∧ wr.ownsRow B2 34 2 ov OL.length (R16.cellsL OL) ∧ B2 ≤ wr.heap.size ∧ R16.CmAt wr g2 0 M ∧ Below w.heap.size w wr) (fun iv _ _ _ => n + 1 + 1 - (intOf iv).toNat)
        case atStart => exact ⟨0, [], Nat.zero_le _, rfl, by show _ = _; simp, World.ownsRow_nil _ _ _ _, by rw [hB2e]; exact Nat.le_refl _, hM2, bb⟩
        case round =>
          clear hM2 bb hB2e
          obtain ⟨k2, OL, hk2, rfl, HOL, ho, hBl, hM, bb⟩ := hrel
          by_cases hl2 : k2 < n + 1 + 1
          · have hsk2 : (k2 : Int) < ((n + 1 + 1 : Nat) : Int) := by omega
            obtain ⟨q, hq⟩ : ∃ q, M[k2]? = some q := ⟨M[k2]'(by rw [HML.out]; exact hl2), List.getElem?_eq_getElem (by rw [HML.out]; exact hl2)⟩
            have hr : wr.rangeAt g2 (k2 * 2) [.int .u64 (q.num : Int), .string q.tx] := by have := hM.load hq; rwa [Nat.zero_add] at this
            have HQ := Lib.hid hq
            have hOn : OL.length ≤ n + 2 := by rw [HOL.out, List.length_drop, List.length_take]; omega
            have r22 : Row (wr.alloc (.cells #[.int .u64 (q.num : Int), .string q.tx] 34 (0, 0))) wr.heap.size 34 [.int .u64 (q.num : Int), .string q.tx] := Row.new' rfl rfl
            have c22 := r22.cell 0
            simp only [List.getElem?_cons_zero] at c22
            have ho1 := ho.alloc (.cells #[.int .u64 (q.num : Int), .string q.tx] 34 (0, 0))
            have hM1 := hM.alloc (.cells #[.int .u64 (q.num : Int), .string q.tx] 34 (0, 0))
            have bb1 := bb.alloc bb.size (.cells #[.int .u64 (q.num : Int), .string q.tx] 34 (0, 0))
            have hwl := bb.size
            have hown := own_blk ho
            have hownl := own_lt ho
            have hBl1 : B2 ≤ (wr.alloc (.cells #[.int .u64 (q.num : Int), .string q.tx] 34 (0, 0))).heap.size := by simp; omega
            have y1 : IntKind.i64.wrap (((n + 1 + 1 : Nat) : Int) - 1) = ((n + 1 : Nat) : Int) := by rw [IntKind.wrap_i64]; omega
            clear hq ho hM bb
            rcases Nat.lt_or_ge k2 a0 with c | c
            · have z1 : ¬ (tt : Int) ≤ (q.num : Int) := by have := (HK1.out k2 q c HQ.out).1; omega
              have z2 : ¬ (k2 : Int) = ((n + 1 : Nat) : Int) := by have := (HK1.out k2 q c HQ.out).2; omega
              have z3 : ((k2 : Int) == ((n + 1 : Nat) : Int)) = false := by simp only [beq_eq_false_iff_ne]; exact z2
              have tk1 : True := True.intro
              go_wp2_with (first | (refine at_op (.load 34 (.tmp 97)) (by with_reducible rfl) ?_; clear tk1; refine wpList_load_mid rfl 34 (.tmp 97) rfl g2 (k2 * 2) rfl _ _ hr Try.underlying34 rfl infoRs ?_))
              go_roundw
              case rel => first | exact ⟨k2 + 1, OL, by omega, by go_num, by show _ = _; rw [HOL.out]; exact (R16.keep_skip c).symm, ho1, hBl1, hM1, bb1⟩ | exact ⟨_, _, _, _, ⟨k2 + 1, by omega, by go_num, OL, by show _ = _; rw [HOL.out]; exact (R16.keep_skip c).symm, ho1, by omega⟩, rfl, rfl, rfl, rfl⟩
              case measure => simp [intOf]; omega
            · by_cases z1 : (tt : Int) ≤ (q.num : Int)
              · have ho2 := ho1.alloc (.cells #[.int .u64 (q.num : Int), .string q.tx] 34 (0, 0))
                have hM2 := hM1.alloc (.cells #[.int .u64 (q.num : Int), .string q.tx] 34 (0, 0))
                have bb2 := bb1.alloc bb1.size (.cells #[.int .u64 (q.num : Int), .string q.tx] 34 (0, 0))
                have r22b := r22.alloc (.cells #[.int .u64 (q.num : Int), .string q.tx] 34 (0, 0))
                have r23 : Row ((wr.alloc (.cells #[.int .u64 (q.num : Int), .string q.tx] 34 (0, 0))).alloc (.cells #[.int .u64 (q.num : Int), .string q.tx] 34 (0, 0))) (wr.heap.size + 1) 34 [.int .u64 (q.num : Int), .string q.tx] := Row.new' rfl (by simp)
                have hnews : Hid (∀ (j : Nat) (u : Value), ([.int .u64 (q.num : Int), .string q.tx] : List Value)[j]? = some u → ((wr.alloc (.cells #[.int .u64 (q.num : Int), .string q.tx] 34 (0, 0))).alloc (.cells #[.int .u64 (q.num : Int), .string q.tx] 34 (0, 0))).cell? ((⟨wr.heap.size + 1, 0, none⟩ : Addr).add j) = some u) := fun j u hj => by rw [R16.addrAdd, Nat.zero_add, r23.cell]; exact hj
                clear ho1 hM1 bb1 r23
                have tk1 : True := True.intro
                have tk2 : True := True.intro
                go_wp2_with (first | (refine at_op (.load 34 (.tmp 97)) (by with_reducible rfl) ?_; clear tk1; refine wpList_load_mid rfl 34 (.tmp 97) rfl g2 (k2 * 2) rfl _ _ hr Try.underlying34 rfl infoRs ?_) | (refine at_op (.load 34 (.tmp 22)) (by with_reducible rfl) ?_; clear tk2; refine wpList_load_row rfl 34 (.tmp 22) rfl wr.heap.size rfl _ _ _ _ r22b Try.underlying34 rfl infoRs ?_) | (at_builtin; go_loud (refine wpList_append_own _ rfl _ _ 35 rfl B2 34 i0 _ 2 24 Try.underlying35 hif hz0 hz1 hz2 rfl (by decide) _ OL.length _ rfl ho2 ⟨wr.heap.size + 1, 0, none⟩ 1 1 ([.int .u64 (q.num : Int), .string q.tx]) rfl rfl hnews.out (by intro u hu; simp at hu; rcases hu with rfl | rfl <;> rfl) (by unfold maxLen; omega) (by omega) (by simp; omega) ?_)))
                intro v' w' ho' hgr _
                have hAA : R16.cellsL OL ++ [.int .u64 (q.num : Int), .string q.tx] = R16.cellsL (OL ++ [q]) := by rw [R16.cellsL_append]; rfl
                rw [hAA, show OL.length + 1 = (OL ++ [q]).length by simp] at ho'
                have hM3 := hM2.grownV hgr (fun j hj => by have := hown j hj; omega)
                have bb3 := bb2.grown hgr (by simp; omega) (fun j hj => Nat.le_trans hBw (hown j hj))
                have hBl3 : B2 ≤ w'.heap.size := Nat.le_trans (by simp; omega) hgr.size
                clear ho2 hM2 bb2 hgr hnews hAA r22 r22b hr
                go_wp2
                go_roundw
                case rel => first | exact ⟨k2 + 1, OL ++ [q], by omega, by go_num, by show _ = _; rw [HOL.out]; exact R16.keep_take c HQ.out, ho', hBl3, hM3, bb3⟩ | exact ⟨_, _, _, _, _, _, _, _, _, _, _, _, _, _, _, _, _, _, _, _, _, _, _, _, ⟨k2 + 1, OL ++ [q], by omega, by go_num, by show _ = _; rw [HOL.out]; exact R16.keep_take c HQ.out, ho', hBl3, hM3, bb3⟩, rfl⟩
                case measure => simp [intOf]; omega
              · obtain rfl : k2 = n + 1 := by rcases HK2.out k2 q c HQ.out with z | z; omega; exact z
                have ho2 := ho1.alloc (.cells #[.int .u64 (q.num : Int), .string q.tx] 34 (0, 0))
                have hM2 := hM1.alloc (.cells #[.int .u64 (q.num : Int), .string q.tx] 34 (0, 0))
                have bb2 := bb1.alloc bb1.size (.cells #[.int .u64 (q.num : Int), .string q.tx] 34 (0, 0))
                have r22b := r22.alloc (.cells #[.int .u64 (q.num : Int), .string q.tx] 34 (0, 0))
                have r23 : Row ((wr.alloc (.cells #[.int .u64 (q.num : Int), .string q.tx] 34 (0, 0))).alloc (.cells #[.int .u64 (q.num : Int), .string q.tx] 34 (0, 0))) (wr.heap.size + 1) 34 [.int .u64 (q.num : Int), .string q.tx] := Row.new' rfl (by simp)
                have hnews : Hid (∀ (j : Nat) (u : Value), ([.int .u64 (q.num : Int), .string q.tx] : List Value)[j]? = some u → ((wr.alloc (.cells #[.int .u64 (q.num : Int), .string q.tx] 34 (0, 0))).alloc (.cells #[.int .u64 (q.num : Int), .string q.tx] 34 (0, 0))).cell? ((⟨wr.heap.size + 1, 0, none⟩ : Addr).add j) = some u) := fun j u hj => by rw [R16.addrAdd, Nat.zero_add, r23.cell]; exact hj
                clear ho1 hM1 bb1 r23
                have tk1 : True := True.intro
                have tk2 : True := True.intro
                go_wp2_with (first | (refine at_op (.load 34 (.tmp 97)) (by with_reducible rfl) ?_; clear tk1; refine wpList_load_mid rfl 34 (.tmp 97) rfl g2 ((n + 1) * 2) rfl _ _ hr Try.underlying34 rfl infoRs ?_) | (refine at_op (.load 34 (.tmp 22)) (by with_reducible rfl) ?_; clear tk2; refine wpList_load_row rfl 34 (.tmp 22) rfl wr.heap.size rfl _ _ _ _ r22b Try.underlying34 rfl infoRs ?_) | (at_builtin; go_loud (refine wpList_append_own _ rfl _ _ 35 rfl B2 34 i0 _ 2 24 Try.underlying35 hif hz0 hz1 hz2 rfl (by decide) _ OL.length _ rfl ho2 ⟨wr.heap.size + 1, 0, none⟩ 1 1 ([.int .u64 (q.num : Int), .string q.tx]) rfl rfl hnews.out (by intro u hu; simp at hu; rcases hu with rfl | rfl <;> rfl) (by unfold maxLen; omega) (by omega) (by simp; omega) ?_)))
                intro v' w' ho' hgr _
                have hAA : R16.cellsL OL ++ [.int .u64 (q.num : Int), .string q.tx] = R16.cellsL (OL ++ [q]) := by rw [R16.cellsL_append]; rfl
                rw [hAA, show OL.length + 1 = (OL ++ [q]).length by simp] at ho'
                have hM3 := hM2.grownV hgr (fun j hj => by have := hown j hj; omega)
                have bb3 := bb2.grown hgr (by simp; omega) (fun j hj => Nat.le_trans hBw (hown j hj))
                have hBl3 : B2 ≤ w'.heap.size := Nat.le_trans (by simp; omega) hgr.size
                clear ho2 hM2 bb2 hgr hnews hAA r22 r22b hr
                go_wp2
                go_roundw
                case rel => first | exact ⟨n + 1 + 1, OL ++ [q], by omega, by go_num, by show _ = _; rw [HOL.out]; exact R16.keep_take c HQ.out, ho', hBl3, hM3, bb3⟩ | exact ⟨_, _, _, _, _, _, _, _, _, _, _, _, _, _, _, _, _, _, _, _, _, _, _, _, ⟨n + 1 + 1, OL ++ [q], by omega, by go_num, by show _ = _; rw [HOL.out]; exact R16.keep_take c HQ.out, ho', hBl3, hM3, bb3⟩, rfl⟩
                case measure => simp [intOf]; omega
          · obtain rfl : k2 = n + 1 + 1 := by omega
            have hOL : OL = M.drop a0 := by rw [HOL.out, List.take_of_length_le (by rw [HML.out]; exact Nat.le_refl _)]
            obtain ⟨m3, hm3⟩ : ∃ m3, m3 = n + 1 - a0 := ⟨_, rfl⟩
            have hol : OL.length = m3 + 1 := by rw [hOL, List.length_drop, HML.out]; omega
            rw [hol] at ho
            obtain ⟨g3, cap3, hv, hg3, hg3l, hcp3, hcpm3⟩ := R16.own_slice ho
            subst hv
            have hC := R16.CmAt.of_owns ho
            have HO3 := Lib.hid hOL
            have HO4 := Lib.hid hol
            clear ho hOL hol HOL hM
            go_wp2
            go_loopw [20] (fun ov wr => ∃ (b l c : Nat), b + l = m3 ∧ b + c = cap3 ∧ ov = .slice (some ⟨g3, b * 2, none⟩) (l + 1) c ∧ (b = 0 ∨ 7 ≤ l) ∧ R16.CmAt wr g3 0 OL ∧ Below w.heap.size w wr) (fun ov _ => match ov with | .slice _ l _ => l | _ => 0)
            case atStart => exact ⟨0, m3, cap3, by omega, by omega, rfl, .inl rfl, hC, bb⟩
            case round =>
              clear hC bb
              obtain ⟨b, l, c, hbl, hbc, rfl, hb7, hC, bb⟩ := hrel
              have hlc : l + 1 ≤ c := by omega
              by_cases h8 : (8 : Int) < ((l + 1 : Nat) : Int)
              · go_wp2
                go_roundw
                case rel => exact ⟨b + 1, l - 1, c - 1, by omega, by omega, by rw [show (b + 1) * 2 = b * 2 + 2 by omega, show l - 1 + 1 = l by omega], by omega, hC, bb⟩
                case measure => simp
              · go_wp2
                go_ret3
                refine ⟨a0 + b, l, g3, b * 2, ⟨c, ?_⟩, ?_, ?_, ?_, bb⟩
                · first | rfl | (rw [HDB.out]; rfl)
                · exact R16.keep_kp HML.out ha0 HK1.out HK2.out (by omega) (by omega) (by omega)
                · have h := hC.from (i := b) (by rw [HO4.out]; omega)
                  rw [HO3.out, List.drop_drop, Nat.zero_add] at h
                  exact h
                · rw [HML.out]; omega
end Go.Proofs.Ytjfhinhakanhaaa
