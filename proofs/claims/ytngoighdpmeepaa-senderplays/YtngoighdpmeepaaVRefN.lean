/-
  Layer 15: the document's Next.
-/
import Derived.Test.YtngoighdpmeepaaVRefS
namespace Go.Proofs.Ytngoighdpmeepaa
open Go.RowKit
set_option linter.unusedVariables false
set_option linter.unusedSimpArgs false
set_option maxRecDepth 20000
theorem infoRStZ : (Try.prog.info? 61).map (fun i => (i.zero, i.size, i.bytes)) = some (some (.agg #[.int .u64 0, .int .u64 0, .string ⟨#[]⟩]), 3, 32) := by kernel_rfl
theorem own_blk3 {w : World} {B e size n : Nat} {v : Value} {xs : List Value} (h : w.ownsRow B e size v n xs) : ∀ k, v.ownBlock = some k → B ≤ k := by
  intro k hk
  rcases h.2 with ⟨rfl, _⟩ | ⟨g, cap, cur, rfl, hB, _⟩
  · cases hk
  · cases hk; exact hB
theorem Row.grownV3 {w w' : World} {b t : Nat} {r : Option Nat} {l : List Value} (h : Row w b t l) (k : w.grownBy w' r) (hb : ∀ j, r = some j → b ≠ j) : Row w' b t l := by
  unfold Row; rw [k.block b h.lt (fun e => hb b e.symm rfl)]; exact h
theorem results_row3_tmp {P : Program} {fn : Func} {p q s u : Tmp} {ty ty' ty2 : TypeId} (h : fn.results = #[.cell p ty, .cell q ty', .cell s ty2, .tmp u]) (tmps : Array Value) (w : World) (g : Nat) (t : TypeId) (l : List Value) (d : TypeDesc) (g' : Nat) (t' : TypeId) (l' : List Value) (d' : TypeDesc) (g2 : Nat) (t2 : TypeId) (l2 : List Value) (d2 : TypeDesc)
    (hp : tmps.getD p undef = .pointer (some ⟨g, 0, none⟩)) (hg : Row w g t l)
    (hu : P.underlying ty = some d) (hd : (match d with | .struct _ | .array _ _ => true | _ => false) = true) (hi : (P.info? ty).map (·.size) = some l.toArray.size)
    (hp' : tmps.getD q undef = .pointer (some ⟨g', 0, none⟩)) (hg' : Row w g' t' l')
    (hu' : P.underlying ty' = some d') (hd' : (match d' with | .struct _ | .array _ _ => true | _ => false) = true) (hi' : (P.info? ty').map (·.size) = some l'.toArray.size)
    (hp2 : tmps.getD s undef = .pointer (some ⟨g2, 0, none⟩)) (hg2 : Row w g2 t2 l2)
    (hu2 : P.underlying ty2 = some d2) (hd2 : (match d2 with | .struct _ | .array _ _ => true | _ => false) = true) (hi2 : (P.info? ty2).map (·.size) = some l2.toArray.size) :
    (results fn tmps).run P w = .ok (.tuple #[.agg l.toArray, .agg l'.toArray, .agg l2.toArray, tmps.getD u undef]) w := by
  have e1 := run_loadVar_row w g t ty _ _ d hg hu hd hi
  have e2 := run_loadVar_row w g' t' ty' _ _ d' hg' hu' hd' hi'
  have e3 := run_loadVar_row w g2 t2 ty2 _ _ d2 hg2 hu2 hd2 hi2
  have x1 : tmps[p]?.getD undef = .pointer (some ⟨g, 0, none⟩) := by simpa using hp
  have x2 : tmps[q]?.getD undef = .pointer (some ⟨g', 0, none⟩) := by simpa using hp'
  have x3 : tmps[s]?.getD undef = .pointer (some ⟨g2, 0, none⟩) := by simpa using hp2
  simp only [results, h]
  simp [Sem.run_bind, Result.andThen, x1, x2, x3, asAddr, e1, e2, e3]
set_option maxHeartbeats 4000000 in
theorem refNext_new (now : ByteArray) (g off n cap last : Nat) (L : List S15.St) (p : S15.St) (w : World) (hn : L.length = n + 1) (h8 : n < 8) (hp : L[n]? = some p) (ha : S15.StAt w g off L) (tk wait beat : Nat) (hw : wait ≤ 18446744073709551615) (hbt : beat ≤ 18446744073709551615) (hl : last ≤ 18446744073709551615) (ht : p.tick ≤ 18446744073709551615) (d : ¬ now = p.tx) (h7 : n < 7) (b : S15.St) (hb : L[0]? = some b) (hpn : p.num < 18446744073709551615) (N1 : Nat) (hN : N1 = p.num + 1) :
    Calls Try.prog 23 #[.agg #[.slice (some ⟨g, off, none⟩) (n + 1) cap, .string now, .int .u64 (last : Int)], .int .u64 (tk : Int), .int .u64 (wait : Int), .int .u64 (beat : Int)] w fun e w' => ∃ g' cap', e = .returned (.tuple #[.agg #[.slice (some ⟨g', 0, none⟩) (n + 1 + 1) cap', .string now, .int .u64 (tk : Int)], .agg #[.int .u64 (b.num : Int), .int .u64 (b.tick : Int), .string b.tx], .agg #[.int .u64 (N1 : Int), .int .u64 (tk : Int), .string now], .bool true]) ∧ S15.StAt w' g' 0 (L ++ [⟨N1, tk, now⟩]) ∧ n + 1 + 1 ≤ cap' ∧ Below w.heap.size w w' := by
  have HB : Hid ((L ++ [⟨N1, tk, now⟩])[0]? = some b) := by show _ = _; rw [List.getElem?_append_left (by omega)]; exact hb
  have HT : Hid ((L ++ [⟨N1, tk, now⟩])[n + 1]? = some ⟨N1, tk, now⟩) := by show _ = _; rw [List.getElem?_append_right (by omega), hn]; simp
  have dl : ¬ now.toList = p.tx.toList := fun hh => d (ByteArray.ext (by simpa [ByteArray.toList_eq] using hh))
  have dl1 : (now.toList == p.tx.toList) = false := by rw [beq_eq_false_iff_ne]; exact dl
  have dl2 : (now == p.tx) = false := by rw [beq_toListBytes]; exact dl1
  have e8 : ((n + 1 : Nat) : Int) < 8 := by omega
  have x3 : IntKind.u64.wrap ((p.num : Int) + 1) = (N1 : Int) := by rw [IntKind.wrap_u64]; omega
  clear hN hb
  have hr0 := ha.load hp
  have la : g < w.heap.size := ha.lt
  have y1 : IntKind.i64.wrap (((n + 1 : Nat) : Int) - 1) = (n : Int) := by rw [IntKind.wrap_i64]; omega
  have y2 : (n : Int) < ((n + 1 : Nat) : Int) := by omega
  obtain ⟨i0, hif, hz0, hz1, hz2⟩ := info_parts infoRStZ
  have r4a : Row ((((w.alloc (.cells #[.slice (some ⟨g, off, none⟩) (n + 1) cap, .string now, .int .u64 (last : Int)] 47 (0, 0))).alloc (.cells #[.slice none 0 0, .string ⟨#[]⟩, .int .u64 0] 47 (0, 0))).alloc (.cells #[.int .u64 0, .int .u64 0, .string ⟨#[]⟩] 61 (0, 0))).alloc (.cells #[.int .u64 0, .int .u64 0, .string ⟨#[]⟩] 61 (0, 0))) w.heap.size 47 [.slice (some ⟨g, off, none⟩) (n + 1) cap, .string now, .int .u64 (last : Int)] := (((Row.new' rfl rfl).alloc _).alloc _).alloc _
  have c15 := r4a.cell 0
  simp only [List.getElem?_cons_zero] at c15
  have ha4 := (((ha.alloc (.cells #[.slice (some ⟨g, off, none⟩) (n + 1) cap, .string now, .int .u64 (last : Int)] 47 (0, 0))).alloc (.cells #[.slice none 0 0, .string ⟨#[]⟩, .int .u64 0] 47 (0, 0))).alloc (.cells #[.int .u64 0, .int .u64 0, .string ⟨#[]⟩] 61 (0, 0))).alloc (.cells #[.int .u64 0, .int .u64 0, .string ⟨#[]⟩] 61 (0, 0))
  have hr2 : ((((w.alloc (.cells #[.slice (some ⟨g, off, none⟩) (n + 1) cap, .string now, .int .u64 (last : Int)] 47 (0, 0))).alloc (.cells #[.slice none 0 0, .string ⟨#[]⟩, .int .u64 0] 47 (0, 0))).alloc (.cells #[.int .u64 0, .int .u64 0, .string ⟨#[]⟩] 61 (0, 0))).alloc (.cells #[.int .u64 0, .int .u64 0, .string ⟨#[]⟩] 61 (0, 0))).rangeAt g (off + n * 3) [.int .u64 (p.num : Int), .int .u64 (p.tick : Int), .string p.tx] := ha4.load hp
  have r4 := r4a.alloc (.cells #[.int .u64 (p.num : Int), .int .u64 (p.tick : Int), .string p.tx] 61 (0, 0))
  have q8 : Row (((((w.alloc (.cells #[.slice (some ⟨g, off, none⟩) (n + 1) cap, .string now, .int .u64 (last : Int)] 47 (0, 0))).alloc (.cells #[.slice none 0 0, .string ⟨#[]⟩, .int .u64 0] 47 (0, 0))).alloc (.cells #[.int .u64 0, .int .u64 0, .string ⟨#[]⟩] 61 (0, 0))).alloc (.cells #[.int .u64 0, .int .u64 0, .string ⟨#[]⟩] 61 (0, 0))).alloc (.cells #[.int .u64 (p.num : Int), .int .u64 (p.tick : Int), .string p.tx] 61 (0, 0))) (w.heap.size + 1) 47 [.slice none 0 0, .string ⟨#[]⟩, .int .u64 0] := (((Row.new' rfl (by simp)).alloc _).alloc _).alloc _
  have s9 : Row (((((w.alloc (.cells #[.slice (some ⟨g, off, none⟩) (n + 1) cap, .string now, .int .u64 (last : Int)] 47 (0, 0))).alloc (.cells #[.slice none 0 0, .string ⟨#[]⟩, .int .u64 0] 47 (0, 0))).alloc (.cells #[.int .u64 0, .int .u64 0, .string ⟨#[]⟩] 61 (0, 0))).alloc (.cells #[.int .u64 0, .int .u64 0, .string ⟨#[]⟩] 61 (0, 0))).alloc (.cells #[.int .u64 (p.num : Int), .int .u64 (p.tick : Int), .string p.tx] 61 (0, 0))) (w.heap.size + 2) 61 [.int .u64 0, .int .u64 0, .string ⟨#[]⟩] := ((Row.new' rfl (by simp)).alloc _).alloc _
  have s10 : Row (((((w.alloc (.cells #[.slice (some ⟨g, off, none⟩) (n + 1) cap, .string now, .int .u64 (last : Int)] 47 (0, 0))).alloc (.cells #[.slice none 0 0, .string ⟨#[]⟩, .int .u64 0] 47 (0, 0))).alloc (.cells #[.int .u64 0, .int .u64 0, .string ⟨#[]⟩] 61 (0, 0))).alloc (.cells #[.int .u64 0, .int .u64 0, .string ⟨#[]⟩] 61 (0, 0))).alloc (.cells #[.int .u64 (p.num : Int), .int .u64 (p.tick : Int), .string p.tx] 61 (0, 0))) (w.heap.size + 3) 61 [.int .u64 0, .int .u64 0, .string ⟨#[]⟩] := (Row.new' rfl (by simp)).alloc _
  have t12 : Row (((((w.alloc (.cells #[.slice (some ⟨g, off, none⟩) (n + 1) cap, .string now, .int .u64 (last : Int)] 47 (0, 0))).alloc (.cells #[.slice none 0 0, .string ⟨#[]⟩, .int .u64 0] 47 (0, 0))).alloc (.cells #[.int .u64 0, .int .u64 0, .string ⟨#[]⟩] 61 (0, 0))).alloc (.cells #[.int .u64 0, .int .u64 0, .string ⟨#[]⟩] 61 (0, 0))).alloc (.cells #[.int .u64 (p.num : Int), .int .u64 (p.tick : Int), .string p.tx] 61 (0, 0))) (w.heap.size + 4) 61 [.int .u64 (p.num : Int), .int .u64 (p.tick : Int), .string p.tx] := Row.new' rfl (by simp)
  have ha5 := ha4.alloc (.cells #[.int .u64 (p.num : Int), .int .u64 (p.tick : Int), .string p.tx] 61 (0, 0))
  have bb : Below w.heap.size w (((((w.alloc (.cells #[.slice (some ⟨g, off, none⟩) (n + 1) cap, .string now, .int .u64 (last : Int)] 47 (0, 0))).alloc (.cells #[.slice none 0 0, .string ⟨#[]⟩, .int .u64 0] 47 (0, 0))).alloc (.cells #[.int .u64 0, .int .u64 0, .string ⟨#[]⟩] 61 (0, 0))).alloc (.cells #[.int .u64 0, .int .u64 0, .string ⟨#[]⟩] 61 (0, 0))).alloc (.cells #[.int .u64 (p.num : Int), .int .u64 (p.tick : Int), .string p.tx] 61 (0, 0))) := (((((Below.refl _ _).alloc (Nat.le_refl _) _).alloc (by simp) _).alloc (by simp; omega) _).alloc (by simp; omega) _).alloc (by simp; omega) _
  have h5 : w.heap.size + 5 ≤ (((((w.alloc (.cells #[.slice (some ⟨g, off, none⟩) (n + 1) cap, .string now, .int .u64 (last : Int)] 47 (0, 0))).alloc (.cells #[.slice none 0 0, .string ⟨#[]⟩, .int .u64 0] 47 (0, 0))).alloc (.cells #[.int .u64 0, .int .u64 0, .string ⟨#[]⟩] 61 (0, 0))).alloc (.cells #[.int .u64 0, .int .u64 0, .string ⟨#[]⟩] 61 (0, 0))).alloc (.cells #[.int .u64 (p.num : Int), .int .u64 (p.tick : Int), .string p.tx] 61 (0, 0))).heap.size := by simp
  have c24 : (((((w.alloc (.cells #[.slice (some ⟨g, off, none⟩) (n + 1) cap, .string now, .int .u64 (last : Int)] 47 (0, 0))).alloc (.cells #[.slice none 0 0, .string ⟨#[]⟩, .int .u64 0] 47 (0, 0))).alloc (.cells #[.int .u64 0, .int .u64 0, .string ⟨#[]⟩] 61 (0, 0))).alloc (.cells #[.int .u64 0, .int .u64 0, .string ⟨#[]⟩] 61 (0, 0))).alloc (.cells #[.int .u64 (p.num : Int), .int .u64 (p.tick : Int), .string p.tx] 61 (0, 0))).cell? ⟨w.heap.size, 0, none⟩ = some (.slice (some ⟨g, off, none⟩) (n + 1) cap) := r4.cell 0
  have hnews : Hid (∀ (j : Nat) (u : Value), (S15.cellsL L)[j]? = some u → (((((w.alloc (.cells #[.slice (some ⟨g, off, none⟩) (n + 1) cap, .string now, .int .u64 (last : Int)] 47 (0, 0))).alloc (.cells #[.slice none 0 0, .string ⟨#[]⟩, .int .u64 0] 47 (0, 0))).alloc (.cells #[.int .u64 0, .int .u64 0, .string ⟨#[]⟩] 61 (0, 0))).alloc (.cells #[.int .u64 0, .int .u64 0, .string ⟨#[]⟩] 61 (0, 0))).alloc (.cells #[.int .u64 (p.num : Int), .int .u64 (p.tick : Int), .string p.tx] 61 (0, 0))).cell? ((⟨g, off, none⟩ : Addr).add j) = some u) := fun j u hj => by rw [S15.addrAdd]; exact ha5.cellAt hj
  have hlen : Hid ((S15.cellsL L).length = (n + 1) * 3) := by show _ = _; rw [S15.cellsL_len, hn]
  have hone := Lib.hid (S15.cellsL_one L)
  have hown0 : (((((w.alloc (.cells #[.slice (some ⟨g, off, none⟩) (n + 1) cap, .string now, .int .u64 (last : Int)] 47 (0, 0))).alloc (.cells #[.slice none 0 0, .string ⟨#[]⟩, .int .u64 0] 47 (0, 0))).alloc (.cells #[.int .u64 0, .int .u64 0, .string ⟨#[]⟩] 61 (0, 0))).alloc (.cells #[.int .u64 0, .int .u64 0, .string ⟨#[]⟩] 61 (0, 0))).alloc (.cells #[.int .u64 (p.num : Int), .int .u64 (p.tick : Int), .string p.tx] 61 (0, 0))).ownsRow (w.heap.size + 5) 61 3 (.slice none 0 0) 0 [] := World.ownsRow_nil _ _ _ _
  have HN := Lib.hid hn
  clear ha ha4 hr0 hn r4a
  go_enter Try.func23, Try.ntmps23
  have tk1 : True := True.intro
  go_wp2_with (first | (refine at_op (.load 61 (.tmp 20)) (by with_reducible rfl) ?_; clear tk1; refine wpList_load_mid rfl 61 (.tmp 20) rfl g (off + n * 3) rfl _ _ hr2 Try.underlying61 rfl infoRSt ?_) | (at_builtin; go_loud (refine wpList_append_own _ rfl _ _ 45 rfl (w.heap.size + 5) 61 i0 _ 3 32 Try.underlying45 hif hz0 hz1 hz2 rfl (by decide) (.slice none 0 0) 0 [] rfl hown0 ⟨g, off, none⟩ (n + 1) cap (S15.cellsL L) rfl hlen.out hnews.out hone.out (by unfold maxLen; omega) (by omega) h5 ?_)))
  intro v6 w6 ho6 hgr _
  have ho6 : w6.ownsRow (w.heap.size + 5) 61 3 v6 (n + 1) (S15.cellsL L) := by simpa using ho6
  replace r4 := r4.grownV3 hgr (fun j hj => by cases hj)
  replace q8 := q8.grownV3 hgr (fun j hj => by cases hj)
  replace s9 := s9.grownV3 hgr (fun j hj => by cases hj)
  replace s10 := s10.grownV3 hgr (fun j hj => by cases hj)
  replace t12 := t12.grownV3 hgr (fun j hj => by cases hj)
  replace bb := bb.grown hgr (by omega) (fun j hj => by cases hj)
  have h6 : w.heap.size + 5 ≤ w6.heap.size := Nat.le_trans h5 hgr.size
  clear hgr hown0 hnews hlen hone c24 hr2 c15 ha5 h5
  obtain ⟨g6, cap6, rfl, hg1, hg2, hg3, hg4⟩ := S15.own_slice ho6
  have c27 : w6.cell? ⟨w.heap.size, 1, none⟩ = some (.string now) := r4.cell 1
  have c29 : w6.cell? ⟨w.heap.size + 4, 2, none⟩ = some (.string p.tx) := t12.cell 2
  have c38 : w6.cell? ⟨w.heap.size + 4, 0, none⟩ = some (.int .u64 (p.num : Int)) := t12.cell 0
  have ho7 := ho6.alloc (.cells #[.int .u64 (N1 : Int), .int .u64 (tk : Int), .string now] 61 (0, 0))
  replace r4 := r4.alloc (.cells #[.int .u64 (N1 : Int), .int .u64 (tk : Int), .string now] 61 (0, 0))
  replace q8 := q8.alloc (.cells #[.int .u64 (N1 : Int), .int .u64 (tk : Int), .string now] 61 (0, 0))
  replace s9 := s9.alloc (.cells #[.int .u64 (N1 : Int), .int .u64 (tk : Int), .string now] 61 (0, 0))
  replace s10 := s10.alloc (.cells #[.int .u64 (N1 : Int), .int .u64 (tk : Int), .string now] 61 (0, 0))
  replace bb := bb.alloc bb.size (.cells #[.int .u64 (N1 : Int), .int .u64 (tk : Int), .string now] 61 (0, 0))
  have x44 : Row (w6.alloc (.cells #[.int .u64 (N1 : Int), .int .u64 (tk : Int), .string now] 61 (0, 0))) w6.heap.size 61 [.int .u64 (N1 : Int), .int .u64 (tk : Int), .string now] := Row.new' rfl rfl
  have hnews : Hid (∀ (j : Nat) (u : Value), ([.int .u64 (N1 : Int), .int .u64 (tk : Int), .string now] : List Value)[j]? = some u → (w6.alloc (.cells #[.int .u64 (N1 : Int), .int .u64 (tk : Int), .string now] 61 (0, 0))).cell? ((⟨w6.heap.size, 0, none⟩ : Addr).add j) = some u) := fun j u hj => by rw [S15.addrAdd, Nat.zero_add, x44.cell]; exact hj
  have hown := own_blk3 ho6
  clear ho6 t12 x44
  go_wp2_with (first | (at_builtin; go_loud (refine wpList_append_own _ rfl _ _ 45 rfl (w.heap.size + 5) 61 i0 _ 3 32 Try.underlying45 hif hz0 hz1 hz2 rfl (by decide) _ (n + 1) _ rfl ho7 ⟨w6.heap.size, 0, none⟩ 1 1 ([.int .u64 (N1 : Int), .int .u64 (tk : Int), .string now]) rfl rfl hnews.out (by intro u hu; simp at hu; rcases hu with rfl | rfl | rfl <;> rfl) (by unfold maxLen; omega) (by omega) (by simp; omega) ?_)))
  intro v7 w7 ho8 hgr _
  have ho9 : w7.ownsRow (w.heap.size + 5) 61 3 v7 (n + 1 + 1) (S15.cellsL (L ++ [⟨N1, tk, now⟩])) := by rw [S15.cellsL_append]; exact ho8
  replace r4 := r4.grownV3 hgr (fun j hj => by have := hown j hj; omega)
  replace q8 := q8.grownV3 hgr (fun j hj => by have := hown j hj; omega)
  replace s9 := s9.grownV3 hgr (fun j hj => by have := hown j hj; omega)
  replace s10 := s10.grownV3 hgr (fun j hj => by have := hown j hj; omega)
  replace bb := bb.grown hgr (by simp; omega) (fun j hj => by have := hown j hj; omega)
  clear hgr hnews ho7 ho8 c27 c29 c38 hown
  obtain ⟨g7, cap7, rfl, hj1, hj2, hj3, hj4⟩ := S15.own_slice ho9
  have hs := S15.StAt.of_owns ho9
  clear ho9
  have c0 := r4.cell 0
  have f0 := r4.frozen 0
  simp only [List.getElem?_cons_zero] at c0
  have r4b := r4.set 0 (.slice (some ⟨g7, 0, none⟩) (n + 1 + 1) cap7)
  simp only [List.set_cons_zero] at r4b
  have c2 := r4b.cell 2
  have f2 := r4b.frozen 2
  simp only [List.getElem?_cons_zero, List.getElem?_cons_succ] at c2
  have r4c := r4b.set 2 (.int .u64 (tk : Int))
  simp only [List.set_cons_succ, List.set_cons_zero] at r4c
  replace q8 := (q8.other (k := w.heap.size) (i := 0) (by omega) (.slice (some ⟨g7, 0, none⟩) (n + 1 + 1) cap7)).other (k := w.heap.size) (i := 2) (by omega) (.int .u64 (tk : Int))
  replace s9 := (s9.other (k := w.heap.size) (i := 0) (by omega) (.slice (some ⟨g7, 0, none⟩) (n + 1 + 1) cap7)).other (k := w.heap.size) (i := 2) (by omega) (.int .u64 (tk : Int))
  replace s10 := (s10.other (k := w.heap.size) (i := 0) (by omega) (.slice (some ⟨g7, 0, none⟩) (n + 1 + 1) cap7)).other (k := w.heap.size) (i := 2) (by omega) (.int .u64 (tk : Int))
  replace hs := (hs.other (k := w.heap.size) (i := 0) (by omega) (.slice (some ⟨g7, 0, none⟩) (n + 1 + 1) cap7)).other (k := w.heap.size) (i := 2) (by omega) (.int .u64 (tk : Int))
  replace bb := (bb.setCell (p := ⟨w.heap.size, 0, none⟩) (Nat.le_refl _) (.slice (some ⟨g7, 0, none⟩) (n + 1 + 1) cap7)).setCell (p := ⟨w.heap.size, 2, none⟩) (Nat.le_refl _) (.int .u64 (tk : Int))
  clear r4 r4b
  go_wp2
  generalize (w7.setCell ⟨w.heap.size, 0, none⟩ (.slice (some ⟨g7, 0, none⟩) (n + 1 + 1) cap7)).setCell ⟨w.heap.size, 2, none⟩ (.int .u64 (tk : Int)) = wt at *
  clear c0 f0 c2 f2
  have z1 : IntKind.i64.wrap (((n + 1 + 1 : Nat) : Int) - 1) = ((n + 1 : Nat) : Int) := by rw [IntKind.wrap_i64]; omega
  have z2 : ((n + 1 : Nat) : Int) < ((n + 1 + 1 : Nat) : Int) := by omega
  have z3 : (0 : Int) < ((n + 1 + 1 : Nat) : Int) := by omega
  refine wp_region_held_drew (S := fun w' => Row w' w.heap.size 47 [.slice (some ⟨g7, 0, none⟩) (n + 1 + 1) cap7, .string now, .int .u64 (tk : Int)] ∧ S15.StAt w' g7 0 (L ++ [⟨N1, tk, now⟩]) ∧ Below w.heap.size w w') (by kernel_rfl) (⟨r4c.drew, hs.drew, bb.drew⟩) (fun hHeld => ?_)
  replace q8 := q8.drew
  replace s9 := s9.drew
  replace s10 := s10.drew
  generalize wt.drew = wd21 at *
  refine take_d 0 (some 79) (.agg #[.slice (some ⟨g7, 0, none⟩) (n + 1 + 1) cap7, .string now, .int .u64 (tk : Int)]) rfl (by kernel_rfl) (by kernel_rfl) (by kernel_rfl) (fun _ _ _ h => h) (fun oi h => by cases h; exact yieldsIf_load_mid (by rfl) 47 (.tmp 4) rfl w.heap.size 0 rfl ([.slice (some ⟨g7, 0, none⟩) (n + 1 + 1) cap7, .string now, .int .u64 (tk : Int)]) _ (fun w' hS' => hS'.1.range) Try.underlying47 rfl infoRSn) hHeld ?_
  try simp only [Act.put, List.setIfInBounds_toArray, List.set_cons_zero, List.set_cons_succ]
  refine take_d 1 (some 80) (.slice (some ⟨g7, 0, none⟩) (n + 1 + 1) cap7) rfl (by kernel_rfl) (by kernel_rfl) (by kernel_rfl) (fun _ _ _ h => h) (fun oi h => by cases h; exact Or.inl ⟨by rfl, fun w' hS' => by go_simp⟩) hHeld ?_
  try simp only [Act.put, List.setIfInBounds_toArray, List.set_cons_zero, List.set_cons_succ]
  refine take_d 2 (some 81) (.pointer (some ⟨g7, 0, none⟩)) rfl (by kernel_rfl) (by kernel_rfl) (by kernel_rfl) (fun _ _ _ h => h) (fun oi h => by cases h; exact Or.inl ⟨by rfl, fun w' hS' => by have h9 : ¬ (((n : Int) + 1 + 1) ≤ 0) := (by omega); have h8 : (0 : Int) ≤ ((n : Int) + 1) := (by omega); have h7' : ¬ (((n : Int) + 1 + 1) ≤ (n : Int)) := (by omega); have h6' : IntKind.i64.wrap ((n : Int) + 1) = ((n : Int) + 1) := (by rw [IntKind.wrap_i64]; omega); have h5' : ¬ (((n : Int) + 1) ≤ (n : Int)) := (by omega); go_simp⟩) hHeld ?_
  try simp only [Act.put, List.setIfInBounds_toArray, List.set_cons_zero, List.set_cons_succ]
  refine take_d 3 (some 82) (.agg #[.int .u64 (b.num : Int), .int .u64 (b.tick : Int), .string b.tx]) rfl (by kernel_rfl) (by kernel_rfl) (by kernel_rfl) (fun _ _ _ h => h) (fun oi h => by cases h; exact yieldsIf_load_mid (by rfl) 61 (.tmp 81) rfl g7 (0) rfl [.int .u64 (b.num : Int), .int .u64 (b.tick : Int), .string b.tx] _ (fun w' hS' => by have h := (hS'.2.1).load HB.out; simp only [Nat.zero_add, Nat.zero_mul] at h; exact h) Try.underlying61 rfl infoRSt) hHeld ?_
  try simp only [Act.put, List.setIfInBounds_toArray, List.set_cons_zero, List.set_cons_succ]
  refine take_d 4 (some 83) (.slice (some ⟨g7, 0, none⟩) (n + 1 + 1) cap7) rfl (by kernel_rfl) (by kernel_rfl) (by kernel_rfl) (fun _ _ _ h => h) (fun oi h => by cases h; exact Or.inl ⟨by rfl, fun w' hS' => by go_simp⟩) hHeld ?_
  try simp only [Act.put, List.setIfInBounds_toArray, List.set_cons_zero, List.set_cons_succ]
  refine take_d 5 (some 84) (.slice (some ⟨g7, 0, none⟩) (n + 1 + 1) cap7) rfl (by kernel_rfl) (by kernel_rfl) (by kernel_rfl) (fun _ _ _ h => h) (fun oi h => by cases h; exact Or.inl ⟨by rfl, fun w' hS' => by go_simp⟩) hHeld ?_
  try simp only [Act.put, List.setIfInBounds_toArray, List.set_cons_zero, List.set_cons_succ]
  refine take_d 6 (some 85) (.int .i64 ((n + 1 + 1 : Nat) : Int)) rfl (by kernel_rfl) (by kernel_rfl) (by kernel_rfl) (fun _ _ _ h => h) (fun oi h => by cases h; exact Or.inl ⟨by rfl, fun w' hS' => by go_simp⟩) hHeld ?_
  try simp only [Act.put, List.setIfInBounds_toArray, List.set_cons_zero, List.set_cons_succ]
  refine take_d 7 (some 86) (.int .i64 ((n + 1 : Nat) : Int)) rfl (by kernel_rfl) (by kernel_rfl) (by kernel_rfl) (fun _ _ _ h => h) (fun oi h => by cases h; exact Or.inl ⟨by rfl, fun w' hS' => by have h9 : ¬ (((n : Int) + 1 + 1) ≤ 0) := (by omega); have h8 : (0 : Int) ≤ ((n : Int) + 1) := (by omega); have h7' : ¬ (((n : Int) + 1 + 1) ≤ (n : Int)) := (by omega); have h6' : IntKind.i64.wrap ((n : Int) + 1) = ((n : Int) + 1) := (by rw [IntKind.wrap_i64]; omega); have h5' : ¬ (((n : Int) + 1) ≤ (n : Int)) := (by omega); go_simp⟩) hHeld ?_
  try simp only [Act.put, List.setIfInBounds_toArray, List.set_cons_zero, List.set_cons_succ]
  refine take_d 8 (some 87) (.pointer (some ⟨g7, (n + 1) * 3, none⟩)) rfl (by kernel_rfl) (by kernel_rfl) (by kernel_rfl) (fun _ _ _ h => h) (fun oi h => by cases h; exact Or.inl ⟨by rfl, fun w' hS' => by have h9 : ¬ (((n : Int) + 1 + 1) ≤ 0) := (by omega); have h8 : (0 : Int) ≤ ((n : Int) + 1) := (by omega); have h7' : ¬ (((n : Int) + 1 + 1) ≤ (n : Int)) := (by omega); have h6' : IntKind.i64.wrap ((n : Int) + 1) = ((n : Int) + 1) := (by rw [IntKind.wrap_i64]; omega); have h5' : ¬ (((n : Int) + 1) ≤ (n : Int)) := (by omega); go_simp⟩) hHeld ?_
  try simp only [Act.put, List.setIfInBounds_toArray, List.set_cons_zero, List.set_cons_succ]
  refine take_d 9 (some 88) (.agg #[.int .u64 (N1 : Int), .int .u64 (tk : Int), .string now]) rfl (by kernel_rfl) (by kernel_rfl) (by kernel_rfl) (fun _ _ _ h => h) (fun oi h => by cases h; exact yieldsIf_load_mid (by rfl) 61 (.tmp 87) rfl g7 ((n + 1) * 3) rfl [.int .u64 (N1 : Int), .int .u64 (tk : Int), .string now] _ (fun w' hS' => by have h := (hS'.2.1).load HT.out; simp only [Nat.zero_add, Nat.zero_mul] at h; exact h) Try.underlying61 rfl infoRSt) hHeld ?_
  try simp only [Act.put, List.setIfInBounds_toArray, List.set_cons_zero, List.set_cons_succ]
  refine one_d 10 none rfl (by kernel_rfl) ?_
  intro o ho1 hd K hK
  cases ho1
  refine step_store_row rfl 47 (.tmp 8) (.tmp 79) rfl ((w.heap.size + 1)) ([.slice (some ⟨g7, 0, none⟩) (n + 1 + 1) cap7, .string now, .int .u64 (tk : Int)]) rfl rfl _ _ q8 infoRSn rfl (by simp [Value.oneCell']) ?_
  rw [hd]
  replace q8 := q8.setRow ([.slice (some ⟨g7, 0, none⟩) (n + 1 + 1) cap7, .string now, .int .u64 (tk : Int)])
  replace s9 := s9.setRow_other (k := (w.heap.size + 1)) (by omega) (List.toArray ([.slice (some ⟨g7, 0, none⟩) (n + 1 + 1) cap7, .string now, .int .u64 (tk : Int)]))
  replace s10 := s10.setRow_other (k := (w.heap.size + 1)) (by omega) (List.toArray ([.slice (some ⟨g7, 0, none⟩) (n + 1 + 1) cap7, .string now, .int .u64 (tk : Int)]))
  have hH : Row (wd21.setRow ((w.heap.size + 1)) (List.toArray ([.slice (some ⟨g7, 0, none⟩) (n + 1 + 1) cap7, .string now, .int .u64 (tk : Int)]))) w.heap.size 47 [.slice (some ⟨g7, 0, none⟩) (n + 1 + 1) cap7, .string now, .int .u64 (tk : Int)] ∧ S15.StAt (wd21.setRow ((w.heap.size + 1)) (List.toArray ([.slice (some ⟨g7, 0, none⟩) (n + 1 + 1) cap7, .string now, .int .u64 (tk : Int)]))) g7 0 (L ++ [⟨N1, tk, now⟩]) ∧ Below w.heap.size w (wd21.setRow ((w.heap.size + 1)) (List.toArray ([.slice (some ⟨g7, 0, none⟩) (n + 1 + 1) cap7, .string now, .int .u64 (tk : Int)]))) := ⟨hHeld.1.setRow_other (k := (w.heap.size + 1)) (by omega) (List.toArray ([.slice (some ⟨g7, 0, none⟩) (n + 1 + 1) cap7, .string now, .int .u64 (tk : Int)])), hHeld.2.1.setRow (k := ((w.heap.size + 1))) (by omega) (List.toArray ([.slice (some ⟨g7, 0, none⟩) (n + 1 + 1) cap7, .string now, .int .u64 (tk : Int)])), below_row hHeld.2.2 (show _ ≤ (w.heap.size + 1) by omega) (List.toArray ([.slice (some ⟨g7, 0, none⟩) (n + 1 + 1) cap7, .string now, .int .u64 (tk : Int)]))⟩
  clear hHeld
  generalize wd21.setRow ((w.heap.size + 1)) (List.toArray ([.slice (some ⟨g7, 0, none⟩) (n + 1 + 1) cap7, .string now, .int .u64 (tk : Int)])) = v22 at *
  refine hK.out _ _ hH (fun hHeld => ?_)
  clear hH
  clear hK K hd
  try simp only [Act.put]
  refine one_d 11 none rfl (by kernel_rfl) ?_
  intro o ho1 hd K hK
  cases ho1
  refine step_store_row rfl 61 (.tmp 9) (.tmp 82) rfl ((w.heap.size + 2)) ([.int .u64 (b.num : Int), .int .u64 (b.tick : Int), .string b.tx]) rfl rfl _ _ s9 infoRSt rfl (by simp [Value.oneCell']) ?_
  rw [hd]
  replace q8 := q8.setRow_other (k := (w.heap.size + 2)) (by omega) (List.toArray ([.int .u64 (b.num : Int), .int .u64 (b.tick : Int), .string b.tx]))
  replace s9 := s9.setRow ([.int .u64 (b.num : Int), .int .u64 (b.tick : Int), .string b.tx])
  replace s10 := s10.setRow_other (k := (w.heap.size + 2)) (by omega) (List.toArray ([.int .u64 (b.num : Int), .int .u64 (b.tick : Int), .string b.tx]))
  have hH : Row (v22.setRow ((w.heap.size + 2)) (List.toArray ([.int .u64 (b.num : Int), .int .u64 (b.tick : Int), .string b.tx]))) w.heap.size 47 [.slice (some ⟨g7, 0, none⟩) (n + 1 + 1) cap7, .string now, .int .u64 (tk : Int)] ∧ S15.StAt (v22.setRow ((w.heap.size + 2)) (List.toArray ([.int .u64 (b.num : Int), .int .u64 (b.tick : Int), .string b.tx]))) g7 0 (L ++ [⟨N1, tk, now⟩]) ∧ Below w.heap.size w (v22.setRow ((w.heap.size + 2)) (List.toArray ([.int .u64 (b.num : Int), .int .u64 (b.tick : Int), .string b.tx]))) := ⟨hHeld.1.setRow_other (k := (w.heap.size + 2)) (by omega) (List.toArray ([.int .u64 (b.num : Int), .int .u64 (b.tick : Int), .string b.tx])), hHeld.2.1.setRow (k := ((w.heap.size + 2))) (by omega) (List.toArray ([.int .u64 (b.num : Int), .int .u64 (b.tick : Int), .string b.tx])), below_row hHeld.2.2 (show _ ≤ (w.heap.size + 2) by omega) (List.toArray ([.int .u64 (b.num : Int), .int .u64 (b.tick : Int), .string b.tx]))⟩
  clear hHeld
  generalize v22.setRow ((w.heap.size + 2)) (List.toArray ([.int .u64 (b.num : Int), .int .u64 (b.tick : Int), .string b.tx])) = v23 at *
  refine hK.out _ _ hH (fun hHeld => ?_)
  clear hH
  clear hK K hd
  try simp only [Act.put]
  refine one_d 12 none rfl (by kernel_rfl) ?_
  intro o ho1 hd K hK
  cases ho1
  refine step_store_row rfl 61 (.tmp 10) (.tmp 88) rfl ((w.heap.size + 3)) ([.int .u64 (N1 : Int), .int .u64 (tk : Int), .string now]) rfl rfl _ _ s10 infoRSt rfl (by simp [Value.oneCell']) ?_
  rw [hd]
  replace q8 := q8.setRow_other (k := (w.heap.size + 3)) (by omega) (List.toArray ([.int .u64 (N1 : Int), .int .u64 (tk : Int), .string now]))
  replace s9 := s9.setRow_other (k := (w.heap.size + 3)) (by omega) (List.toArray ([.int .u64 (N1 : Int), .int .u64 (tk : Int), .string now]))
  replace s10 := s10.setRow ([.int .u64 (N1 : Int), .int .u64 (tk : Int), .string now])
  have hH : Row (v23.setRow ((w.heap.size + 3)) (List.toArray ([.int .u64 (N1 : Int), .int .u64 (tk : Int), .string now]))) w.heap.size 47 [.slice (some ⟨g7, 0, none⟩) (n + 1 + 1) cap7, .string now, .int .u64 (tk : Int)] ∧ S15.StAt (v23.setRow ((w.heap.size + 3)) (List.toArray ([.int .u64 (N1 : Int), .int .u64 (tk : Int), .string now]))) g7 0 (L ++ [⟨N1, tk, now⟩]) ∧ Below w.heap.size w (v23.setRow ((w.heap.size + 3)) (List.toArray ([.int .u64 (N1 : Int), .int .u64 (tk : Int), .string now]))) := ⟨hHeld.1.setRow_other (k := (w.heap.size + 3)) (by omega) (List.toArray ([.int .u64 (N1 : Int), .int .u64 (tk : Int), .string now])), hHeld.2.1.setRow (k := ((w.heap.size + 3))) (by omega) (List.toArray ([.int .u64 (N1 : Int), .int .u64 (tk : Int), .string now])), below_row hHeld.2.2 (show _ ≤ (w.heap.size + 3) by omega) (List.toArray ([.int .u64 (N1 : Int), .int .u64 (tk : Int), .string now]))⟩
  clear hHeld
  generalize v23.setRow ((w.heap.size + 3)) (List.toArray ([.int .u64 (N1 : Int), .int .u64 (tk : Int), .string now])) = v24 at *
  refine hK.out _ _ hH (fun hHeld => ?_)
  clear hH
  clear hK K hd
  try simp only [Act.put]
  refine take_d 13 (some 11) (.bool true) rfl (by kernel_rfl) (by kernel_rfl) (by kernel_rfl) (fun _ _ _ h => h) (fun oi h => by cases h; exact Or.inl ⟨by rfl, fun w' hS' => by go_simp⟩) hHeld ?_
  try simp only [Act.put, List.setIfInBounds_toArray]
  refine wpAnyH_done (by kernel_rfl) ?_ _
  try simp only [Act.put]
  replace r4c := hHeld.1
  replace hs := hHeld.2.1
  replace bb := hHeld.2.2
  clear hHeld
  go_wp2
  try simp only [Act.put, List.setIfInBounds_toArray]
  exact bodyPost_ret (results_row3_tmp rfl _ _ (w.heap.size + 1) 47 [.slice (some ⟨g7, 0, none⟩) (n + 1 + 1) cap7, .string now, .int .u64 (tk : Int)] _ (w.heap.size + 2) 61 [.int .u64 (b.num : Int), .int .u64 (b.tick : Int), .string b.tx] _ (w.heap.size + 3) 61 [.int .u64 (N1 : Int), .int .u64 (tk : Int), .string now] _ rfl q8 Try.underlying47 rfl infoRSn rfl s9 Try.underlying61 rfl infoRSt rfl s10 Try.underlying61 rfl infoRSt) rfl ⟨g7, cap7, rfl, hs, by omega, bb⟩
set_option maxHeartbeats 4000000 in
theorem refNext_again (now : ByteArray) (g off n cap last : Nat) (L : List S15.St) (p : S15.St) (w : World) (hn : L.length = n + 1) (h8 : n < 8) (hp : L[n]? = some p) (ha : S15.StAt w g off L) (tk wait beat : Nat) (hw : wait ≤ 18446744073709551615) (hbt : beat ≤ 18446744073709551615) (hl : last ≤ 18446744073709551615) (ht : p.tick ≤ 18446744073709551615) (hd : now = p.tx ∨ (¬ now = p.tx ∧ ¬ n < 7)) (hle : S15.againN n last p.tick wait beat ≤ tk) (b : S15.St) (hb : (L.set n ⟨p.num, tk, p.tx⟩)[0]? = some b) :
    Calls Try.prog 23 #[.agg #[.slice (some ⟨g, off, none⟩) (n + 1) cap, .string now, .int .u64 (last : Int)], .int .u64 (tk : Int), .int .u64 (wait : Int), .int .u64 (beat : Int)] w fun e w' => ∃ g' cap', e = .returned (.tuple #[.agg #[.slice (some ⟨g', 0, none⟩) (n + 1) cap', .string now, .int .u64 (tk : Int)], .agg #[.int .u64 (b.num : Int), .int .u64 (b.tick : Int), .string b.tx], .agg #[.int .u64 (p.num : Int), .int .u64 (tk : Int), .string p.tx], .bool true]) ∧ S15.StAt w' g' 0 (L.set n ⟨p.num, tk, p.tx⟩) ∧ n + 1 ≤ cap' ∧ Below w.heap.size w w' := by
  have A1 := Lib.hid (laterN_any last beat hl hbt)
  have A2 := Lib.hid (laterN_any p.tick wait ht hw)
  unfold S15.againN at hle
  have b1 := S15.addS_le last beat
  have b2 := S15.addS_le p.tick wait
  generalize S15.addS last beat = X at *
  generalize S15.addS p.tick wait = Y at *
  have HB : Hid ((L.set n ⟨p.num, tk, p.tx⟩)[0]? = some b) := hb
  have HT : Hid ((L.set n ⟨p.num, tk, p.tx⟩)[n]? = some ⟨p.num, tk, p.tx⟩) := by show _ = _; rw [List.getElem?_set]; simp [hn]
  have HTk := Lib.hid (S15.cellsL_tick hp tk)
  have HC := Lib.hid (S15.cellsL_get hp (show 1 < 3 by decide))
  clear hb
  rcases hd with d | ⟨d, h7⟩
  · subst d
    have hr0 := ha.load hp
    have la : g < w.heap.size := ha.lt
    have y1 : IntKind.i64.wrap (((n + 1 : Nat) : Int) - 1) = (n : Int) := by rw [IntKind.wrap_i64]; omega
    have y2 : (n : Int) < ((n + 1 : Nat) : Int) := by omega
    obtain ⟨i0, hif, hz0, hz1, hz2⟩ := info_parts infoRStZ
    have r4a : Row ((((w.alloc (.cells #[.slice (some ⟨g, off, none⟩) (n + 1) cap, .string p.tx, .int .u64 (last : Int)] 47 (0, 0))).alloc (.cells #[.slice none 0 0, .string ⟨#[]⟩, .int .u64 0] 47 (0, 0))).alloc (.cells #[.int .u64 0, .int .u64 0, .string ⟨#[]⟩] 61 (0, 0))).alloc (.cells #[.int .u64 0, .int .u64 0, .string ⟨#[]⟩] 61 (0, 0))) w.heap.size 47 [.slice (some ⟨g, off, none⟩) (n + 1) cap, .string p.tx, .int .u64 (last : Int)] := (((Row.new' rfl rfl).alloc _).alloc _).alloc _
    have c15 := r4a.cell 0
    simp only [List.getElem?_cons_zero] at c15
    have ha4 := (((ha.alloc (.cells #[.slice (some ⟨g, off, none⟩) (n + 1) cap, .string p.tx, .int .u64 (last : Int)] 47 (0, 0))).alloc (.cells #[.slice none 0 0, .string ⟨#[]⟩, .int .u64 0] 47 (0, 0))).alloc (.cells #[.int .u64 0, .int .u64 0, .string ⟨#[]⟩] 61 (0, 0))).alloc (.cells #[.int .u64 0, .int .u64 0, .string ⟨#[]⟩] 61 (0, 0))
    have hr2 : ((((w.alloc (.cells #[.slice (some ⟨g, off, none⟩) (n + 1) cap, .string p.tx, .int .u64 (last : Int)] 47 (0, 0))).alloc (.cells #[.slice none 0 0, .string ⟨#[]⟩, .int .u64 0] 47 (0, 0))).alloc (.cells #[.int .u64 0, .int .u64 0, .string ⟨#[]⟩] 61 (0, 0))).alloc (.cells #[.int .u64 0, .int .u64 0, .string ⟨#[]⟩] 61 (0, 0))).rangeAt g (off + n * 3) [.int .u64 (p.num : Int), .int .u64 (p.tick : Int), .string p.tx] := ha4.load hp
    have r4 := r4a.alloc (.cells #[.int .u64 (p.num : Int), .int .u64 (p.tick : Int), .string p.tx] 61 (0, 0))
    have q8 : Row (((((w.alloc (.cells #[.slice (some ⟨g, off, none⟩) (n + 1) cap, .string p.tx, .int .u64 (last : Int)] 47 (0, 0))).alloc (.cells #[.slice none 0 0, .string ⟨#[]⟩, .int .u64 0] 47 (0, 0))).alloc (.cells #[.int .u64 0, .int .u64 0, .string ⟨#[]⟩] 61 (0, 0))).alloc (.cells #[.int .u64 0, .int .u64 0, .string ⟨#[]⟩] 61 (0, 0))).alloc (.cells #[.int .u64 (p.num : Int), .int .u64 (p.tick : Int), .string p.tx] 61 (0, 0))) (w.heap.size + 1) 47 [.slice none 0 0, .string ⟨#[]⟩, .int .u64 0] := (((Row.new' rfl (by simp)).alloc _).alloc _).alloc _
    have s9 : Row (((((w.alloc (.cells #[.slice (some ⟨g, off, none⟩) (n + 1) cap, .string p.tx, .int .u64 (last : Int)] 47 (0, 0))).alloc (.cells #[.slice none 0 0, .string ⟨#[]⟩, .int .u64 0] 47 (0, 0))).alloc (.cells #[.int .u64 0, .int .u64 0, .string ⟨#[]⟩] 61 (0, 0))).alloc (.cells #[.int .u64 0, .int .u64 0, .string ⟨#[]⟩] 61 (0, 0))).alloc (.cells #[.int .u64 (p.num : Int), .int .u64 (p.tick : Int), .string p.tx] 61 (0, 0))) (w.heap.size + 2) 61 [.int .u64 0, .int .u64 0, .string ⟨#[]⟩] := ((Row.new' rfl (by simp)).alloc _).alloc _
    have s10 : Row (((((w.alloc (.cells #[.slice (some ⟨g, off, none⟩) (n + 1) cap, .string p.tx, .int .u64 (last : Int)] 47 (0, 0))).alloc (.cells #[.slice none 0 0, .string ⟨#[]⟩, .int .u64 0] 47 (0, 0))).alloc (.cells #[.int .u64 0, .int .u64 0, .string ⟨#[]⟩] 61 (0, 0))).alloc (.cells #[.int .u64 0, .int .u64 0, .string ⟨#[]⟩] 61 (0, 0))).alloc (.cells #[.int .u64 (p.num : Int), .int .u64 (p.tick : Int), .string p.tx] 61 (0, 0))) (w.heap.size + 3) 61 [.int .u64 0, .int .u64 0, .string ⟨#[]⟩] := (Row.new' rfl (by simp)).alloc _
    have t12 : Row (((((w.alloc (.cells #[.slice (some ⟨g, off, none⟩) (n + 1) cap, .string p.tx, .int .u64 (last : Int)] 47 (0, 0))).alloc (.cells #[.slice none 0 0, .string ⟨#[]⟩, .int .u64 0] 47 (0, 0))).alloc (.cells #[.int .u64 0, .int .u64 0, .string ⟨#[]⟩] 61 (0, 0))).alloc (.cells #[.int .u64 0, .int .u64 0, .string ⟨#[]⟩] 61 (0, 0))).alloc (.cells #[.int .u64 (p.num : Int), .int .u64 (p.tick : Int), .string p.tx] 61 (0, 0))) (w.heap.size + 4) 61 [.int .u64 (p.num : Int), .int .u64 (p.tick : Int), .string p.tx] := Row.new' rfl (by simp)
    have ha5 := ha4.alloc (.cells #[.int .u64 (p.num : Int), .int .u64 (p.tick : Int), .string p.tx] 61 (0, 0))
    have bb : Below w.heap.size w (((((w.alloc (.cells #[.slice (some ⟨g, off, none⟩) (n + 1) cap, .string p.tx, .int .u64 (last : Int)] 47 (0, 0))).alloc (.cells #[.slice none 0 0, .string ⟨#[]⟩, .int .u64 0] 47 (0, 0))).alloc (.cells #[.int .u64 0, .int .u64 0, .string ⟨#[]⟩] 61 (0, 0))).alloc (.cells #[.int .u64 0, .int .u64 0, .string ⟨#[]⟩] 61 (0, 0))).alloc (.cells #[.int .u64 (p.num : Int), .int .u64 (p.tick : Int), .string p.tx] 61 (0, 0))) := (((((Below.refl _ _).alloc (Nat.le_refl _) _).alloc (by simp) _).alloc (by simp; omega) _).alloc (by simp; omega) _).alloc (by simp; omega) _
    have h5 : w.heap.size + 5 ≤ (((((w.alloc (.cells #[.slice (some ⟨g, off, none⟩) (n + 1) cap, .string p.tx, .int .u64 (last : Int)] 47 (0, 0))).alloc (.cells #[.slice none 0 0, .string ⟨#[]⟩, .int .u64 0] 47 (0, 0))).alloc (.cells #[.int .u64 0, .int .u64 0, .string ⟨#[]⟩] 61 (0, 0))).alloc (.cells #[.int .u64 0, .int .u64 0, .string ⟨#[]⟩] 61 (0, 0))).alloc (.cells #[.int .u64 (p.num : Int), .int .u64 (p.tick : Int), .string p.tx] 61 (0, 0))).heap.size := by simp
    have c24 : (((((w.alloc (.cells #[.slice (some ⟨g, off, none⟩) (n + 1) cap, .string p.tx, .int .u64 (last : Int)] 47 (0, 0))).alloc (.cells #[.slice none 0 0, .string ⟨#[]⟩, .int .u64 0] 47 (0, 0))).alloc (.cells #[.int .u64 0, .int .u64 0, .string ⟨#[]⟩] 61 (0, 0))).alloc (.cells #[.int .u64 0, .int .u64 0, .string ⟨#[]⟩] 61 (0, 0))).alloc (.cells #[.int .u64 (p.num : Int), .int .u64 (p.tick : Int), .string p.tx] 61 (0, 0))).cell? ⟨w.heap.size, 0, none⟩ = some (.slice (some ⟨g, off, none⟩) (n + 1) cap) := r4.cell 0
    have hnews : Hid (∀ (j : Nat) (u : Value), (S15.cellsL L)[j]? = some u → (((((w.alloc (.cells #[.slice (some ⟨g, off, none⟩) (n + 1) cap, .string p.tx, .int .u64 (last : Int)] 47 (0, 0))).alloc (.cells #[.slice none 0 0, .string ⟨#[]⟩, .int .u64 0] 47 (0, 0))).alloc (.cells #[.int .u64 0, .int .u64 0, .string ⟨#[]⟩] 61 (0, 0))).alloc (.cells #[.int .u64 0, .int .u64 0, .string ⟨#[]⟩] 61 (0, 0))).alloc (.cells #[.int .u64 (p.num : Int), .int .u64 (p.tick : Int), .string p.tx] 61 (0, 0))).cell? ((⟨g, off, none⟩ : Addr).add j) = some u) := fun j u hj => by rw [S15.addrAdd]; exact ha5.cellAt hj
    have hlen : Hid ((S15.cellsL L).length = (n + 1) * 3) := by show _ = _; rw [S15.cellsL_len, hn]
    have hone := Lib.hid (S15.cellsL_one L)
    have hown0 : (((((w.alloc (.cells #[.slice (some ⟨g, off, none⟩) (n + 1) cap, .string p.tx, .int .u64 (last : Int)] 47 (0, 0))).alloc (.cells #[.slice none 0 0, .string ⟨#[]⟩, .int .u64 0] 47 (0, 0))).alloc (.cells #[.int .u64 0, .int .u64 0, .string ⟨#[]⟩] 61 (0, 0))).alloc (.cells #[.int .u64 0, .int .u64 0, .string ⟨#[]⟩] 61 (0, 0))).alloc (.cells #[.int .u64 (p.num : Int), .int .u64 (p.tick : Int), .string p.tx] 61 (0, 0))).ownsRow (w.heap.size + 5) 61 3 (.slice none 0 0) 0 [] := World.ownsRow_nil _ _ _ _
    have HN := Lib.hid hn
    clear ha ha4 hr0 hn r4a
    go_enter Try.func23, Try.ntmps23
    have tk1 : True := True.intro
    go_wp2_with (first | (refine at_op (.load 61 (.tmp 20)) (by with_reducible rfl) ?_; clear tk1; refine wpList_load_mid rfl 61 (.tmp 20) rfl g (off + n * 3) rfl _ _ hr2 Try.underlying61 rfl infoRSt ?_) | (at_builtin; go_loud (refine wpList_append_own _ rfl _ _ 45 rfl (w.heap.size + 5) 61 i0 _ 3 32 Try.underlying45 hif hz0 hz1 hz2 rfl (by decide) (.slice none 0 0) 0 [] rfl hown0 ⟨g, off, none⟩ (n + 1) cap (S15.cellsL L) rfl hlen.out hnews.out hone.out (by unfold maxLen; omega) (by omega) h5 ?_)))
    intro v6 w6 ho6 hgr _
    have ho6 : w6.ownsRow (w.heap.size + 5) 61 3 v6 (n + 1) (S15.cellsL L) := by simpa using ho6
    replace r4 := r4.grownV3 hgr (fun j hj => by cases hj)
    replace q8 := q8.grownV3 hgr (fun j hj => by cases hj)
    replace s9 := s9.grownV3 hgr (fun j hj => by cases hj)
    replace s10 := s10.grownV3 hgr (fun j hj => by cases hj)
    replace t12 := t12.grownV3 hgr (fun j hj => by cases hj)
    replace bb := bb.grown hgr (by omega) (fun j hj => by cases hj)
    have h6 : w.heap.size + 5 ≤ w6.heap.size := Nat.le_trans h5 hgr.size
    clear hgr hown0 hnews hlen hone c24 hr2 c15 ha5 h5
    obtain ⟨g6, cap6, rfl, hg1, hg2, hg3, hg4⟩ := S15.own_slice ho6
    have c27 : w6.cell? ⟨w.heap.size, 1, none⟩ = some (.string p.tx) := r4.cell 1
    have c29 : w6.cell? ⟨w.heap.size + 4, 2, none⟩ = some (.string p.tx) := t12.cell 2
    have c52 : w6.cell? ⟨w.heap.size + 4, 1, none⟩ = some (.int .u64 (p.tick : Int)) := t12.cell 1
    have c60 : w6.cell? ⟨w.heap.size, 2, none⟩ = some (.int .u64 (last : Int)) := r4.cell 2
    have hc := (ho6.cellAt (n * 3 + 1) (by omega)).trans HC.out
    simp only [S15.St.c, List.getElem?_cons_zero, List.getElem?_cons_succ] at hc
    have hf := ho6.frozenAt (n * 3 + 1)
    have hst := (ho6.stored (n * 3 + 1) (.int .u64 (tk : Int))).1
    rw [HTk.out] at hst
    have hs := S15.StAt.of_owns hst
    clear hst ho6 t12
    have r4' := r4.other (k := g6) (i := n * 3 + 1) (by omega) (.int .u64 (tk : Int))
    have q8' := q8.other (k := g6) (i := n * 3 + 1) (by omega) (.int .u64 (tk : Int))
    have s9' := s9.other (k := g6) (i := n * 3 + 1) (by omega) (.int .u64 (tk : Int))
    have s10' := s10.other (k := g6) (i := n * 3 + 1) (by omega) (.int .u64 (tk : Int))
    have bb' := bb.setCell (p := ⟨g6, n * 3 + 1, none⟩) (by show _ ≤ g6; omega) (.int .u64 (tk : Int))
    clear r4 q8 s9 s10 bb
    have r4 := r4'
    have q8 := q8'
    have s9 := s9'
    have s10 := s10'
    have bb := bb'
    clear r4' q8' s9' s10' bb'
    by_cases hc0 : n = 0
    · rw [if_pos hc0] at hle
      have e1 : ¬ (1 : Int) < ((n + 1 : Nat) : Int) := by omega
      have e2 : (X : Int) ≤ (tk : Int) := by omega
      clear hc0 hle
      go_wp2_with fail
      refine (A1.out _).mono ?_
      rintro e wq ⟨rfl, hq⟩
      obtain rfl := hq.symm
      have c0 := r4.cell 0
      have f0 := r4.frozen 0
      simp only [List.getElem?_cons_zero] at c0
      have r4b := r4.set 0 (.slice (some ⟨g6, 0, none⟩) (n + 1) cap6)
      simp only [List.set_cons_zero] at r4b
      have c2 := r4b.cell 2
      have f2 := r4b.frozen 2
      simp only [List.getElem?_cons_zero, List.getElem?_cons_succ] at c2
      have r4c := r4b.set 2 (.int .u64 (tk : Int))
      simp only [List.set_cons_succ, List.set_cons_zero] at r4c
      replace q8 := (q8.other (k := w.heap.size) (i := 0) (by omega) (.slice (some ⟨g6, 0, none⟩) (n + 1) cap6)).other (k := w.heap.size) (i := 2) (by omega) (.int .u64 (tk : Int))
      replace s9 := (s9.other (k := w.heap.size) (i := 0) (by omega) (.slice (some ⟨g6, 0, none⟩) (n + 1) cap6)).other (k := w.heap.size) (i := 2) (by omega) (.int .u64 (tk : Int))
      replace s10 := (s10.other (k := w.heap.size) (i := 0) (by omega) (.slice (some ⟨g6, 0, none⟩) (n + 1) cap6)).other (k := w.heap.size) (i := 2) (by omega) (.int .u64 (tk : Int))
      replace hs := (hs.other (k := w.heap.size) (i := 0) (by omega) (.slice (some ⟨g6, 0, none⟩) (n + 1) cap6)).other (k := w.heap.size) (i := 2) (by omega) (.int .u64 (tk : Int))
      replace bb := (bb.setCell (p := ⟨w.heap.size, 0, none⟩) (Nat.le_refl _) (.slice (some ⟨g6, 0, none⟩) (n + 1) cap6)).setCell (p := ⟨w.heap.size, 2, none⟩) (Nat.le_refl _) (.int .u64 (tk : Int))
      clear r4 r4b
      go_wp2
      generalize ((w6.setCell ⟨g6, n * 3 + 1, none⟩ (.int .u64 (tk : Int))).setCell ⟨w.heap.size, 0, none⟩ (.slice (some ⟨g6, 0, none⟩) (n + 1) cap6)).setCell ⟨w.heap.size, 2, none⟩ (.int .u64 (tk : Int)) = wt at *
      clear c0 f0 c2 f2
      have z1 : IntKind.i64.wrap (((n + 1 : Nat) : Int) - 1) = ((n : Nat) : Int) := by rw [IntKind.wrap_i64]; omega
      have z2 : ((n : Nat) : Int) < ((n + 1 : Nat) : Int) := by omega
      have z3 : (0 : Int) < ((n + 1 : Nat) : Int) := by omega
      refine wp_region_held_drew (S := fun w' => Row w' w.heap.size 47 [.slice (some ⟨g6, 0, none⟩) (n + 1) cap6, .string p.tx, .int .u64 (tk : Int)] ∧ S15.StAt w' g6 0 (L.set n ⟨p.num, tk, p.tx⟩) ∧ Below w.heap.size w w') (by kernel_rfl) (⟨r4c.drew, hs.drew, bb.drew⟩) (fun hHeld => ?_)
      replace q8 := q8.drew
      replace s9 := s9.drew
      replace s10 := s10.drew
      generalize wt.drew = wd21 at *
      refine take_d 0 (some 79) (.agg #[.slice (some ⟨g6, 0, none⟩) (n + 1) cap6, .string p.tx, .int .u64 (tk : Int)]) rfl (by kernel_rfl) (by kernel_rfl) (by kernel_rfl) (fun _ _ _ h => h) (fun oi h => by cases h; exact yieldsIf_load_mid (by rfl) 47 (.tmp 4) rfl w.heap.size 0 rfl ([.slice (some ⟨g6, 0, none⟩) (n + 1) cap6, .string p.tx, .int .u64 (tk : Int)]) _ (fun w' hS' => hS'.1.range) Try.underlying47 rfl infoRSn) hHeld ?_
      try simp only [Act.put, List.setIfInBounds_toArray, List.set_cons_zero, List.set_cons_succ]
      refine take_d 1 (some 80) (.slice (some ⟨g6, 0, none⟩) (n + 1) cap6) rfl (by kernel_rfl) (by kernel_rfl) (by kernel_rfl) (fun _ _ _ h => h) (fun oi h => by cases h; exact Or.inl ⟨by rfl, fun w' hS' => by go_simp⟩) hHeld ?_
      try simp only [Act.put, List.setIfInBounds_toArray, List.set_cons_zero, List.set_cons_succ]
      refine take_d 2 (some 81) (.pointer (some ⟨g6, 0, none⟩)) rfl (by kernel_rfl) (by kernel_rfl) (by kernel_rfl) (fun _ _ _ h => h) (fun oi h => by cases h; exact Or.inl ⟨by rfl, fun w' hS' => by have h9 : ¬ (((n : Int) + 1) ≤ 0) := (by omega); have h8 : (0 : Int) ≤ (n : Int) := (by omega); have h7' : ¬ (((n : Int) + 1) ≤ (n : Int)) := (by omega); have h6' : IntKind.i64.wrap (n : Int) = (n : Int) := (by rw [IntKind.wrap_i64]; omega); go_simp⟩) hHeld ?_
      try simp only [Act.put, List.setIfInBounds_toArray, List.set_cons_zero, List.set_cons_succ]
      refine take_d 3 (some 82) (.agg #[.int .u64 (b.num : Int), .int .u64 (b.tick : Int), .string b.tx]) rfl (by kernel_rfl) (by kernel_rfl) (by kernel_rfl) (fun _ _ _ h => h) (fun oi h => by cases h; exact yieldsIf_load_mid (by rfl) 61 (.tmp 81) rfl g6 (0) rfl [.int .u64 (b.num : Int), .int .u64 (b.tick : Int), .string b.tx] _ (fun w' hS' => by have h := (hS'.2.1).load HB.out; simp only [Nat.zero_add, Nat.zero_mul] at h; exact h) Try.underlying61 rfl infoRSt) hHeld ?_
      try simp only [Act.put, List.setIfInBounds_toArray, List.set_cons_zero, List.set_cons_succ]
      refine take_d 4 (some 83) (.slice (some ⟨g6, 0, none⟩) (n + 1) cap6) rfl (by kernel_rfl) (by kernel_rfl) (by kernel_rfl) (fun _ _ _ h => h) (fun oi h => by cases h; exact Or.inl ⟨by rfl, fun w' hS' => by go_simp⟩) hHeld ?_
      try simp only [Act.put, List.setIfInBounds_toArray, List.set_cons_zero, List.set_cons_succ]
      refine take_d 5 (some 84) (.slice (some ⟨g6, 0, none⟩) (n + 1) cap6) rfl (by kernel_rfl) (by kernel_rfl) (by kernel_rfl) (fun _ _ _ h => h) (fun oi h => by cases h; exact Or.inl ⟨by rfl, fun w' hS' => by go_simp⟩) hHeld ?_
      try simp only [Act.put, List.setIfInBounds_toArray, List.set_cons_zero, List.set_cons_succ]
      refine take_d 6 (some 85) (.int .i64 ((n + 1 : Nat) : Int)) rfl (by kernel_rfl) (by kernel_rfl) (by kernel_rfl) (fun _ _ _ h => h) (fun oi h => by cases h; exact Or.inl ⟨by rfl, fun w' hS' => by go_simp⟩) hHeld ?_
      try simp only [Act.put, List.setIfInBounds_toArray, List.set_cons_zero, List.set_cons_succ]
      refine take_d 7 (some 86) (.int .i64 ((n : Nat) : Int)) rfl (by kernel_rfl) (by kernel_rfl) (by kernel_rfl) (fun _ _ _ h => h) (fun oi h => by cases h; exact Or.inl ⟨by rfl, fun w' hS' => by have h9 : ¬ (((n : Int) + 1) ≤ 0) := (by omega); have h8 : (0 : Int) ≤ (n : Int) := (by omega); have h7' : ¬ (((n : Int) + 1) ≤ (n : Int)) := (by omega); have h6' : IntKind.i64.wrap (n : Int) = (n : Int) := (by rw [IntKind.wrap_i64]; omega); go_simp⟩) hHeld ?_
      try simp only [Act.put, List.setIfInBounds_toArray, List.set_cons_zero, List.set_cons_succ]
      refine take_d 8 (some 87) (.pointer (some ⟨g6, (n) * 3, none⟩)) rfl (by kernel_rfl) (by kernel_rfl) (by kernel_rfl) (fun _ _ _ h => h) (fun oi h => by cases h; exact Or.inl ⟨by rfl, fun w' hS' => by have h9 : ¬ (((n : Int) + 1) ≤ 0) := (by omega); have h8 : (0 : Int) ≤ (n : Int) := (by omega); have h7' : ¬ (((n : Int) + 1) ≤ (n : Int)) := (by omega); have h6' : IntKind.i64.wrap (n : Int) = (n : Int) := (by rw [IntKind.wrap_i64]; omega); go_simp⟩) hHeld ?_
      try simp only [Act.put, List.setIfInBounds_toArray, List.set_cons_zero, List.set_cons_succ]
      refine take_d 9 (some 88) (.agg #[.int .u64 (p.num : Int), .int .u64 (tk : Int), .string p.tx]) rfl (by kernel_rfl) (by kernel_rfl) (by kernel_rfl) (fun _ _ _ h => h) (fun oi h => by cases h; exact yieldsIf_load_mid (by rfl) 61 (.tmp 87) rfl g6 ((n) * 3) rfl [.int .u64 (p.num : Int), .int .u64 (tk : Int), .string p.tx] _ (fun w' hS' => by have h := (hS'.2.1).load HT.out; simp only [Nat.zero_add, Nat.zero_mul] at h; exact h) Try.underlying61 rfl infoRSt) hHeld ?_
      try simp only [Act.put, List.setIfInBounds_toArray, List.set_cons_zero, List.set_cons_succ]
      refine one_d 10 none rfl (by kernel_rfl) ?_
      intro o ho1 hd K hK
      cases ho1
      refine step_store_row rfl 47 (.tmp 8) (.tmp 79) rfl ((w.heap.size + 1)) ([.slice (some ⟨g6, 0, none⟩) (n + 1) cap6, .string p.tx, .int .u64 (tk : Int)]) rfl rfl _ _ q8 infoRSn rfl (by simp [Value.oneCell']) ?_
      rw [hd]
      replace q8 := q8.setRow ([.slice (some ⟨g6, 0, none⟩) (n + 1) cap6, .string p.tx, .int .u64 (tk : Int)])
      replace s9 := s9.setRow_other (k := (w.heap.size + 1)) (by omega) (List.toArray ([.slice (some ⟨g6, 0, none⟩) (n + 1) cap6, .string p.tx, .int .u64 (tk : Int)]))
      replace s10 := s10.setRow_other (k := (w.heap.size + 1)) (by omega) (List.toArray ([.slice (some ⟨g6, 0, none⟩) (n + 1) cap6, .string p.tx, .int .u64 (tk : Int)]))
      have hH : Row (wd21.setRow ((w.heap.size + 1)) (List.toArray ([.slice (some ⟨g6, 0, none⟩) (n + 1) cap6, .string p.tx, .int .u64 (tk : Int)]))) w.heap.size 47 [.slice (some ⟨g6, 0, none⟩) (n + 1) cap6, .string p.tx, .int .u64 (tk : Int)] ∧ S15.StAt (wd21.setRow ((w.heap.size + 1)) (List.toArray ([.slice (some ⟨g6, 0, none⟩) (n + 1) cap6, .string p.tx, .int .u64 (tk : Int)]))) g6 0 (L.set n ⟨p.num, tk, p.tx⟩) ∧ Below w.heap.size w (wd21.setRow ((w.heap.size + 1)) (List.toArray ([.slice (some ⟨g6, 0, none⟩) (n + 1) cap6, .string p.tx, .int .u64 (tk : Int)]))) := ⟨hHeld.1.setRow_other (k := (w.heap.size + 1)) (by omega) (List.toArray ([.slice (some ⟨g6, 0, none⟩) (n + 1) cap6, .string p.tx, .int .u64 (tk : Int)])), hHeld.2.1.setRow (k := ((w.heap.size + 1))) (by omega) (List.toArray ([.slice (some ⟨g6, 0, none⟩) (n + 1) cap6, .string p.tx, .int .u64 (tk : Int)])), below_row hHeld.2.2 (show _ ≤ (w.heap.size + 1) by omega) (List.toArray ([.slice (some ⟨g6, 0, none⟩) (n + 1) cap6, .string p.tx, .int .u64 (tk : Int)]))⟩
      clear hHeld
      generalize wd21.setRow ((w.heap.size + 1)) (List.toArray ([.slice (some ⟨g6, 0, none⟩) (n + 1) cap6, .string p.tx, .int .u64 (tk : Int)])) = v22 at *
      refine hK.out _ _ hH (fun hHeld => ?_)
      clear hH
      clear hK K hd
      try simp only [Act.put]
      refine one_d 11 none rfl (by kernel_rfl) ?_
      intro o ho1 hd K hK
      cases ho1
      refine step_store_row rfl 61 (.tmp 9) (.tmp 82) rfl ((w.heap.size + 2)) ([.int .u64 (b.num : Int), .int .u64 (b.tick : Int), .string b.tx]) rfl rfl _ _ s9 infoRSt rfl (by simp [Value.oneCell']) ?_
      rw [hd]
      replace q8 := q8.setRow_other (k := (w.heap.size + 2)) (by omega) (List.toArray ([.int .u64 (b.num : Int), .int .u64 (b.tick : Int), .string b.tx]))
      replace s9 := s9.setRow ([.int .u64 (b.num : Int), .int .u64 (b.tick : Int), .string b.tx])
      replace s10 := s10.setRow_other (k := (w.heap.size + 2)) (by omega) (List.toArray ([.int .u64 (b.num : Int), .int .u64 (b.tick : Int), .string b.tx]))
      have hH : Row (v22.setRow ((w.heap.size + 2)) (List.toArray ([.int .u64 (b.num : Int), .int .u64 (b.tick : Int), .string b.tx]))) w.heap.size 47 [.slice (some ⟨g6, 0, none⟩) (n + 1) cap6, .string p.tx, .int .u64 (tk : Int)] ∧ S15.StAt (v22.setRow ((w.heap.size + 2)) (List.toArray ([.int .u64 (b.num : Int), .int .u64 (b.tick : Int), .string b.tx]))) g6 0 (L.set n ⟨p.num, tk, p.tx⟩) ∧ Below w.heap.size w (v22.setRow ((w.heap.size + 2)) (List.toArray ([.int .u64 (b.num : Int), .int .u64 (b.tick : Int), .string b.tx]))) := ⟨hHeld.1.setRow_other (k := (w.heap.size + 2)) (by omega) (List.toArray ([.int .u64 (b.num : Int), .int .u64 (b.tick : Int), .string b.tx])), hHeld.2.1.setRow (k := ((w.heap.size + 2))) (by omega) (List.toArray ([.int .u64 (b.num : Int), .int .u64 (b.tick : Int), .string b.tx])), below_row hHeld.2.2 (show _ ≤ (w.heap.size + 2) by omega) (List.toArray ([.int .u64 (b.num : Int), .int .u64 (b.tick : Int), .string b.tx]))⟩
      clear hHeld
      generalize v22.setRow ((w.heap.size + 2)) (List.toArray ([.int .u64 (b.num : Int), .int .u64 (b.tick : Int), .string b.tx])) = v23 at *
      refine hK.out _ _ hH (fun hHeld => ?_)
      clear hH
      clear hK K hd
      try simp only [Act.put]
      refine one_d 12 none rfl (by kernel_rfl) ?_
      intro o ho1 hd K hK
      cases ho1
      refine step_store_row rfl 61 (.tmp 10) (.tmp 88) rfl ((w.heap.size + 3)) ([.int .u64 (p.num : Int), .int .u64 (tk : Int), .string p.tx]) rfl rfl _ _ s10 infoRSt rfl (by simp [Value.oneCell']) ?_
      rw [hd]
      replace q8 := q8.setRow_other (k := (w.heap.size + 3)) (by omega) (List.toArray ([.int .u64 (p.num : Int), .int .u64 (tk : Int), .string p.tx]))
      replace s9 := s9.setRow_other (k := (w.heap.size + 3)) (by omega) (List.toArray ([.int .u64 (p.num : Int), .int .u64 (tk : Int), .string p.tx]))
      replace s10 := s10.setRow ([.int .u64 (p.num : Int), .int .u64 (tk : Int), .string p.tx])
      have hH : Row (v23.setRow ((w.heap.size + 3)) (List.toArray ([.int .u64 (p.num : Int), .int .u64 (tk : Int), .string p.tx]))) w.heap.size 47 [.slice (some ⟨g6, 0, none⟩) (n + 1) cap6, .string p.tx, .int .u64 (tk : Int)] ∧ S15.StAt (v23.setRow ((w.heap.size + 3)) (List.toArray ([.int .u64 (p.num : Int), .int .u64 (tk : Int), .string p.tx]))) g6 0 (L.set n ⟨p.num, tk, p.tx⟩) ∧ Below w.heap.size w (v23.setRow ((w.heap.size + 3)) (List.toArray ([.int .u64 (p.num : Int), .int .u64 (tk : Int), .string p.tx]))) := ⟨hHeld.1.setRow_other (k := (w.heap.size + 3)) (by omega) (List.toArray ([.int .u64 (p.num : Int), .int .u64 (tk : Int), .string p.tx])), hHeld.2.1.setRow (k := ((w.heap.size + 3))) (by omega) (List.toArray ([.int .u64 (p.num : Int), .int .u64 (tk : Int), .string p.tx])), below_row hHeld.2.2 (show _ ≤ (w.heap.size + 3) by omega) (List.toArray ([.int .u64 (p.num : Int), .int .u64 (tk : Int), .string p.tx]))⟩
      clear hHeld
      generalize v23.setRow ((w.heap.size + 3)) (List.toArray ([.int .u64 (p.num : Int), .int .u64 (tk : Int), .string p.tx])) = v24 at *
      refine hK.out _ _ hH (fun hHeld => ?_)
      clear hH
      clear hK K hd
      try simp only [Act.put]
      refine take_d 13 (some 11) (.bool true) rfl (by kernel_rfl) (by kernel_rfl) (by kernel_rfl) (fun _ _ _ h => h) (fun oi h => by cases h; exact Or.inl ⟨by rfl, fun w' hS' => by go_simp⟩) hHeld ?_
      try simp only [Act.put, List.setIfInBounds_toArray]
      refine wpAnyH_done (by kernel_rfl) ?_ _
      try simp only [Act.put]
      replace r4c := hHeld.1
      replace hs := hHeld.2.1
      replace bb := hHeld.2.2
      clear hHeld
      go_wp2
      try simp only [Act.put, List.setIfInBounds_toArray]
      exact bodyPost_ret (results_row3_tmp rfl _ _ (w.heap.size + 1) 47 [.slice (some ⟨g6, 0, none⟩) (n + 1) cap6, .string p.tx, .int .u64 (tk : Int)] _ (w.heap.size + 2) 61 [.int .u64 (b.num : Int), .int .u64 (b.tick : Int), .string b.tx] _ (w.heap.size + 3) 61 [.int .u64 (p.num : Int), .int .u64 (tk : Int), .string p.tx] _ rfl q8 Try.underlying47 rfl infoRSn rfl s9 Try.underlying61 rfl infoRSt rfl s10 Try.underlying61 rfl infoRSt) rfl ⟨g6, cap6, rfl, hs, by omega, bb⟩
    · rw [if_neg hc0] at hle
      have e1 : (1 : Int) < ((n + 1 : Nat) : Int) := by omega
      clear hc0
      by_cases hY : Y ≤ tk
      · have e2 : (Y : Int) ≤ (tk : Int) := by omega
        clear hle
        go_wp2_with fail
        refine (A2.out _).mono ?_
        rintro e wq ⟨rfl, hq⟩
        obtain rfl := hq.symm
        have c0 := r4.cell 0
        have f0 := r4.frozen 0
        simp only [List.getElem?_cons_zero] at c0
        have r4b := r4.set 0 (.slice (some ⟨g6, 0, none⟩) (n + 1) cap6)
        simp only [List.set_cons_zero] at r4b
        have c2 := r4b.cell 2
        have f2 := r4b.frozen 2
        simp only [List.getElem?_cons_zero, List.getElem?_cons_succ] at c2
        have r4c := r4b.set 2 (.int .u64 (tk : Int))
        simp only [List.set_cons_succ, List.set_cons_zero] at r4c
        replace q8 := (q8.other (k := w.heap.size) (i := 0) (by omega) (.slice (some ⟨g6, 0, none⟩) (n + 1) cap6)).other (k := w.heap.size) (i := 2) (by omega) (.int .u64 (tk : Int))
        replace s9 := (s9.other (k := w.heap.size) (i := 0) (by omega) (.slice (some ⟨g6, 0, none⟩) (n + 1) cap6)).other (k := w.heap.size) (i := 2) (by omega) (.int .u64 (tk : Int))
        replace s10 := (s10.other (k := w.heap.size) (i := 0) (by omega) (.slice (some ⟨g6, 0, none⟩) (n + 1) cap6)).other (k := w.heap.size) (i := 2) (by omega) (.int .u64 (tk : Int))
        replace hs := (hs.other (k := w.heap.size) (i := 0) (by omega) (.slice (some ⟨g6, 0, none⟩) (n + 1) cap6)).other (k := w.heap.size) (i := 2) (by omega) (.int .u64 (tk : Int))
        replace bb := (bb.setCell (p := ⟨w.heap.size, 0, none⟩) (Nat.le_refl _) (.slice (some ⟨g6, 0, none⟩) (n + 1) cap6)).setCell (p := ⟨w.heap.size, 2, none⟩) (Nat.le_refl _) (.int .u64 (tk : Int))
        clear r4 r4b
        go_wp2
        generalize ((w6.setCell ⟨g6, n * 3 + 1, none⟩ (.int .u64 (tk : Int))).setCell ⟨w.heap.size, 0, none⟩ (.slice (some ⟨g6, 0, none⟩) (n + 1) cap6)).setCell ⟨w.heap.size, 2, none⟩ (.int .u64 (tk : Int)) = wt at *
        clear c0 f0 c2 f2
        have z1 : IntKind.i64.wrap (((n + 1 : Nat) : Int) - 1) = ((n : Nat) : Int) := by rw [IntKind.wrap_i64]; omega
        have z2 : ((n : Nat) : Int) < ((n + 1 : Nat) : Int) := by omega
        have z3 : (0 : Int) < ((n + 1 : Nat) : Int) := by omega
        refine wp_region_held_drew (S := fun w' => Row w' w.heap.size 47 [.slice (some ⟨g6, 0, none⟩) (n + 1) cap6, .string p.tx, .int .u64 (tk : Int)] ∧ S15.StAt w' g6 0 (L.set n ⟨p.num, tk, p.tx⟩) ∧ Below w.heap.size w w') (by kernel_rfl) (⟨r4c.drew, hs.drew, bb.drew⟩) (fun hHeld => ?_)
        replace q8 := q8.drew
        replace s9 := s9.drew
        replace s10 := s10.drew
        generalize wt.drew = wd21 at *
        refine take_d 0 (some 79) (.agg #[.slice (some ⟨g6, 0, none⟩) (n + 1) cap6, .string p.tx, .int .u64 (tk : Int)]) rfl (by kernel_rfl) (by kernel_rfl) (by kernel_rfl) (fun _ _ _ h => h) (fun oi h => by cases h; exact yieldsIf_load_mid (by rfl) 47 (.tmp 4) rfl w.heap.size 0 rfl ([.slice (some ⟨g6, 0, none⟩) (n + 1) cap6, .string p.tx, .int .u64 (tk : Int)]) _ (fun w' hS' => hS'.1.range) Try.underlying47 rfl infoRSn) hHeld ?_
        try simp only [Act.put, List.setIfInBounds_toArray, List.set_cons_zero, List.set_cons_succ]
        refine take_d 1 (some 80) (.slice (some ⟨g6, 0, none⟩) (n + 1) cap6) rfl (by kernel_rfl) (by kernel_rfl) (by kernel_rfl) (fun _ _ _ h => h) (fun oi h => by cases h; exact Or.inl ⟨by rfl, fun w' hS' => by go_simp⟩) hHeld ?_
        try simp only [Act.put, List.setIfInBounds_toArray, List.set_cons_zero, List.set_cons_succ]
        refine take_d 2 (some 81) (.pointer (some ⟨g6, 0, none⟩)) rfl (by kernel_rfl) (by kernel_rfl) (by kernel_rfl) (fun _ _ _ h => h) (fun oi h => by cases h; exact Or.inl ⟨by rfl, fun w' hS' => by have h9 : ¬ (((n : Int) + 1) ≤ 0) := (by omega); have h8 : (0 : Int) ≤ (n : Int) := (by omega); have h7' : ¬ (((n : Int) + 1) ≤ (n : Int)) := (by omega); have h6' : IntKind.i64.wrap (n : Int) = (n : Int) := (by rw [IntKind.wrap_i64]; omega); go_simp⟩) hHeld ?_
        try simp only [Act.put, List.setIfInBounds_toArray, List.set_cons_zero, List.set_cons_succ]
        refine take_d 3 (some 82) (.agg #[.int .u64 (b.num : Int), .int .u64 (b.tick : Int), .string b.tx]) rfl (by kernel_rfl) (by kernel_rfl) (by kernel_rfl) (fun _ _ _ h => h) (fun oi h => by cases h; exact yieldsIf_load_mid (by rfl) 61 (.tmp 81) rfl g6 (0) rfl [.int .u64 (b.num : Int), .int .u64 (b.tick : Int), .string b.tx] _ (fun w' hS' => by have h := (hS'.2.1).load HB.out; simp only [Nat.zero_add, Nat.zero_mul] at h; exact h) Try.underlying61 rfl infoRSt) hHeld ?_
        try simp only [Act.put, List.setIfInBounds_toArray, List.set_cons_zero, List.set_cons_succ]
        refine take_d 4 (some 83) (.slice (some ⟨g6, 0, none⟩) (n + 1) cap6) rfl (by kernel_rfl) (by kernel_rfl) (by kernel_rfl) (fun _ _ _ h => h) (fun oi h => by cases h; exact Or.inl ⟨by rfl, fun w' hS' => by go_simp⟩) hHeld ?_
        try simp only [Act.put, List.setIfInBounds_toArray, List.set_cons_zero, List.set_cons_succ]
        refine take_d 5 (some 84) (.slice (some ⟨g6, 0, none⟩) (n + 1) cap6) rfl (by kernel_rfl) (by kernel_rfl) (by kernel_rfl) (fun _ _ _ h => h) (fun oi h => by cases h; exact Or.inl ⟨by rfl, fun w' hS' => by go_simp⟩) hHeld ?_
        try simp only [Act.put, List.setIfInBounds_toArray, List.set_cons_zero, List.set_cons_succ]
        refine take_d 6 (some 85) (.int .i64 ((n + 1 : Nat) : Int)) rfl (by kernel_rfl) (by kernel_rfl) (by kernel_rfl) (fun _ _ _ h => h) (fun oi h => by cases h; exact Or.inl ⟨by rfl, fun w' hS' => by go_simp⟩) hHeld ?_
        try simp only [Act.put, List.setIfInBounds_toArray, List.set_cons_zero, List.set_cons_succ]
        refine take_d 7 (some 86) (.int .i64 ((n : Nat) : Int)) rfl (by kernel_rfl) (by kernel_rfl) (by kernel_rfl) (fun _ _ _ h => h) (fun oi h => by cases h; exact Or.inl ⟨by rfl, fun w' hS' => by have h9 : ¬ (((n : Int) + 1) ≤ 0) := (by omega); have h8 : (0 : Int) ≤ (n : Int) := (by omega); have h7' : ¬ (((n : Int) + 1) ≤ (n : Int)) := (by omega); have h6' : IntKind.i64.wrap (n : Int) = (n : Int) := (by rw [IntKind.wrap_i64]; omega); go_simp⟩) hHeld ?_
        try simp only [Act.put, List.setIfInBounds_toArray, List.set_cons_zero, List.set_cons_succ]
        refine take_d 8 (some 87) (.pointer (some ⟨g6, (n) * 3, none⟩)) rfl (by kernel_rfl) (by kernel_rfl) (by kernel_rfl) (fun _ _ _ h => h) (fun oi h => by cases h; exact Or.inl ⟨by rfl, fun w' hS' => by have h9 : ¬ (((n : Int) + 1) ≤ 0) := (by omega); have h8 : (0 : Int) ≤ (n : Int) := (by omega); have h7' : ¬ (((n : Int) + 1) ≤ (n : Int)) := (by omega); have h6' : IntKind.i64.wrap (n : Int) = (n : Int) := (by rw [IntKind.wrap_i64]; omega); go_simp⟩) hHeld ?_
        try simp only [Act.put, List.setIfInBounds_toArray, List.set_cons_zero, List.set_cons_succ]
        refine take_d 9 (some 88) (.agg #[.int .u64 (p.num : Int), .int .u64 (tk : Int), .string p.tx]) rfl (by kernel_rfl) (by kernel_rfl) (by kernel_rfl) (fun _ _ _ h => h) (fun oi h => by cases h; exact yieldsIf_load_mid (by rfl) 61 (.tmp 87) rfl g6 ((n) * 3) rfl [.int .u64 (p.num : Int), .int .u64 (tk : Int), .string p.tx] _ (fun w' hS' => by have h := (hS'.2.1).load HT.out; simp only [Nat.zero_add, Nat.zero_mul] at h; exact h) Try.underlying61 rfl infoRSt) hHeld ?_
        try simp only [Act.put, List.setIfInBounds_toArray, List.set_cons_zero, List.set_cons_succ]
        refine one_d 10 none rfl (by kernel_rfl) ?_
        intro o ho1 hd K hK
        cases ho1
        refine step_store_row rfl 47 (.tmp 8) (.tmp 79) rfl ((w.heap.size + 1)) ([.slice (some ⟨g6, 0, none⟩) (n + 1) cap6, .string p.tx, .int .u64 (tk : Int)]) rfl rfl _ _ q8 infoRSn rfl (by simp [Value.oneCell']) ?_
        rw [hd]
        replace q8 := q8.setRow ([.slice (some ⟨g6, 0, none⟩) (n + 1) cap6, .string p.tx, .int .u64 (tk : Int)])
        replace s9 := s9.setRow_other (k := (w.heap.size + 1)) (by omega) (List.toArray ([.slice (some ⟨g6, 0, none⟩) (n + 1) cap6, .string p.tx, .int .u64 (tk : Int)]))
        replace s10 := s10.setRow_other (k := (w.heap.size + 1)) (by omega) (List.toArray ([.slice (some ⟨g6, 0, none⟩) (n + 1) cap6, .string p.tx, .int .u64 (tk : Int)]))
        have hH : Row (wd21.setRow ((w.heap.size + 1)) (List.toArray ([.slice (some ⟨g6, 0, none⟩) (n + 1) cap6, .string p.tx, .int .u64 (tk : Int)]))) w.heap.size 47 [.slice (some ⟨g6, 0, none⟩) (n + 1) cap6, .string p.tx, .int .u64 (tk : Int)] ∧ S15.StAt (wd21.setRow ((w.heap.size + 1)) (List.toArray ([.slice (some ⟨g6, 0, none⟩) (n + 1) cap6, .string p.tx, .int .u64 (tk : Int)]))) g6 0 (L.set n ⟨p.num, tk, p.tx⟩) ∧ Below w.heap.size w (wd21.setRow ((w.heap.size + 1)) (List.toArray ([.slice (some ⟨g6, 0, none⟩) (n + 1) cap6, .string p.tx, .int .u64 (tk : Int)]))) := ⟨hHeld.1.setRow_other (k := (w.heap.size + 1)) (by omega) (List.toArray ([.slice (some ⟨g6, 0, none⟩) (n + 1) cap6, .string p.tx, .int .u64 (tk : Int)])), hHeld.2.1.setRow (k := ((w.heap.size + 1))) (by omega) (List.toArray ([.slice (some ⟨g6, 0, none⟩) (n + 1) cap6, .string p.tx, .int .u64 (tk : Int)])), below_row hHeld.2.2 (show _ ≤ (w.heap.size + 1) by omega) (List.toArray ([.slice (some ⟨g6, 0, none⟩) (n + 1) cap6, .string p.tx, .int .u64 (tk : Int)]))⟩
        clear hHeld
        generalize wd21.setRow ((w.heap.size + 1)) (List.toArray ([.slice (some ⟨g6, 0, none⟩) (n + 1) cap6, .string p.tx, .int .u64 (tk : Int)])) = v22 at *
        refine hK.out _ _ hH (fun hHeld => ?_)
        clear hH
        clear hK K hd
        try simp only [Act.put]
        refine one_d 11 none rfl (by kernel_rfl) ?_
        intro o ho1 hd K hK
        cases ho1
        refine step_store_row rfl 61 (.tmp 9) (.tmp 82) rfl ((w.heap.size + 2)) ([.int .u64 (b.num : Int), .int .u64 (b.tick : Int), .string b.tx]) rfl rfl _ _ s9 infoRSt rfl (by simp [Value.oneCell']) ?_
        rw [hd]
        replace q8 := q8.setRow_other (k := (w.heap.size + 2)) (by omega) (List.toArray ([.int .u64 (b.num : Int), .int .u64 (b.tick : Int), .string b.tx]))
        replace s9 := s9.setRow ([.int .u64 (b.num : Int), .int .u64 (b.tick : Int), .string b.tx])
        replace s10 := s10.setRow_other (k := (w.heap.size + 2)) (by omega) (List.toArray ([.int .u64 (b.num : Int), .int .u64 (b.tick : Int), .string b.tx]))
        have hH : Row (v22.setRow ((w.heap.size + 2)) (List.toArray ([.int .u64 (b.num : Int), .int .u64 (b.tick : Int), .string b.tx]))) w.heap.size 47 [.slice (some ⟨g6, 0, none⟩) (n + 1) cap6, .string p.tx, .int .u64 (tk : Int)] ∧ S15.StAt (v22.setRow ((w.heap.size + 2)) (List.toArray ([.int .u64 (b.num : Int), .int .u64 (b.tick : Int), .string b.tx]))) g6 0 (L.set n ⟨p.num, tk, p.tx⟩) ∧ Below w.heap.size w (v22.setRow ((w.heap.size + 2)) (List.toArray ([.int .u64 (b.num : Int), .int .u64 (b.tick : Int), .string b.tx]))) := ⟨hHeld.1.setRow_other (k := (w.heap.size + 2)) (by omega) (List.toArray ([.int .u64 (b.num : Int), .int .u64 (b.tick : Int), .string b.tx])), hHeld.2.1.setRow (k := ((w.heap.size + 2))) (by omega) (List.toArray ([.int .u64 (b.num : Int), .int .u64 (b.tick : Int), .string b.tx])), below_row hHeld.2.2 (show _ ≤ (w.heap.size + 2) by omega) (List.toArray ([.int .u64 (b.num : Int), .int .u64 (b.tick : Int), .string b.tx]))⟩
        clear hHeld
        generalize v22.setRow ((w.heap.size + 2)) (List.toArray ([.int .u64 (b.num : Int), .int .u64 (b.tick : Int), .string b.tx])) = v23 at *
        refine hK.out _ _ hH (fun hHeld => ?_)
        clear hH
        clear hK K hd
        try simp only [Act.put]
        refine one_d 12 none rfl (by kernel_rfl) ?_
        intro o ho1 hd K hK
        cases ho1
        refine step_store_row rfl 61 (.tmp 10) (.tmp 88) rfl ((w.heap.size + 3)) ([.int .u64 (p.num : Int), .int .u64 (tk : Int), .string p.tx]) rfl rfl _ _ s10 infoRSt rfl (by simp [Value.oneCell']) ?_
        rw [hd]
        replace q8 := q8.setRow_other (k := (w.heap.size + 3)) (by omega) (List.toArray ([.int .u64 (p.num : Int), .int .u64 (tk : Int), .string p.tx]))
        replace s9 := s9.setRow_other (k := (w.heap.size + 3)) (by omega) (List.toArray ([.int .u64 (p.num : Int), .int .u64 (tk : Int), .string p.tx]))
        replace s10 := s10.setRow ([.int .u64 (p.num : Int), .int .u64 (tk : Int), .string p.tx])
        have hH : Row (v23.setRow ((w.heap.size + 3)) (List.toArray ([.int .u64 (p.num : Int), .int .u64 (tk : Int), .string p.tx]))) w.heap.size 47 [.slice (some ⟨g6, 0, none⟩) (n + 1) cap6, .string p.tx, .int .u64 (tk : Int)] ∧ S15.StAt (v23.setRow ((w.heap.size + 3)) (List.toArray ([.int .u64 (p.num : Int), .int .u64 (tk : Int), .string p.tx]))) g6 0 (L.set n ⟨p.num, tk, p.tx⟩) ∧ Below w.heap.size w (v23.setRow ((w.heap.size + 3)) (List.toArray ([.int .u64 (p.num : Int), .int .u64 (tk : Int), .string p.tx]))) := ⟨hHeld.1.setRow_other (k := (w.heap.size + 3)) (by omega) (List.toArray ([.int .u64 (p.num : Int), .int .u64 (tk : Int), .string p.tx])), hHeld.2.1.setRow (k := ((w.heap.size + 3))) (by omega) (List.toArray ([.int .u64 (p.num : Int), .int .u64 (tk : Int), .string p.tx])), below_row hHeld.2.2 (show _ ≤ (w.heap.size + 3) by omega) (List.toArray ([.int .u64 (p.num : Int), .int .u64 (tk : Int), .string p.tx]))⟩
        clear hHeld
        generalize v23.setRow ((w.heap.size + 3)) (List.toArray ([.int .u64 (p.num : Int), .int .u64 (tk : Int), .string p.tx])) = v24 at *
        refine hK.out _ _ hH (fun hHeld => ?_)
        clear hH
        clear hK K hd
        try simp only [Act.put]
        refine take_d 13 (some 11) (.bool true) rfl (by kernel_rfl) (by kernel_rfl) (by kernel_rfl) (fun _ _ _ h => h) (fun oi h => by cases h; exact Or.inl ⟨by rfl, fun w' hS' => by go_simp⟩) hHeld ?_
        try simp only [Act.put, List.setIfInBounds_toArray]
        refine wpAnyH_done (by kernel_rfl) ?_ _
        try simp only [Act.put]
        replace r4c := hHeld.1
        replace hs := hHeld.2.1
        replace bb := hHeld.2.2
        clear hHeld
        go_wp2
        try simp only [Act.put, List.setIfInBounds_toArray]
        exact bodyPost_ret (results_row3_tmp rfl _ _ (w.heap.size + 1) 47 [.slice (some ⟨g6, 0, none⟩) (n + 1) cap6, .string p.tx, .int .u64 (tk : Int)] _ (w.heap.size + 2) 61 [.int .u64 (b.num : Int), .int .u64 (b.tick : Int), .string b.tx] _ (w.heap.size + 3) 61 [.int .u64 (p.num : Int), .int .u64 (tk : Int), .string p.tx] _ rfl q8 Try.underlying47 rfl infoRSn rfl s9 Try.underlying61 rfl infoRSt rfl s10 Try.underlying61 rfl infoRSt) rfl ⟨g6, cap6, rfl, hs, by omega, bb⟩
      · have e2 : ¬ (Y : Int) ≤ (tk : Int) := by omega
        have e3 : (X : Int) ≤ (tk : Int) := by omega
        clear hle
        go_wp2_with fail
        refine (A2.out _).mono ?_
        rintro e wq ⟨rfl, hq⟩
        obtain rfl := hq.symm
        go_wp2_with fail
        refine (A1.out _).mono ?_
        rintro e wq ⟨rfl, hq⟩
        obtain rfl := hq.symm
        have c0 := r4.cell 0
        have f0 := r4.frozen 0
        simp only [List.getElem?_cons_zero] at c0
        have r4b := r4.set 0 (.slice (some ⟨g6, 0, none⟩) (n + 1) cap6)
        simp only [List.set_cons_zero] at r4b
        have c2 := r4b.cell 2
        have f2 := r4b.frozen 2
        simp only [List.getElem?_cons_zero, List.getElem?_cons_succ] at c2
        have r4c := r4b.set 2 (.int .u64 (tk : Int))
        simp only [List.set_cons_succ, List.set_cons_zero] at r4c
        replace q8 := (q8.other (k := w.heap.size) (i := 0) (by omega) (.slice (some ⟨g6, 0, none⟩) (n + 1) cap6)).other (k := w.heap.size) (i := 2) (by omega) (.int .u64 (tk : Int))
        replace s9 := (s9.other (k := w.heap.size) (i := 0) (by omega) (.slice (some ⟨g6, 0, none⟩) (n + 1) cap6)).other (k := w.heap.size) (i := 2) (by omega) (.int .u64 (tk : Int))
        replace s10 := (s10.other (k := w.heap.size) (i := 0) (by omega) (.slice (some ⟨g6, 0, none⟩) (n + 1) cap6)).other (k := w.heap.size) (i := 2) (by omega) (.int .u64 (tk : Int))
        replace hs := (hs.other (k := w.heap.size) (i := 0) (by omega) (.slice (some ⟨g6, 0, none⟩) (n + 1) cap6)).other (k := w.heap.size) (i := 2) (by omega) (.int .u64 (tk : Int))
        replace bb := (bb.setCell (p := ⟨w.heap.size, 0, none⟩) (Nat.le_refl _) (.slice (some ⟨g6, 0, none⟩) (n + 1) cap6)).setCell (p := ⟨w.heap.size, 2, none⟩) (Nat.le_refl _) (.int .u64 (tk : Int))
        clear r4 r4b
        go_wp2
        generalize ((w6.setCell ⟨g6, n * 3 + 1, none⟩ (.int .u64 (tk : Int))).setCell ⟨w.heap.size, 0, none⟩ (.slice (some ⟨g6, 0, none⟩) (n + 1) cap6)).setCell ⟨w.heap.size, 2, none⟩ (.int .u64 (tk : Int)) = wt at *
        clear c0 f0 c2 f2
        have z1 : IntKind.i64.wrap (((n + 1 : Nat) : Int) - 1) = ((n : Nat) : Int) := by rw [IntKind.wrap_i64]; omega
        have z2 : ((n : Nat) : Int) < ((n + 1 : Nat) : Int) := by omega
        have z3 : (0 : Int) < ((n + 1 : Nat) : Int) := by omega
        refine wp_region_held_drew (S := fun w' => Row w' w.heap.size 47 [.slice (some ⟨g6, 0, none⟩) (n + 1) cap6, .string p.tx, .int .u64 (tk : Int)] ∧ S15.StAt w' g6 0 (L.set n ⟨p.num, tk, p.tx⟩) ∧ Below w.heap.size w w') (by kernel_rfl) (⟨r4c.drew, hs.drew, bb.drew⟩) (fun hHeld => ?_)
        replace q8 := q8.drew
        replace s9 := s9.drew
        replace s10 := s10.drew
        generalize wt.drew = wd21 at *
        refine take_d 0 (some 79) (.agg #[.slice (some ⟨g6, 0, none⟩) (n + 1) cap6, .string p.tx, .int .u64 (tk : Int)]) rfl (by kernel_rfl) (by kernel_rfl) (by kernel_rfl) (fun _ _ _ h => h) (fun oi h => by cases h; exact yieldsIf_load_mid (by rfl) 47 (.tmp 4) rfl w.heap.size 0 rfl ([.slice (some ⟨g6, 0, none⟩) (n + 1) cap6, .string p.tx, .int .u64 (tk : Int)]) _ (fun w' hS' => hS'.1.range) Try.underlying47 rfl infoRSn) hHeld ?_
        try simp only [Act.put, List.setIfInBounds_toArray, List.set_cons_zero, List.set_cons_succ]
        refine take_d 1 (some 80) (.slice (some ⟨g6, 0, none⟩) (n + 1) cap6) rfl (by kernel_rfl) (by kernel_rfl) (by kernel_rfl) (fun _ _ _ h => h) (fun oi h => by cases h; exact Or.inl ⟨by rfl, fun w' hS' => by go_simp⟩) hHeld ?_
        try simp only [Act.put, List.setIfInBounds_toArray, List.set_cons_zero, List.set_cons_succ]
        refine take_d 2 (some 81) (.pointer (some ⟨g6, 0, none⟩)) rfl (by kernel_rfl) (by kernel_rfl) (by kernel_rfl) (fun _ _ _ h => h) (fun oi h => by cases h; exact Or.inl ⟨by rfl, fun w' hS' => by have h9 : ¬ (((n : Int) + 1) ≤ 0) := (by omega); have h8 : (0 : Int) ≤ (n : Int) := (by omega); have h7' : ¬ (((n : Int) + 1) ≤ (n : Int)) := (by omega); have h6' : IntKind.i64.wrap (n : Int) = (n : Int) := (by rw [IntKind.wrap_i64]; omega); go_simp⟩) hHeld ?_
        try simp only [Act.put, List.setIfInBounds_toArray, List.set_cons_zero, List.set_cons_succ]
        refine take_d 3 (some 82) (.agg #[.int .u64 (b.num : Int), .int .u64 (b.tick : Int), .string b.tx]) rfl (by kernel_rfl) (by kernel_rfl) (by kernel_rfl) (fun _ _ _ h => h) (fun oi h => by cases h; exact yieldsIf_load_mid (by rfl) 61 (.tmp 81) rfl g6 (0) rfl [.int .u64 (b.num : Int), .int .u64 (b.tick : Int), .string b.tx] _ (fun w' hS' => by have h := (hS'.2.1).load HB.out; simp only [Nat.zero_add, Nat.zero_mul] at h; exact h) Try.underlying61 rfl infoRSt) hHeld ?_
        try simp only [Act.put, List.setIfInBounds_toArray, List.set_cons_zero, List.set_cons_succ]
        refine take_d 4 (some 83) (.slice (some ⟨g6, 0, none⟩) (n + 1) cap6) rfl (by kernel_rfl) (by kernel_rfl) (by kernel_rfl) (fun _ _ _ h => h) (fun oi h => by cases h; exact Or.inl ⟨by rfl, fun w' hS' => by go_simp⟩) hHeld ?_
        try simp only [Act.put, List.setIfInBounds_toArray, List.set_cons_zero, List.set_cons_succ]
        refine take_d 5 (some 84) (.slice (some ⟨g6, 0, none⟩) (n + 1) cap6) rfl (by kernel_rfl) (by kernel_rfl) (by kernel_rfl) (fun _ _ _ h => h) (fun oi h => by cases h; exact Or.inl ⟨by rfl, fun w' hS' => by go_simp⟩) hHeld ?_
        try simp only [Act.put, List.setIfInBounds_toArray, List.set_cons_zero, List.set_cons_succ]
        refine take_d 6 (some 85) (.int .i64 ((n + 1 : Nat) : Int)) rfl (by kernel_rfl) (by kernel_rfl) (by kernel_rfl) (fun _ _ _ h => h) (fun oi h => by cases h; exact Or.inl ⟨by rfl, fun w' hS' => by go_simp⟩) hHeld ?_
        try simp only [Act.put, List.setIfInBounds_toArray, List.set_cons_zero, List.set_cons_succ]
        refine take_d 7 (some 86) (.int .i64 ((n : Nat) : Int)) rfl (by kernel_rfl) (by kernel_rfl) (by kernel_rfl) (fun _ _ _ h => h) (fun oi h => by cases h; exact Or.inl ⟨by rfl, fun w' hS' => by have h9 : ¬ (((n : Int) + 1) ≤ 0) := (by omega); have h8 : (0 : Int) ≤ (n : Int) := (by omega); have h7' : ¬ (((n : Int) + 1) ≤ (n : Int)) := (by omega); have h6' : IntKind.i64.wrap (n : Int) = (n : Int) := (by rw [IntKind.wrap_i64]; omega); go_simp⟩) hHeld ?_
        try simp only [Act.put, List.setIfInBounds_toArray, List.set_cons_zero, List.set_cons_succ]
        refine take_d 8 (some 87) (.pointer (some ⟨g6, (n) * 3, none⟩)) rfl (by kernel_rfl) (by kernel_rfl) (by kernel_rfl) (fun _ _ _ h => h) (fun oi h => by cases h; exact Or.inl ⟨by rfl, fun w' hS' => by have h9 : ¬ (((n : Int) + 1) ≤ 0) := (by omega); have h8 : (0 : Int) ≤ (n : Int) := (by omega); have h7' : ¬ (((n : Int) + 1) ≤ (n : Int)) := (by omega); have h6' : IntKind.i64.wrap (n : Int) = (n : Int) := (by rw [IntKind.wrap_i64]; omega); go_simp⟩) hHeld ?_
        try simp only [Act.put, List.setIfInBounds_toArray, List.set_cons_zero, List.set_cons_succ]
        refine take_d 9 (some 88) (.agg #[.int .u64 (p.num : Int), .int .u64 (tk : Int), .string p.tx]) rfl (by kernel_rfl) (by kernel_rfl) (by kernel_rfl) (fun _ _ _ h => h) (fun oi h => by cases h; exact yieldsIf_load_mid (by rfl) 61 (.tmp 87) rfl g6 ((n) * 3) rfl [.int .u64 (p.num : Int), .int .u64 (tk : Int), .string p.tx] _ (fun w' hS' => by have h := (hS'.2.1).load HT.out; simp only [Nat.zero_add, Nat.zero_mul] at h; exact h) Try.underlying61 rfl infoRSt) hHeld ?_
        try simp only [Act.put, List.setIfInBounds_toArray, List.set_cons_zero, List.set_cons_succ]
        refine one_d 10 none rfl (by kernel_rfl) ?_
        intro o ho1 hd K hK
        cases ho1
        refine step_store_row rfl 47 (.tmp 8) (.tmp 79) rfl ((w.heap.size + 1)) ([.slice (some ⟨g6, 0, none⟩) (n + 1) cap6, .string p.tx, .int .u64 (tk : Int)]) rfl rfl _ _ q8 infoRSn rfl (by simp [Value.oneCell']) ?_
        rw [hd]
        replace q8 := q8.setRow ([.slice (some ⟨g6, 0, none⟩) (n + 1) cap6, .string p.tx, .int .u64 (tk : Int)])
        replace s9 := s9.setRow_other (k := (w.heap.size + 1)) (by omega) (List.toArray ([.slice (some ⟨g6, 0, none⟩) (n + 1) cap6, .string p.tx, .int .u64 (tk : Int)]))
        replace s10 := s10.setRow_other (k := (w.heap.size + 1)) (by omega) (List.toArray ([.slice (some ⟨g6, 0, none⟩) (n + 1) cap6, .string p.tx, .int .u64 (tk : Int)]))
        have hH : Row (wd21.setRow ((w.heap.size + 1)) (List.toArray ([.slice (some ⟨g6, 0, none⟩) (n + 1) cap6, .string p.tx, .int .u64 (tk : Int)]))) w.heap.size 47 [.slice (some ⟨g6, 0, none⟩) (n + 1) cap6, .string p.tx, .int .u64 (tk : Int)] ∧ S15.StAt (wd21.setRow ((w.heap.size + 1)) (List.toArray ([.slice (some ⟨g6, 0, none⟩) (n + 1) cap6, .string p.tx, .int .u64 (tk : Int)]))) g6 0 (L.set n ⟨p.num, tk, p.tx⟩) ∧ Below w.heap.size w (wd21.setRow ((w.heap.size + 1)) (List.toArray ([.slice (some ⟨g6, 0, none⟩) (n + 1) cap6, .string p.tx, .int .u64 (tk : Int)]))) := ⟨hHeld.1.setRow_other (k := (w.heap.size + 1)) (by omega) (List.toArray ([.slice (some ⟨g6, 0, none⟩) (n + 1) cap6, .string p.tx, .int .u64 (tk : Int)])), hHeld.2.1.setRow (k := ((w.heap.size + 1))) (by omega) (List.toArray ([.slice (some ⟨g6, 0, none⟩) (n + 1) cap6, .string p.tx, .int .u64 (tk : Int)])), below_row hHeld.2.2 (show _ ≤ (w.heap.size + 1) by omega) (List.toArray ([.slice (some ⟨g6, 0, none⟩) (n + 1) cap6, .string p.tx, .int .u64 (tk : Int)]))⟩
        clear hHeld
        generalize wd21.setRow ((w.heap.size + 1)) (List.toArray ([.slice (some ⟨g6, 0, none⟩) (n + 1) cap6, .string p.tx, .int .u64 (tk : Int)])) = v22 at *
        refine hK.out _ _ hH (fun hHeld => ?_)
        clear hH
        clear hK K hd
        try simp only [Act.put]
        refine one_d 11 none rfl (by kernel_rfl) ?_
        intro o ho1 hd K hK
        cases ho1
        refine step_store_row rfl 61 (.tmp 9) (.tmp 82) rfl ((w.heap.size + 2)) ([.int .u64 (b.num : Int), .int .u64 (b.tick : Int), .string b.tx]) rfl rfl _ _ s9 infoRSt rfl (by simp [Value.oneCell']) ?_
        rw [hd]
        replace q8 := q8.setRow_other (k := (w.heap.size + 2)) (by omega) (List.toArray ([.int .u64 (b.num : Int), .int .u64 (b.tick : Int), .string b.tx]))
        replace s9 := s9.setRow ([.int .u64 (b.num : Int), .int .u64 (b.tick : Int), .string b.tx])
        replace s10 := s10.setRow_other (k := (w.heap.size + 2)) (by omega) (List.toArray ([.int .u64 (b.num : Int), .int .u64 (b.tick : Int), .string b.tx]))
        have hH : Row (v22.setRow ((w.heap.size + 2)) (List.toArray ([.int .u64 (b.num : Int), .int .u64 (b.tick : Int), .string b.tx]))) w.heap.size 47 [.slice (some ⟨g6, 0, none⟩) (n + 1) cap6, .string p.tx, .int .u64 (tk : Int)] ∧ S15.StAt (v22.setRow ((w.heap.size + 2)) (List.toArray ([.int .u64 (b.num : Int), .int .u64 (b.tick : Int), .string b.tx]))) g6 0 (L.set n ⟨p.num, tk, p.tx⟩) ∧ Below w.heap.size w (v22.setRow ((w.heap.size + 2)) (List.toArray ([.int .u64 (b.num : Int), .int .u64 (b.tick : Int), .string b.tx]))) := ⟨hHeld.1.setRow_other (k := (w.heap.size + 2)) (by omega) (List.toArray ([.int .u64 (b.num : Int), .int .u64 (b.tick : Int), .string b.tx])), hHeld.2.1.setRow (k := ((w.heap.size + 2))) (by omega) (List.toArray ([.int .u64 (b.num : Int), .int .u64 (b.tick : Int), .string b.tx])), below_row hHeld.2.2 (show _ ≤ (w.heap.size + 2) by omega) (List.toArray ([.int .u64 (b.num : Int), .int .u64 (b.tick : Int), .string b.tx]))⟩
        clear hHeld
        generalize v22.setRow ((w.heap.size + 2)) (List.toArray ([.int .u64 (b.num : Int), .int .u64 (b.tick : Int), .string b.tx])) = v23 at *
        refine hK.out _ _ hH (fun hHeld => ?_)
        clear hH
        clear hK K hd
        try simp only [Act.put]
        refine one_d 12 none rfl (by kernel_rfl) ?_
        intro o ho1 hd K hK
        cases ho1
        refine step_store_row rfl 61 (.tmp 10) (.tmp 88) rfl ((w.heap.size + 3)) ([.int .u64 (p.num : Int), .int .u64 (tk : Int), .string p.tx]) rfl rfl _ _ s10 infoRSt rfl (by simp [Value.oneCell']) ?_
        rw [hd]
        replace q8 := q8.setRow_other (k := (w.heap.size + 3)) (by omega) (List.toArray ([.int .u64 (p.num : Int), .int .u64 (tk : Int), .string p.tx]))
        replace s9 := s9.setRow_other (k := (w.heap.size + 3)) (by omega) (List.toArray ([.int .u64 (p.num : Int), .int .u64 (tk : Int), .string p.tx]))
        replace s10 := s10.setRow ([.int .u64 (p.num : Int), .int .u64 (tk : Int), .string p.tx])
        have hH : Row (v23.setRow ((w.heap.size + 3)) (List.toArray ([.int .u64 (p.num : Int), .int .u64 (tk : Int), .string p.tx]))) w.heap.size 47 [.slice (some ⟨g6, 0, none⟩) (n + 1) cap6, .string p.tx, .int .u64 (tk : Int)] ∧ S15.StAt (v23.setRow ((w.heap.size + 3)) (List.toArray ([.int .u64 (p.num : Int), .int .u64 (tk : Int), .string p.tx]))) g6 0 (L.set n ⟨p.num, tk, p.tx⟩) ∧ Below w.heap.size w (v23.setRow ((w.heap.size + 3)) (List.toArray ([.int .u64 (p.num : Int), .int .u64 (tk : Int), .string p.tx]))) := ⟨hHeld.1.setRow_other (k := (w.heap.size + 3)) (by omega) (List.toArray ([.int .u64 (p.num : Int), .int .u64 (tk : Int), .string p.tx])), hHeld.2.1.setRow (k := ((w.heap.size + 3))) (by omega) (List.toArray ([.int .u64 (p.num : Int), .int .u64 (tk : Int), .string p.tx])), below_row hHeld.2.2 (show _ ≤ (w.heap.size + 3) by omega) (List.toArray ([.int .u64 (p.num : Int), .int .u64 (tk : Int), .string p.tx]))⟩
        clear hHeld
        generalize v23.setRow ((w.heap.size + 3)) (List.toArray ([.int .u64 (p.num : Int), .int .u64 (tk : Int), .string p.tx])) = v24 at *
        refine hK.out _ _ hH (fun hHeld => ?_)
        clear hH
        clear hK K hd
        try simp only [Act.put]
        refine take_d 13 (some 11) (.bool true) rfl (by kernel_rfl) (by kernel_rfl) (by kernel_rfl) (fun _ _ _ h => h) (fun oi h => by cases h; exact Or.inl ⟨by rfl, fun w' hS' => by go_simp⟩) hHeld ?_
        try simp only [Act.put, List.setIfInBounds_toArray]
        refine wpAnyH_done (by kernel_rfl) ?_ _
        try simp only [Act.put]
        replace r4c := hHeld.1
        replace hs := hHeld.2.1
        replace bb := hHeld.2.2
        clear hHeld
        go_wp2
        try simp only [Act.put, List.setIfInBounds_toArray]
        exact bodyPost_ret (results_row3_tmp rfl _ _ (w.heap.size + 1) 47 [.slice (some ⟨g6, 0, none⟩) (n + 1) cap6, .string p.tx, .int .u64 (tk : Int)] _ (w.heap.size + 2) 61 [.int .u64 (b.num : Int), .int .u64 (b.tick : Int), .string b.tx] _ (w.heap.size + 3) 61 [.int .u64 (p.num : Int), .int .u64 (tk : Int), .string p.tx] _ rfl q8 Try.underlying47 rfl infoRSn rfl s9 Try.underlying61 rfl infoRSt rfl s10 Try.underlying61 rfl infoRSt) rfl ⟨g6, cap6, rfl, hs, by omega, bb⟩
  · have dl : ¬ now.toList = p.tx.toList := fun hh => d (ByteArray.ext (by simpa [ByteArray.toList_eq] using hh))
    have dl1 : (now.toList == p.tx.toList) = false := by rw [beq_eq_false_iff_ne]; exact dl
    have dl2 : (now == p.tx) = false := by rw [beq_toListBytes]; exact dl1
    have e8 : ¬ ((n + 1 : Nat) : Int) < 8 := by omega
    have hr0 := ha.load hp
    have la : g < w.heap.size := ha.lt
    have y1 : IntKind.i64.wrap (((n + 1 : Nat) : Int) - 1) = (n : Int) := by rw [IntKind.wrap_i64]; omega
    have y2 : (n : Int) < ((n + 1 : Nat) : Int) := by omega
    obtain ⟨i0, hif, hz0, hz1, hz2⟩ := info_parts infoRStZ
    have r4a : Row ((((w.alloc (.cells #[.slice (some ⟨g, off, none⟩) (n + 1) cap, .string now, .int .u64 (last : Int)] 47 (0, 0))).alloc (.cells #[.slice none 0 0, .string ⟨#[]⟩, .int .u64 0] 47 (0, 0))).alloc (.cells #[.int .u64 0, .int .u64 0, .string ⟨#[]⟩] 61 (0, 0))).alloc (.cells #[.int .u64 0, .int .u64 0, .string ⟨#[]⟩] 61 (0, 0))) w.heap.size 47 [.slice (some ⟨g, off, none⟩) (n + 1) cap, .string now, .int .u64 (last : Int)] := (((Row.new' rfl rfl).alloc _).alloc _).alloc _
    have c15 := r4a.cell 0
    simp only [List.getElem?_cons_zero] at c15
    have ha4 := (((ha.alloc (.cells #[.slice (some ⟨g, off, none⟩) (n + 1) cap, .string now, .int .u64 (last : Int)] 47 (0, 0))).alloc (.cells #[.slice none 0 0, .string ⟨#[]⟩, .int .u64 0] 47 (0, 0))).alloc (.cells #[.int .u64 0, .int .u64 0, .string ⟨#[]⟩] 61 (0, 0))).alloc (.cells #[.int .u64 0, .int .u64 0, .string ⟨#[]⟩] 61 (0, 0))
    have hr2 : ((((w.alloc (.cells #[.slice (some ⟨g, off, none⟩) (n + 1) cap, .string now, .int .u64 (last : Int)] 47 (0, 0))).alloc (.cells #[.slice none 0 0, .string ⟨#[]⟩, .int .u64 0] 47 (0, 0))).alloc (.cells #[.int .u64 0, .int .u64 0, .string ⟨#[]⟩] 61 (0, 0))).alloc (.cells #[.int .u64 0, .int .u64 0, .string ⟨#[]⟩] 61 (0, 0))).rangeAt g (off + n * 3) [.int .u64 (p.num : Int), .int .u64 (p.tick : Int), .string p.tx] := ha4.load hp
    have r4 := r4a.alloc (.cells #[.int .u64 (p.num : Int), .int .u64 (p.tick : Int), .string p.tx] 61 (0, 0))
    have q8 : Row (((((w.alloc (.cells #[.slice (some ⟨g, off, none⟩) (n + 1) cap, .string now, .int .u64 (last : Int)] 47 (0, 0))).alloc (.cells #[.slice none 0 0, .string ⟨#[]⟩, .int .u64 0] 47 (0, 0))).alloc (.cells #[.int .u64 0, .int .u64 0, .string ⟨#[]⟩] 61 (0, 0))).alloc (.cells #[.int .u64 0, .int .u64 0, .string ⟨#[]⟩] 61 (0, 0))).alloc (.cells #[.int .u64 (p.num : Int), .int .u64 (p.tick : Int), .string p.tx] 61 (0, 0))) (w.heap.size + 1) 47 [.slice none 0 0, .string ⟨#[]⟩, .int .u64 0] := (((Row.new' rfl (by simp)).alloc _).alloc _).alloc _
    have s9 : Row (((((w.alloc (.cells #[.slice (some ⟨g, off, none⟩) (n + 1) cap, .string now, .int .u64 (last : Int)] 47 (0, 0))).alloc (.cells #[.slice none 0 0, .string ⟨#[]⟩, .int .u64 0] 47 (0, 0))).alloc (.cells #[.int .u64 0, .int .u64 0, .string ⟨#[]⟩] 61 (0, 0))).alloc (.cells #[.int .u64 0, .int .u64 0, .string ⟨#[]⟩] 61 (0, 0))).alloc (.cells #[.int .u64 (p.num : Int), .int .u64 (p.tick : Int), .string p.tx] 61 (0, 0))) (w.heap.size + 2) 61 [.int .u64 0, .int .u64 0, .string ⟨#[]⟩] := ((Row.new' rfl (by simp)).alloc _).alloc _
    have s10 : Row (((((w.alloc (.cells #[.slice (some ⟨g, off, none⟩) (n + 1) cap, .string now, .int .u64 (last : Int)] 47 (0, 0))).alloc (.cells #[.slice none 0 0, .string ⟨#[]⟩, .int .u64 0] 47 (0, 0))).alloc (.cells #[.int .u64 0, .int .u64 0, .string ⟨#[]⟩] 61 (0, 0))).alloc (.cells #[.int .u64 0, .int .u64 0, .string ⟨#[]⟩] 61 (0, 0))).alloc (.cells #[.int .u64 (p.num : Int), .int .u64 (p.tick : Int), .string p.tx] 61 (0, 0))) (w.heap.size + 3) 61 [.int .u64 0, .int .u64 0, .string ⟨#[]⟩] := (Row.new' rfl (by simp)).alloc _
    have t12 : Row (((((w.alloc (.cells #[.slice (some ⟨g, off, none⟩) (n + 1) cap, .string now, .int .u64 (last : Int)] 47 (0, 0))).alloc (.cells #[.slice none 0 0, .string ⟨#[]⟩, .int .u64 0] 47 (0, 0))).alloc (.cells #[.int .u64 0, .int .u64 0, .string ⟨#[]⟩] 61 (0, 0))).alloc (.cells #[.int .u64 0, .int .u64 0, .string ⟨#[]⟩] 61 (0, 0))).alloc (.cells #[.int .u64 (p.num : Int), .int .u64 (p.tick : Int), .string p.tx] 61 (0, 0))) (w.heap.size + 4) 61 [.int .u64 (p.num : Int), .int .u64 (p.tick : Int), .string p.tx] := Row.new' rfl (by simp)
    have ha5 := ha4.alloc (.cells #[.int .u64 (p.num : Int), .int .u64 (p.tick : Int), .string p.tx] 61 (0, 0))
    have bb : Below w.heap.size w (((((w.alloc (.cells #[.slice (some ⟨g, off, none⟩) (n + 1) cap, .string now, .int .u64 (last : Int)] 47 (0, 0))).alloc (.cells #[.slice none 0 0, .string ⟨#[]⟩, .int .u64 0] 47 (0, 0))).alloc (.cells #[.int .u64 0, .int .u64 0, .string ⟨#[]⟩] 61 (0, 0))).alloc (.cells #[.int .u64 0, .int .u64 0, .string ⟨#[]⟩] 61 (0, 0))).alloc (.cells #[.int .u64 (p.num : Int), .int .u64 (p.tick : Int), .string p.tx] 61 (0, 0))) := (((((Below.refl _ _).alloc (Nat.le_refl _) _).alloc (by simp) _).alloc (by simp; omega) _).alloc (by simp; omega) _).alloc (by simp; omega) _
    have h5 : w.heap.size + 5 ≤ (((((w.alloc (.cells #[.slice (some ⟨g, off, none⟩) (n + 1) cap, .string now, .int .u64 (last : Int)] 47 (0, 0))).alloc (.cells #[.slice none 0 0, .string ⟨#[]⟩, .int .u64 0] 47 (0, 0))).alloc (.cells #[.int .u64 0, .int .u64 0, .string ⟨#[]⟩] 61 (0, 0))).alloc (.cells #[.int .u64 0, .int .u64 0, .string ⟨#[]⟩] 61 (0, 0))).alloc (.cells #[.int .u64 (p.num : Int), .int .u64 (p.tick : Int), .string p.tx] 61 (0, 0))).heap.size := by simp
    have c24 : (((((w.alloc (.cells #[.slice (some ⟨g, off, none⟩) (n + 1) cap, .string now, .int .u64 (last : Int)] 47 (0, 0))).alloc (.cells #[.slice none 0 0, .string ⟨#[]⟩, .int .u64 0] 47 (0, 0))).alloc (.cells #[.int .u64 0, .int .u64 0, .string ⟨#[]⟩] 61 (0, 0))).alloc (.cells #[.int .u64 0, .int .u64 0, .string ⟨#[]⟩] 61 (0, 0))).alloc (.cells #[.int .u64 (p.num : Int), .int .u64 (p.tick : Int), .string p.tx] 61 (0, 0))).cell? ⟨w.heap.size, 0, none⟩ = some (.slice (some ⟨g, off, none⟩) (n + 1) cap) := r4.cell 0
    have hnews : Hid (∀ (j : Nat) (u : Value), (S15.cellsL L)[j]? = some u → (((((w.alloc (.cells #[.slice (some ⟨g, off, none⟩) (n + 1) cap, .string now, .int .u64 (last : Int)] 47 (0, 0))).alloc (.cells #[.slice none 0 0, .string ⟨#[]⟩, .int .u64 0] 47 (0, 0))).alloc (.cells #[.int .u64 0, .int .u64 0, .string ⟨#[]⟩] 61 (0, 0))).alloc (.cells #[.int .u64 0, .int .u64 0, .string ⟨#[]⟩] 61 (0, 0))).alloc (.cells #[.int .u64 (p.num : Int), .int .u64 (p.tick : Int), .string p.tx] 61 (0, 0))).cell? ((⟨g, off, none⟩ : Addr).add j) = some u) := fun j u hj => by rw [S15.addrAdd]; exact ha5.cellAt hj
    have hlen : Hid ((S15.cellsL L).length = (n + 1) * 3) := by show _ = _; rw [S15.cellsL_len, hn]
    have hone := Lib.hid (S15.cellsL_one L)
    have hown0 : (((((w.alloc (.cells #[.slice (some ⟨g, off, none⟩) (n + 1) cap, .string now, .int .u64 (last : Int)] 47 (0, 0))).alloc (.cells #[.slice none 0 0, .string ⟨#[]⟩, .int .u64 0] 47 (0, 0))).alloc (.cells #[.int .u64 0, .int .u64 0, .string ⟨#[]⟩] 61 (0, 0))).alloc (.cells #[.int .u64 0, .int .u64 0, .string ⟨#[]⟩] 61 (0, 0))).alloc (.cells #[.int .u64 (p.num : Int), .int .u64 (p.tick : Int), .string p.tx] 61 (0, 0))).ownsRow (w.heap.size + 5) 61 3 (.slice none 0 0) 0 [] := World.ownsRow_nil _ _ _ _
    have HN := Lib.hid hn
    clear ha ha4 hr0 hn r4a
    go_enter Try.func23, Try.ntmps23
    have tk1 : True := True.intro
    go_wp2_with (first | (refine at_op (.load 61 (.tmp 20)) (by with_reducible rfl) ?_; clear tk1; refine wpList_load_mid rfl 61 (.tmp 20) rfl g (off + n * 3) rfl _ _ hr2 Try.underlying61 rfl infoRSt ?_) | (at_builtin; go_loud (refine wpList_append_own _ rfl _ _ 45 rfl (w.heap.size + 5) 61 i0 _ 3 32 Try.underlying45 hif hz0 hz1 hz2 rfl (by decide) (.slice none 0 0) 0 [] rfl hown0 ⟨g, off, none⟩ (n + 1) cap (S15.cellsL L) rfl hlen.out hnews.out hone.out (by unfold maxLen; omega) (by omega) h5 ?_)))
    intro v6 w6 ho6 hgr _
    have ho6 : w6.ownsRow (w.heap.size + 5) 61 3 v6 (n + 1) (S15.cellsL L) := by simpa using ho6
    replace r4 := r4.grownV3 hgr (fun j hj => by cases hj)
    replace q8 := q8.grownV3 hgr (fun j hj => by cases hj)
    replace s9 := s9.grownV3 hgr (fun j hj => by cases hj)
    replace s10 := s10.grownV3 hgr (fun j hj => by cases hj)
    replace t12 := t12.grownV3 hgr (fun j hj => by cases hj)
    replace bb := bb.grown hgr (by omega) (fun j hj => by cases hj)
    have h6 : w.heap.size + 5 ≤ w6.heap.size := Nat.le_trans h5 hgr.size
    clear hgr hown0 hnews hlen hone c24 hr2 c15 ha5 h5
    obtain ⟨g6, cap6, rfl, hg1, hg2, hg3, hg4⟩ := S15.own_slice ho6
    have c27 : w6.cell? ⟨w.heap.size, 1, none⟩ = some (.string now) := r4.cell 1
    have c29 : w6.cell? ⟨w.heap.size + 4, 2, none⟩ = some (.string p.tx) := t12.cell 2
    have c52 : w6.cell? ⟨w.heap.size + 4, 1, none⟩ = some (.int .u64 (p.tick : Int)) := t12.cell 1
    have c60 : w6.cell? ⟨w.heap.size, 2, none⟩ = some (.int .u64 (last : Int)) := r4.cell 2
    have hc := (ho6.cellAt (n * 3 + 1) (by omega)).trans HC.out
    simp only [S15.St.c, List.getElem?_cons_zero, List.getElem?_cons_succ] at hc
    have hf := ho6.frozenAt (n * 3 + 1)
    have hst := (ho6.stored (n * 3 + 1) (.int .u64 (tk : Int))).1
    rw [HTk.out] at hst
    have hs := S15.StAt.of_owns hst
    clear hst ho6 t12
    have r4' := r4.other (k := g6) (i := n * 3 + 1) (by omega) (.int .u64 (tk : Int))
    have q8' := q8.other (k := g6) (i := n * 3 + 1) (by omega) (.int .u64 (tk : Int))
    have s9' := s9.other (k := g6) (i := n * 3 + 1) (by omega) (.int .u64 (tk : Int))
    have s10' := s10.other (k := g6) (i := n * 3 + 1) (by omega) (.int .u64 (tk : Int))
    have bb' := bb.setCell (p := ⟨g6, n * 3 + 1, none⟩) (by show _ ≤ g6; omega) (.int .u64 (tk : Int))
    clear r4 q8 s9 s10 bb
    have r4 := r4'
    have q8 := q8'
    have s9 := s9'
    have s10 := s10'
    have bb := bb'
    clear r4' q8' s9' s10' bb'
    by_cases hc0 : n = 0
    · exfalso; omega
    · rw [if_neg hc0] at hle
      have e1 : (1 : Int) < ((n + 1 : Nat) : Int) := by omega
      clear hc0
      by_cases hY : Y ≤ tk
      · have e2 : (Y : Int) ≤ (tk : Int) := by omega
        clear hle
        go_wp2_with fail
        refine (A2.out _).mono ?_
        rintro e wq ⟨rfl, hq⟩
        obtain rfl := hq.symm
        have c0 := r4.cell 0
        have f0 := r4.frozen 0
        simp only [List.getElem?_cons_zero] at c0
        have r4b := r4.set 0 (.slice (some ⟨g6, 0, none⟩) (n + 1) cap6)
        simp only [List.set_cons_zero] at r4b
        have c2 := r4b.cell 2
        have f2 := r4b.frozen 2
        simp only [List.getElem?_cons_zero, List.getElem?_cons_succ] at c2
        have r4c := r4b.set 2 (.int .u64 (tk : Int))
        simp only [List.set_cons_succ, List.set_cons_zero] at r4c
        replace q8 := (q8.other (k := w.heap.size) (i := 0) (by omega) (.slice (some ⟨g6, 0, none⟩) (n + 1) cap6)).other (k := w.heap.size) (i := 2) (by omega) (.int .u64 (tk : Int))
        replace s9 := (s9.other (k := w.heap.size) (i := 0) (by omega) (.slice (some ⟨g6, 0, none⟩) (n + 1) cap6)).other (k := w.heap.size) (i := 2) (by omega) (.int .u64 (tk : Int))
        replace s10 := (s10.other (k := w.heap.size) (i := 0) (by omega) (.slice (some ⟨g6, 0, none⟩) (n + 1) cap6)).other (k := w.heap.size) (i := 2) (by omega) (.int .u64 (tk : Int))
        replace hs := (hs.other (k := w.heap.size) (i := 0) (by omega) (.slice (some ⟨g6, 0, none⟩) (n + 1) cap6)).other (k := w.heap.size) (i := 2) (by omega) (.int .u64 (tk : Int))
        replace bb := (bb.setCell (p := ⟨w.heap.size, 0, none⟩) (Nat.le_refl _) (.slice (some ⟨g6, 0, none⟩) (n + 1) cap6)).setCell (p := ⟨w.heap.size, 2, none⟩) (Nat.le_refl _) (.int .u64 (tk : Int))
        clear r4 r4b
        go_wp2
        generalize ((w6.setCell ⟨g6, n * 3 + 1, none⟩ (.int .u64 (tk : Int))).setCell ⟨w.heap.size, 0, none⟩ (.slice (some ⟨g6, 0, none⟩) (n + 1) cap6)).setCell ⟨w.heap.size, 2, none⟩ (.int .u64 (tk : Int)) = wt at *
        clear c0 f0 c2 f2
        have z1 : IntKind.i64.wrap (((n + 1 : Nat) : Int) - 1) = ((n : Nat) : Int) := by rw [IntKind.wrap_i64]; omega
        have z2 : ((n : Nat) : Int) < ((n + 1 : Nat) : Int) := by omega
        have z3 : (0 : Int) < ((n + 1 : Nat) : Int) := by omega
        refine wp_region_held_drew (S := fun w' => Row w' w.heap.size 47 [.slice (some ⟨g6, 0, none⟩) (n + 1) cap6, .string now, .int .u64 (tk : Int)] ∧ S15.StAt w' g6 0 (L.set n ⟨p.num, tk, p.tx⟩) ∧ Below w.heap.size w w') (by kernel_rfl) (⟨r4c.drew, hs.drew, bb.drew⟩) (fun hHeld => ?_)
        replace q8 := q8.drew
        replace s9 := s9.drew
        replace s10 := s10.drew
        generalize wt.drew = wd21 at *
        refine take_d 0 (some 79) (.agg #[.slice (some ⟨g6, 0, none⟩) (n + 1) cap6, .string now, .int .u64 (tk : Int)]) rfl (by kernel_rfl) (by kernel_rfl) (by kernel_rfl) (fun _ _ _ h => h) (fun oi h => by cases h; exact yieldsIf_load_mid (by rfl) 47 (.tmp 4) rfl w.heap.size 0 rfl ([.slice (some ⟨g6, 0, none⟩) (n + 1) cap6, .string now, .int .u64 (tk : Int)]) _ (fun w' hS' => hS'.1.range) Try.underlying47 rfl infoRSn) hHeld ?_
        try simp only [Act.put, List.setIfInBounds_toArray, List.set_cons_zero, List.set_cons_succ]
        refine take_d 1 (some 80) (.slice (some ⟨g6, 0, none⟩) (n + 1) cap6) rfl (by kernel_rfl) (by kernel_rfl) (by kernel_rfl) (fun _ _ _ h => h) (fun oi h => by cases h; exact Or.inl ⟨by rfl, fun w' hS' => by go_simp⟩) hHeld ?_
        try simp only [Act.put, List.setIfInBounds_toArray, List.set_cons_zero, List.set_cons_succ]
        refine take_d 2 (some 81) (.pointer (some ⟨g6, 0, none⟩)) rfl (by kernel_rfl) (by kernel_rfl) (by kernel_rfl) (fun _ _ _ h => h) (fun oi h => by cases h; exact Or.inl ⟨by rfl, fun w' hS' => by have h9 : ¬ (((n : Int) + 1) ≤ 0) := (by omega); have h8 : (0 : Int) ≤ (n : Int) := (by omega); have h7' : ¬ (((n : Int) + 1) ≤ (n : Int)) := (by omega); have h6' : IntKind.i64.wrap (n : Int) = (n : Int) := (by rw [IntKind.wrap_i64]; omega); go_simp⟩) hHeld ?_
        try simp only [Act.put, List.setIfInBounds_toArray, List.set_cons_zero, List.set_cons_succ]
        refine take_d 3 (some 82) (.agg #[.int .u64 (b.num : Int), .int .u64 (b.tick : Int), .string b.tx]) rfl (by kernel_rfl) (by kernel_rfl) (by kernel_rfl) (fun _ _ _ h => h) (fun oi h => by cases h; exact yieldsIf_load_mid (by rfl) 61 (.tmp 81) rfl g6 (0) rfl [.int .u64 (b.num : Int), .int .u64 (b.tick : Int), .string b.tx] _ (fun w' hS' => by have h := (hS'.2.1).load HB.out; simp only [Nat.zero_add, Nat.zero_mul] at h; exact h) Try.underlying61 rfl infoRSt) hHeld ?_
        try simp only [Act.put, List.setIfInBounds_toArray, List.set_cons_zero, List.set_cons_succ]
        refine take_d 4 (some 83) (.slice (some ⟨g6, 0, none⟩) (n + 1) cap6) rfl (by kernel_rfl) (by kernel_rfl) (by kernel_rfl) (fun _ _ _ h => h) (fun oi h => by cases h; exact Or.inl ⟨by rfl, fun w' hS' => by go_simp⟩) hHeld ?_
        try simp only [Act.put, List.setIfInBounds_toArray, List.set_cons_zero, List.set_cons_succ]
        refine take_d 5 (some 84) (.slice (some ⟨g6, 0, none⟩) (n + 1) cap6) rfl (by kernel_rfl) (by kernel_rfl) (by kernel_rfl) (fun _ _ _ h => h) (fun oi h => by cases h; exact Or.inl ⟨by rfl, fun w' hS' => by go_simp⟩) hHeld ?_
        try simp only [Act.put, List.setIfInBounds_toArray, List.set_cons_zero, List.set_cons_succ]
        refine take_d 6 (some 85) (.int .i64 ((n + 1 : Nat) : Int)) rfl (by kernel_rfl) (by kernel_rfl) (by kernel_rfl) (fun _ _ _ h => h) (fun oi h => by cases h; exact Or.inl ⟨by rfl, fun w' hS' => by go_simp⟩) hHeld ?_
        try simp only [Act.put, List.setIfInBounds_toArray, List.set_cons_zero, List.set_cons_succ]
        refine take_d 7 (some 86) (.int .i64 ((n : Nat) : Int)) rfl (by kernel_rfl) (by kernel_rfl) (by kernel_rfl) (fun _ _ _ h => h) (fun oi h => by cases h; exact Or.inl ⟨by rfl, fun w' hS' => by have h9 : ¬ (((n : Int) + 1) ≤ 0) := (by omega); have h8 : (0 : Int) ≤ (n : Int) := (by omega); have h7' : ¬ (((n : Int) + 1) ≤ (n : Int)) := (by omega); have h6' : IntKind.i64.wrap (n : Int) = (n : Int) := (by rw [IntKind.wrap_i64]; omega); go_simp⟩) hHeld ?_
        try simp only [Act.put, List.setIfInBounds_toArray, List.set_cons_zero, List.set_cons_succ]
        refine take_d 8 (some 87) (.pointer (some ⟨g6, (n) * 3, none⟩)) rfl (by kernel_rfl) (by kernel_rfl) (by kernel_rfl) (fun _ _ _ h => h) (fun oi h => by cases h; exact Or.inl ⟨by rfl, fun w' hS' => by have h9 : ¬ (((n : Int) + 1) ≤ 0) := (by omega); have h8 : (0 : Int) ≤ (n : Int) := (by omega); have h7' : ¬ (((n : Int) + 1) ≤ (n : Int)) := (by omega); have h6' : IntKind.i64.wrap (n : Int) = (n : Int) := (by rw [IntKind.wrap_i64]; omega); go_simp⟩) hHeld ?_
        try simp only [Act.put, List.setIfInBounds_toArray, List.set_cons_zero, List.set_cons_succ]
        refine take_d 9 (some 88) (.agg #[.int .u64 (p.num : Int), .int .u64 (tk : Int), .string p.tx]) rfl (by kernel_rfl) (by kernel_rfl) (by kernel_rfl) (fun _ _ _ h => h) (fun oi h => by cases h; exact yieldsIf_load_mid (by rfl) 61 (.tmp 87) rfl g6 ((n) * 3) rfl [.int .u64 (p.num : Int), .int .u64 (tk : Int), .string p.tx] _ (fun w' hS' => by have h := (hS'.2.1).load HT.out; simp only [Nat.zero_add, Nat.zero_mul] at h; exact h) Try.underlying61 rfl infoRSt) hHeld ?_
        try simp only [Act.put, List.setIfInBounds_toArray, List.set_cons_zero, List.set_cons_succ]
        refine one_d 10 none rfl (by kernel_rfl) ?_
        intro o ho1 hd K hK
        cases ho1
        refine step_store_row rfl 47 (.tmp 8) (.tmp 79) rfl ((w.heap.size + 1)) ([.slice (some ⟨g6, 0, none⟩) (n + 1) cap6, .string now, .int .u64 (tk : Int)]) rfl rfl _ _ q8 infoRSn rfl (by simp [Value.oneCell']) ?_
        rw [hd]
        replace q8 := q8.setRow ([.slice (some ⟨g6, 0, none⟩) (n + 1) cap6, .string now, .int .u64 (tk : Int)])
        replace s9 := s9.setRow_other (k := (w.heap.size + 1)) (by omega) (List.toArray ([.slice (some ⟨g6, 0, none⟩) (n + 1) cap6, .string now, .int .u64 (tk : Int)]))
        replace s10 := s10.setRow_other (k := (w.heap.size + 1)) (by omega) (List.toArray ([.slice (some ⟨g6, 0, none⟩) (n + 1) cap6, .string now, .int .u64 (tk : Int)]))
        have hH : Row (wd21.setRow ((w.heap.size + 1)) (List.toArray ([.slice (some ⟨g6, 0, none⟩) (n + 1) cap6, .string now, .int .u64 (tk : Int)]))) w.heap.size 47 [.slice (some ⟨g6, 0, none⟩) (n + 1) cap6, .string now, .int .u64 (tk : Int)] ∧ S15.StAt (wd21.setRow ((w.heap.size + 1)) (List.toArray ([.slice (some ⟨g6, 0, none⟩) (n + 1) cap6, .string now, .int .u64 (tk : Int)]))) g6 0 (L.set n ⟨p.num, tk, p.tx⟩) ∧ Below w.heap.size w (wd21.setRow ((w.heap.size + 1)) (List.toArray ([.slice (some ⟨g6, 0, none⟩) (n + 1) cap6, .string now, .int .u64 (tk : Int)]))) := ⟨hHeld.1.setRow_other (k := (w.heap.size + 1)) (by omega) (List.toArray ([.slice (some ⟨g6, 0, none⟩) (n + 1) cap6, .string now, .int .u64 (tk : Int)])), hHeld.2.1.setRow (k := ((w.heap.size + 1))) (by omega) (List.toArray ([.slice (some ⟨g6, 0, none⟩) (n + 1) cap6, .string now, .int .u64 (tk : Int)])), below_row hHeld.2.2 (show _ ≤ (w.heap.size + 1) by omega) (List.toArray ([.slice (some ⟨g6, 0, none⟩) (n + 1) cap6, .string now, .int .u64 (tk : Int)]))⟩
        clear hHeld
        generalize wd21.setRow ((w.heap.size + 1)) (List.toArray ([.slice (some ⟨g6, 0, none⟩) (n + 1) cap6, .string now, .int .u64 (tk : Int)])) = v22 at *
        refine hK.out _ _ hH (fun hHeld => ?_)
        clear hH
        clear hK K hd
        try simp only [Act.put]
        refine one_d 11 none rfl (by kernel_rfl) ?_
        intro o ho1 hd K hK
        cases ho1
        refine step_store_row rfl 61 (.tmp 9) (.tmp 82) rfl ((w.heap.size + 2)) ([.int .u64 (b.num : Int), .int .u64 (b.tick : Int), .string b.tx]) rfl rfl _ _ s9 infoRSt rfl (by simp [Value.oneCell']) ?_
        rw [hd]
        replace q8 := q8.setRow_other (k := (w.heap.size + 2)) (by omega) (List.toArray ([.int .u64 (b.num : Int), .int .u64 (b.tick : Int), .string b.tx]))
        replace s9 := s9.setRow ([.int .u64 (b.num : Int), .int .u64 (b.tick : Int), .string b.tx])
        replace s10 := s10.setRow_other (k := (w.heap.size + 2)) (by omega) (List.toArray ([.int .u64 (b.num : Int), .int .u64 (b.tick : Int), .string b.tx]))
        have hH : Row (v22.setRow ((w.heap.size + 2)) (List.toArray ([.int .u64 (b.num : Int), .int .u64 (b.tick : Int), .string b.tx]))) w.heap.size 47 [.slice (some ⟨g6, 0, none⟩) (n + 1) cap6, .string now, .int .u64 (tk : Int)] ∧ S15.StAt (v22.setRow ((w.heap.size + 2)) (List.toArray ([.int .u64 (b.num : Int), .int .u64 (b.tick : Int), .string b.tx]))) g6 0 (L.set n ⟨p.num, tk, p.tx⟩) ∧ Below w.heap.size w (v22.setRow ((w.heap.size + 2)) (List.toArray ([.int .u64 (b.num : Int), .int .u64 (b.tick : Int), .string b.tx]))) := ⟨hHeld.1.setRow_other (k := (w.heap.size + 2)) (by omega) (List.toArray ([.int .u64 (b.num : Int), .int .u64 (b.tick : Int), .string b.tx])), hHeld.2.1.setRow (k := ((w.heap.size + 2))) (by omega) (List.toArray ([.int .u64 (b.num : Int), .int .u64 (b.tick : Int), .string b.tx])), below_row hHeld.2.2 (show _ ≤ (w.heap.size + 2) by omega) (List.toArray ([.int .u64 (b.num : Int), .int .u64 (b.tick : Int), .string b.tx]))⟩
        clear hHeld
        generalize v22.setRow ((w.heap.size + 2)) (List.toArray ([.int .u64 (b.num : Int), .int .u64 (b.tick : Int), .string b.tx])) = v23 at *
        refine hK.out _ _ hH (fun hHeld => ?_)
        clear hH
        clear hK K hd
        try simp only [Act.put]
        refine one_d 12 none rfl (by kernel_rfl) ?_
        intro o ho1 hd K hK
        cases ho1
        refine step_store_row rfl 61 (.tmp 10) (.tmp 88) rfl ((w.heap.size + 3)) ([.int .u64 (p.num : Int), .int .u64 (tk : Int), .string p.tx]) rfl rfl _ _ s10 infoRSt rfl (by simp [Value.oneCell']) ?_
        rw [hd]
        replace q8 := q8.setRow_other (k := (w.heap.size + 3)) (by omega) (List.toArray ([.int .u64 (p.num : Int), .int .u64 (tk : Int), .string p.tx]))
        replace s9 := s9.setRow_other (k := (w.heap.size + 3)) (by omega) (List.toArray ([.int .u64 (p.num : Int), .int .u64 (tk : Int), .string p.tx]))
        replace s10 := s10.setRow ([.int .u64 (p.num : Int), .int .u64 (tk : Int), .string p.tx])
        have hH : Row (v23.setRow ((w.heap.size + 3)) (List.toArray ([.int .u64 (p.num : Int), .int .u64 (tk : Int), .string p.tx]))) w.heap.size 47 [.slice (some ⟨g6, 0, none⟩) (n + 1) cap6, .string now, .int .u64 (tk : Int)] ∧ S15.StAt (v23.setRow ((w.heap.size + 3)) (List.toArray ([.int .u64 (p.num : Int), .int .u64 (tk : Int), .string p.tx]))) g6 0 (L.set n ⟨p.num, tk, p.tx⟩) ∧ Below w.heap.size w (v23.setRow ((w.heap.size + 3)) (List.toArray ([.int .u64 (p.num : Int), .int .u64 (tk : Int), .string p.tx]))) := ⟨hHeld.1.setRow_other (k := (w.heap.size + 3)) (by omega) (List.toArray ([.int .u64 (p.num : Int), .int .u64 (tk : Int), .string p.tx])), hHeld.2.1.setRow (k := ((w.heap.size + 3))) (by omega) (List.toArray ([.int .u64 (p.num : Int), .int .u64 (tk : Int), .string p.tx])), below_row hHeld.2.2 (show _ ≤ (w.heap.size + 3) by omega) (List.toArray ([.int .u64 (p.num : Int), .int .u64 (tk : Int), .string p.tx]))⟩
        clear hHeld
        generalize v23.setRow ((w.heap.size + 3)) (List.toArray ([.int .u64 (p.num : Int), .int .u64 (tk : Int), .string p.tx])) = v24 at *
        refine hK.out _ _ hH (fun hHeld => ?_)
        clear hH
        clear hK K hd
        try simp only [Act.put]
        refine take_d 13 (some 11) (.bool true) rfl (by kernel_rfl) (by kernel_rfl) (by kernel_rfl) (fun _ _ _ h => h) (fun oi h => by cases h; exact Or.inl ⟨by rfl, fun w' hS' => by go_simp⟩) hHeld ?_
        try simp only [Act.put, List.setIfInBounds_toArray]
        refine wpAnyH_done (by kernel_rfl) ?_ _
        try simp only [Act.put]
        replace r4c := hHeld.1
        replace hs := hHeld.2.1
        replace bb := hHeld.2.2
        clear hHeld
        go_wp2
        try simp only [Act.put, List.setIfInBounds_toArray]
        exact bodyPost_ret (results_row3_tmp rfl _ _ (w.heap.size + 1) 47 [.slice (some ⟨g6, 0, none⟩) (n + 1) cap6, .string now, .int .u64 (tk : Int)] _ (w.heap.size + 2) 61 [.int .u64 (b.num : Int), .int .u64 (b.tick : Int), .string b.tx] _ (w.heap.size + 3) 61 [.int .u64 (p.num : Int), .int .u64 (tk : Int), .string p.tx] _ rfl q8 Try.underlying47 rfl infoRSn rfl s9 Try.underlying61 rfl infoRSt rfl s10 Try.underlying61 rfl infoRSt) rfl ⟨g6, cap6, rfl, hs, by omega, bb⟩
      · have e2 : ¬ (Y : Int) ≤ (tk : Int) := by omega
        have e3 : (X : Int) ≤ (tk : Int) := by omega
        clear hle
        go_wp2_with fail
        refine (A2.out _).mono ?_
        rintro e wq ⟨rfl, hq⟩
        obtain rfl := hq.symm
        go_wp2_with fail
        refine (A1.out _).mono ?_
        rintro e wq ⟨rfl, hq⟩
        obtain rfl := hq.symm
        have c0 := r4.cell 0
        have f0 := r4.frozen 0
        simp only [List.getElem?_cons_zero] at c0
        have r4b := r4.set 0 (.slice (some ⟨g6, 0, none⟩) (n + 1) cap6)
        simp only [List.set_cons_zero] at r4b
        have c2 := r4b.cell 2
        have f2 := r4b.frozen 2
        simp only [List.getElem?_cons_zero, List.getElem?_cons_succ] at c2
        have r4c := r4b.set 2 (.int .u64 (tk : Int))
        simp only [List.set_cons_succ, List.set_cons_zero] at r4c
        replace q8 := (q8.other (k := w.heap.size) (i := 0) (by omega) (.slice (some ⟨g6, 0, none⟩) (n + 1) cap6)).other (k := w.heap.size) (i := 2) (by omega) (.int .u64 (tk : Int))
        replace s9 := (s9.other (k := w.heap.size) (i := 0) (by omega) (.slice (some ⟨g6, 0, none⟩) (n + 1) cap6)).other (k := w.heap.size) (i := 2) (by omega) (.int .u64 (tk : Int))
        replace s10 := (s10.other (k := w.heap.size) (i := 0) (by omega) (.slice (some ⟨g6, 0, none⟩) (n + 1) cap6)).other (k := w.heap.size) (i := 2) (by omega) (.int .u64 (tk : Int))
        replace hs := (hs.other (k := w.heap.size) (i := 0) (by omega) (.slice (some ⟨g6, 0, none⟩) (n + 1) cap6)).other (k := w.heap.size) (i := 2) (by omega) (.int .u64 (tk : Int))
        replace bb := (bb.setCell (p := ⟨w.heap.size, 0, none⟩) (Nat.le_refl _) (.slice (some ⟨g6, 0, none⟩) (n + 1) cap6)).setCell (p := ⟨w.heap.size, 2, none⟩) (Nat.le_refl _) (.int .u64 (tk : Int))
        clear r4 r4b
        go_wp2
        generalize ((w6.setCell ⟨g6, n * 3 + 1, none⟩ (.int .u64 (tk : Int))).setCell ⟨w.heap.size, 0, none⟩ (.slice (some ⟨g6, 0, none⟩) (n + 1) cap6)).setCell ⟨w.heap.size, 2, none⟩ (.int .u64 (tk : Int)) = wt at *
        clear c0 f0 c2 f2
        have z1 : IntKind.i64.wrap (((n + 1 : Nat) : Int) - 1) = ((n : Nat) : Int) := by rw [IntKind.wrap_i64]; omega
        have z2 : ((n : Nat) : Int) < ((n + 1 : Nat) : Int) := by omega
        have z3 : (0 : Int) < ((n + 1 : Nat) : Int) := by omega
        refine wp_region_held_drew (S := fun w' => Row w' w.heap.size 47 [.slice (some ⟨g6, 0, none⟩) (n + 1) cap6, .string now, .int .u64 (tk : Int)] ∧ S15.StAt w' g6 0 (L.set n ⟨p.num, tk, p.tx⟩) ∧ Below w.heap.size w w') (by kernel_rfl) (⟨r4c.drew, hs.drew, bb.drew⟩) (fun hHeld => ?_)
        replace q8 := q8.drew
        replace s9 := s9.drew
        replace s10 := s10.drew
        generalize wt.drew = wd21 at *
        refine take_d 0 (some 79) (.agg #[.slice (some ⟨g6, 0, none⟩) (n + 1) cap6, .string now, .int .u64 (tk : Int)]) rfl (by kernel_rfl) (by kernel_rfl) (by kernel_rfl) (fun _ _ _ h => h) (fun oi h => by cases h; exact yieldsIf_load_mid (by rfl) 47 (.tmp 4) rfl w.heap.size 0 rfl ([.slice (some ⟨g6, 0, none⟩) (n + 1) cap6, .string now, .int .u64 (tk : Int)]) _ (fun w' hS' => hS'.1.range) Try.underlying47 rfl infoRSn) hHeld ?_
        try simp only [Act.put, List.setIfInBounds_toArray, List.set_cons_zero, List.set_cons_succ]
        refine take_d 1 (some 80) (.slice (some ⟨g6, 0, none⟩) (n + 1) cap6) rfl (by kernel_rfl) (by kernel_rfl) (by kernel_rfl) (fun _ _ _ h => h) (fun oi h => by cases h; exact Or.inl ⟨by rfl, fun w' hS' => by go_simp⟩) hHeld ?_
        try simp only [Act.put, List.setIfInBounds_toArray, List.set_cons_zero, List.set_cons_succ]
        refine take_d 2 (some 81) (.pointer (some ⟨g6, 0, none⟩)) rfl (by kernel_rfl) (by kernel_rfl) (by kernel_rfl) (fun _ _ _ h => h) (fun oi h => by cases h; exact Or.inl ⟨by rfl, fun w' hS' => by have h9 : ¬ (((n : Int) + 1) ≤ 0) := (by omega); have h8 : (0 : Int) ≤ (n : Int) := (by omega); have h7' : ¬ (((n : Int) + 1) ≤ (n : Int)) := (by omega); have h6' : IntKind.i64.wrap (n : Int) = (n : Int) := (by rw [IntKind.wrap_i64]; omega); go_simp⟩) hHeld ?_
        try simp only [Act.put, List.setIfInBounds_toArray, List.set_cons_zero, List.set_cons_succ]
        refine take_d 3 (some 82) (.agg #[.int .u64 (b.num : Int), .int .u64 (b.tick : Int), .string b.tx]) rfl (by kernel_rfl) (by kernel_rfl) (by kernel_rfl) (fun _ _ _ h => h) (fun oi h => by cases h; exact yieldsIf_load_mid (by rfl) 61 (.tmp 81) rfl g6 (0) rfl [.int .u64 (b.num : Int), .int .u64 (b.tick : Int), .string b.tx] _ (fun w' hS' => by have h := (hS'.2.1).load HB.out; simp only [Nat.zero_add, Nat.zero_mul] at h; exact h) Try.underlying61 rfl infoRSt) hHeld ?_
        try simp only [Act.put, List.setIfInBounds_toArray, List.set_cons_zero, List.set_cons_succ]
        refine take_d 4 (some 83) (.slice (some ⟨g6, 0, none⟩) (n + 1) cap6) rfl (by kernel_rfl) (by kernel_rfl) (by kernel_rfl) (fun _ _ _ h => h) (fun oi h => by cases h; exact Or.inl ⟨by rfl, fun w' hS' => by go_simp⟩) hHeld ?_
        try simp only [Act.put, List.setIfInBounds_toArray, List.set_cons_zero, List.set_cons_succ]
        refine take_d 5 (some 84) (.slice (some ⟨g6, 0, none⟩) (n + 1) cap6) rfl (by kernel_rfl) (by kernel_rfl) (by kernel_rfl) (fun _ _ _ h => h) (fun oi h => by cases h; exact Or.inl ⟨by rfl, fun w' hS' => by go_simp⟩) hHeld ?_
        try simp only [Act.put, List.setIfInBounds_toArray, List.set_cons_zero, List.set_cons_succ]
        refine take_d 6 (some 85) (.int .i64 ((n + 1 : Nat) : Int)) rfl (by kernel_rfl) (by kernel_rfl) (by kernel_rfl) (fun _ _ _ h => h) (fun oi h => by cases h; exact Or.inl ⟨by rfl, fun w' hS' => by go_simp⟩) hHeld ?_
        try simp only [Act.put, List.setIfInBounds_toArray, List.set_cons_zero, List.set_cons_succ]
        refine take_d 7 (some 86) (.int .i64 ((n : Nat) : Int)) rfl (by kernel_rfl) (by kernel_rfl) (by kernel_rfl) (fun _ _ _ h => h) (fun oi h => by cases h; exact Or.inl ⟨by rfl, fun w' hS' => by have h9 : ¬ (((n : Int) + 1) ≤ 0) := (by omega); have h8 : (0 : Int) ≤ (n : Int) := (by omega); have h7' : ¬ (((n : Int) + 1) ≤ (n : Int)) := (by omega); have h6' : IntKind.i64.wrap (n : Int) = (n : Int) := (by rw [IntKind.wrap_i64]; omega); go_simp⟩) hHeld ?_
        try simp only [Act.put, List.setIfInBounds_toArray, List.set_cons_zero, List.set_cons_succ]
        refine take_d 8 (some 87) (.pointer (some ⟨g6, (n) * 3, none⟩)) rfl (by kernel_rfl) (by kernel_rfl) (by kernel_rfl) (fun _ _ _ h => h) (fun oi h => by cases h; exact Or.inl ⟨by rfl, fun w' hS' => by have h9 : ¬ (((n : Int) + 1) ≤ 0) := (by omega); have h8 : (0 : Int) ≤ (n : Int) := (by omega); have h7' : ¬ (((n : Int) + 1) ≤ (n : Int)) := (by omega); have h6' : IntKind.i64.wrap (n : Int) = (n : Int) := (by rw [IntKind.wrap_i64]; omega); go_simp⟩) hHeld ?_
        try simp only [Act.put, List.setIfInBounds_toArray, List.set_cons_zero, List.set_cons_succ]
        refine take_d 9 (some 88) (.agg #[.int .u64 (p.num : Int), .int .u64 (tk : Int), .string p.tx]) rfl (by kernel_rfl) (by kernel_rfl) (by kernel_rfl) (fun _ _ _ h => h) (fun oi h => by cases h; exact yieldsIf_load_mid (by rfl) 61 (.tmp 87) rfl g6 ((n) * 3) rfl [.int .u64 (p.num : Int), .int .u64 (tk : Int), .string p.tx] _ (fun w' hS' => by have h := (hS'.2.1).load HT.out; simp only [Nat.zero_add, Nat.zero_mul] at h; exact h) Try.underlying61 rfl infoRSt) hHeld ?_
        try simp only [Act.put, List.setIfInBounds_toArray, List.set_cons_zero, List.set_cons_succ]
        refine one_d 10 none rfl (by kernel_rfl) ?_
        intro o ho1 hd K hK
        cases ho1
        refine step_store_row rfl 47 (.tmp 8) (.tmp 79) rfl ((w.heap.size + 1)) ([.slice (some ⟨g6, 0, none⟩) (n + 1) cap6, .string now, .int .u64 (tk : Int)]) rfl rfl _ _ q8 infoRSn rfl (by simp [Value.oneCell']) ?_
        rw [hd]
        replace q8 := q8.setRow ([.slice (some ⟨g6, 0, none⟩) (n + 1) cap6, .string now, .int .u64 (tk : Int)])
        replace s9 := s9.setRow_other (k := (w.heap.size + 1)) (by omega) (List.toArray ([.slice (some ⟨g6, 0, none⟩) (n + 1) cap6, .string now, .int .u64 (tk : Int)]))
        replace s10 := s10.setRow_other (k := (w.heap.size + 1)) (by omega) (List.toArray ([.slice (some ⟨g6, 0, none⟩) (n + 1) cap6, .string now, .int .u64 (tk : Int)]))
        have hH : Row (wd21.setRow ((w.heap.size + 1)) (List.toArray ([.slice (some ⟨g6, 0, none⟩) (n + 1) cap6, .string now, .int .u64 (tk : Int)]))) w.heap.size 47 [.slice (some ⟨g6, 0, none⟩) (n + 1) cap6, .string now, .int .u64 (tk : Int)] ∧ S15.StAt (wd21.setRow ((w.heap.size + 1)) (List.toArray ([.slice (some ⟨g6, 0, none⟩) (n + 1) cap6, .string now, .int .u64 (tk : Int)]))) g6 0 (L.set n ⟨p.num, tk, p.tx⟩) ∧ Below w.heap.size w (wd21.setRow ((w.heap.size + 1)) (List.toArray ([.slice (some ⟨g6, 0, none⟩) (n + 1) cap6, .string now, .int .u64 (tk : Int)]))) := ⟨hHeld.1.setRow_other (k := (w.heap.size + 1)) (by omega) (List.toArray ([.slice (some ⟨g6, 0, none⟩) (n + 1) cap6, .string now, .int .u64 (tk : Int)])), hHeld.2.1.setRow (k := ((w.heap.size + 1))) (by omega) (List.toArray ([.slice (some ⟨g6, 0, none⟩) (n + 1) cap6, .string now, .int .u64 (tk : Int)])), below_row hHeld.2.2 (show _ ≤ (w.heap.size + 1) by omega) (List.toArray ([.slice (some ⟨g6, 0, none⟩) (n + 1) cap6, .string now, .int .u64 (tk : Int)]))⟩
        clear hHeld
        generalize wd21.setRow ((w.heap.size + 1)) (List.toArray ([.slice (some ⟨g6, 0, none⟩) (n + 1) cap6, .string now, .int .u64 (tk : Int)])) = v22 at *
        refine hK.out _ _ hH (fun hHeld => ?_)
        clear hH
        clear hK K hd
        try simp only [Act.put]
        refine one_d 11 none rfl (by kernel_rfl) ?_
        intro o ho1 hd K hK
        cases ho1
        refine step_store_row rfl 61 (.tmp 9) (.tmp 82) rfl ((w.heap.size + 2)) ([.int .u64 (b.num : Int), .int .u64 (b.tick : Int), .string b.tx]) rfl rfl _ _ s9 infoRSt rfl (by simp [Value.oneCell']) ?_
        rw [hd]
        replace q8 := q8.setRow_other (k := (w.heap.size + 2)) (by omega) (List.toArray ([.int .u64 (b.num : Int), .int .u64 (b.tick : Int), .string b.tx]))
        replace s9 := s9.setRow ([.int .u64 (b.num : Int), .int .u64 (b.tick : Int), .string b.tx])
        replace s10 := s10.setRow_other (k := (w.heap.size + 2)) (by omega) (List.toArray ([.int .u64 (b.num : Int), .int .u64 (b.tick : Int), .string b.tx]))
        have hH : Row (v22.setRow ((w.heap.size + 2)) (List.toArray ([.int .u64 (b.num : Int), .int .u64 (b.tick : Int), .string b.tx]))) w.heap.size 47 [.slice (some ⟨g6, 0, none⟩) (n + 1) cap6, .string now, .int .u64 (tk : Int)] ∧ S15.StAt (v22.setRow ((w.heap.size + 2)) (List.toArray ([.int .u64 (b.num : Int), .int .u64 (b.tick : Int), .string b.tx]))) g6 0 (L.set n ⟨p.num, tk, p.tx⟩) ∧ Below w.heap.size w (v22.setRow ((w.heap.size + 2)) (List.toArray ([.int .u64 (b.num : Int), .int .u64 (b.tick : Int), .string b.tx]))) := ⟨hHeld.1.setRow_other (k := (w.heap.size + 2)) (by omega) (List.toArray ([.int .u64 (b.num : Int), .int .u64 (b.tick : Int), .string b.tx])), hHeld.2.1.setRow (k := ((w.heap.size + 2))) (by omega) (List.toArray ([.int .u64 (b.num : Int), .int .u64 (b.tick : Int), .string b.tx])), below_row hHeld.2.2 (show _ ≤ (w.heap.size + 2) by omega) (List.toArray ([.int .u64 (b.num : Int), .int .u64 (b.tick : Int), .string b.tx]))⟩
        clear hHeld
        generalize v22.setRow ((w.heap.size + 2)) (List.toArray ([.int .u64 (b.num : Int), .int .u64 (b.tick : Int), .string b.tx])) = v23 at *
        refine hK.out _ _ hH (fun hHeld => ?_)
        clear hH
        clear hK K hd
        try simp only [Act.put]
        refine one_d 12 none rfl (by kernel_rfl) ?_
        intro o ho1 hd K hK
        cases ho1
        refine step_store_row rfl 61 (.tmp 10) (.tmp 88) rfl ((w.heap.size + 3)) ([.int .u64 (p.num : Int), .int .u64 (tk : Int), .string p.tx]) rfl rfl _ _ s10 infoRSt rfl (by simp [Value.oneCell']) ?_
        rw [hd]
        replace q8 := q8.setRow_other (k := (w.heap.size + 3)) (by omega) (List.toArray ([.int .u64 (p.num : Int), .int .u64 (tk : Int), .string p.tx]))
        replace s9 := s9.setRow_other (k := (w.heap.size + 3)) (by omega) (List.toArray ([.int .u64 (p.num : Int), .int .u64 (tk : Int), .string p.tx]))
        replace s10 := s10.setRow ([.int .u64 (p.num : Int), .int .u64 (tk : Int), .string p.tx])
        have hH : Row (v23.setRow ((w.heap.size + 3)) (List.toArray ([.int .u64 (p.num : Int), .int .u64 (tk : Int), .string p.tx]))) w.heap.size 47 [.slice (some ⟨g6, 0, none⟩) (n + 1) cap6, .string now, .int .u64 (tk : Int)] ∧ S15.StAt (v23.setRow ((w.heap.size + 3)) (List.toArray ([.int .u64 (p.num : Int), .int .u64 (tk : Int), .string p.tx]))) g6 0 (L.set n ⟨p.num, tk, p.tx⟩) ∧ Below w.heap.size w (v23.setRow ((w.heap.size + 3)) (List.toArray ([.int .u64 (p.num : Int), .int .u64 (tk : Int), .string p.tx]))) := ⟨hHeld.1.setRow_other (k := (w.heap.size + 3)) (by omega) (List.toArray ([.int .u64 (p.num : Int), .int .u64 (tk : Int), .string p.tx])), hHeld.2.1.setRow (k := ((w.heap.size + 3))) (by omega) (List.toArray ([.int .u64 (p.num : Int), .int .u64 (tk : Int), .string p.tx])), below_row hHeld.2.2 (show _ ≤ (w.heap.size + 3) by omega) (List.toArray ([.int .u64 (p.num : Int), .int .u64 (tk : Int), .string p.tx]))⟩
        clear hHeld
        generalize v23.setRow ((w.heap.size + 3)) (List.toArray ([.int .u64 (p.num : Int), .int .u64 (tk : Int), .string p.tx])) = v24 at *
        refine hK.out _ _ hH (fun hHeld => ?_)
        clear hH
        clear hK K hd
        try simp only [Act.put]
        refine take_d 13 (some 11) (.bool true) rfl (by kernel_rfl) (by kernel_rfl) (by kernel_rfl) (fun _ _ _ h => h) (fun oi h => by cases h; exact Or.inl ⟨by rfl, fun w' hS' => by go_simp⟩) hHeld ?_
        try simp only [Act.put, List.setIfInBounds_toArray]
        refine wpAnyH_done (by kernel_rfl) ?_ _
        try simp only [Act.put]
        replace r4c := hHeld.1
        replace hs := hHeld.2.1
        replace bb := hHeld.2.2
        clear hHeld
        go_wp2
        try simp only [Act.put, List.setIfInBounds_toArray]
        exact bodyPost_ret (results_row3_tmp rfl _ _ (w.heap.size + 1) 47 [.slice (some ⟨g6, 0, none⟩) (n + 1) cap6, .string now, .int .u64 (tk : Int)] _ (w.heap.size + 2) 61 [.int .u64 (b.num : Int), .int .u64 (b.tick : Int), .string b.tx] _ (w.heap.size + 3) 61 [.int .u64 (p.num : Int), .int .u64 (tk : Int), .string p.tx] _ rfl q8 Try.underlying47 rfl infoRSn rfl s9 Try.underlying61 rfl infoRSt rfl s10 Try.underlying61 rfl infoRSt) rfl ⟨g6, cap6, rfl, hs, by omega, bb⟩
set_option maxHeartbeats 4000000 in
theorem refNext_none (now : ByteArray) (g off n cap last : Nat) (L : List S15.St) (p : S15.St) (w : World) (hn : L.length = n + 1) (h8 : n < 8) (hp : L[n]? = some p) (ha : S15.StAt w g off L) (tk wait beat : Nat) (hw : wait ≤ 18446744073709551615) (hbt : beat ≤ 18446744073709551615) (hl : last ≤ 18446744073709551615) (ht : p.tick ≤ 18446744073709551615) (hd : now = p.tx ∨ (¬ now = p.tx ∧ ¬ n < 7)) (hle : tk < S15.againN n last p.tick wait beat) :
    Calls Try.prog 23 #[.agg #[.slice (some ⟨g, off, none⟩) (n + 1) cap, .string now, .int .u64 (last : Int)], .int .u64 (tk : Int), .int .u64 (wait : Int), .int .u64 (beat : Int)] w fun e w' => e = .returned (.tuple #[.agg #[.slice (some ⟨g, off, none⟩) (n + 1) cap, .string now, .int .u64 (last : Int)], .agg #[.int .u64 0, .int .u64 0, .string ⟨#[]⟩], .agg #[.int .u64 0, .int .u64 0, .string ⟨#[]⟩], .bool false]) ∧ Below w.heap.size w w' := by
  have A1 := Lib.hid (laterN_any last beat hl hbt)
  have A2 := Lib.hid (laterN_any p.tick wait ht hw)
  unfold S15.againN at hle
  have b1 := S15.addS_le last beat
  have b2 := S15.addS_le p.tick wait
  generalize S15.addS last beat = X at *
  generalize S15.addS p.tick wait = Y at *
  rcases hd with d | ⟨d, h7⟩
  · subst d
    have hr0 := ha.load hp
    have la : g < w.heap.size := ha.lt
    have y1 : IntKind.i64.wrap (((n + 1 : Nat) : Int) - 1) = (n : Int) := by rw [IntKind.wrap_i64]; omega
    have y2 : (n : Int) < ((n + 1 : Nat) : Int) := by omega
    obtain ⟨i0, hif, hz0, hz1, hz2⟩ := info_parts infoRStZ
    have r4a : Row ((((w.alloc (.cells #[.slice (some ⟨g, off, none⟩) (n + 1) cap, .string p.tx, .int .u64 (last : Int)] 47 (0, 0))).alloc (.cells #[.slice none 0 0, .string ⟨#[]⟩, .int .u64 0] 47 (0, 0))).alloc (.cells #[.int .u64 0, .int .u64 0, .string ⟨#[]⟩] 61 (0, 0))).alloc (.cells #[.int .u64 0, .int .u64 0, .string ⟨#[]⟩] 61 (0, 0))) w.heap.size 47 [.slice (some ⟨g, off, none⟩) (n + 1) cap, .string p.tx, .int .u64 (last : Int)] := (((Row.new' rfl rfl).alloc _).alloc _).alloc _
    have c15 := r4a.cell 0
    simp only [List.getElem?_cons_zero] at c15
    have ha4 := (((ha.alloc (.cells #[.slice (some ⟨g, off, none⟩) (n + 1) cap, .string p.tx, .int .u64 (last : Int)] 47 (0, 0))).alloc (.cells #[.slice none 0 0, .string ⟨#[]⟩, .int .u64 0] 47 (0, 0))).alloc (.cells #[.int .u64 0, .int .u64 0, .string ⟨#[]⟩] 61 (0, 0))).alloc (.cells #[.int .u64 0, .int .u64 0, .string ⟨#[]⟩] 61 (0, 0))
    have hr2 : ((((w.alloc (.cells #[.slice (some ⟨g, off, none⟩) (n + 1) cap, .string p.tx, .int .u64 (last : Int)] 47 (0, 0))).alloc (.cells #[.slice none 0 0, .string ⟨#[]⟩, .int .u64 0] 47 (0, 0))).alloc (.cells #[.int .u64 0, .int .u64 0, .string ⟨#[]⟩] 61 (0, 0))).alloc (.cells #[.int .u64 0, .int .u64 0, .string ⟨#[]⟩] 61 (0, 0))).rangeAt g (off + n * 3) [.int .u64 (p.num : Int), .int .u64 (p.tick : Int), .string p.tx] := ha4.load hp
    have r4 := r4a.alloc (.cells #[.int .u64 (p.num : Int), .int .u64 (p.tick : Int), .string p.tx] 61 (0, 0))
    have q8 : Row (((((w.alloc (.cells #[.slice (some ⟨g, off, none⟩) (n + 1) cap, .string p.tx, .int .u64 (last : Int)] 47 (0, 0))).alloc (.cells #[.slice none 0 0, .string ⟨#[]⟩, .int .u64 0] 47 (0, 0))).alloc (.cells #[.int .u64 0, .int .u64 0, .string ⟨#[]⟩] 61 (0, 0))).alloc (.cells #[.int .u64 0, .int .u64 0, .string ⟨#[]⟩] 61 (0, 0))).alloc (.cells #[.int .u64 (p.num : Int), .int .u64 (p.tick : Int), .string p.tx] 61 (0, 0))) (w.heap.size + 1) 47 [.slice none 0 0, .string ⟨#[]⟩, .int .u64 0] := (((Row.new' rfl (by simp)).alloc _).alloc _).alloc _
    have s9 : Row (((((w.alloc (.cells #[.slice (some ⟨g, off, none⟩) (n + 1) cap, .string p.tx, .int .u64 (last : Int)] 47 (0, 0))).alloc (.cells #[.slice none 0 0, .string ⟨#[]⟩, .int .u64 0] 47 (0, 0))).alloc (.cells #[.int .u64 0, .int .u64 0, .string ⟨#[]⟩] 61 (0, 0))).alloc (.cells #[.int .u64 0, .int .u64 0, .string ⟨#[]⟩] 61 (0, 0))).alloc (.cells #[.int .u64 (p.num : Int), .int .u64 (p.tick : Int), .string p.tx] 61 (0, 0))) (w.heap.size + 2) 61 [.int .u64 0, .int .u64 0, .string ⟨#[]⟩] := ((Row.new' rfl (by simp)).alloc _).alloc _
    have s10 : Row (((((w.alloc (.cells #[.slice (some ⟨g, off, none⟩) (n + 1) cap, .string p.tx, .int .u64 (last : Int)] 47 (0, 0))).alloc (.cells #[.slice none 0 0, .string ⟨#[]⟩, .int .u64 0] 47 (0, 0))).alloc (.cells #[.int .u64 0, .int .u64 0, .string ⟨#[]⟩] 61 (0, 0))).alloc (.cells #[.int .u64 0, .int .u64 0, .string ⟨#[]⟩] 61 (0, 0))).alloc (.cells #[.int .u64 (p.num : Int), .int .u64 (p.tick : Int), .string p.tx] 61 (0, 0))) (w.heap.size + 3) 61 [.int .u64 0, .int .u64 0, .string ⟨#[]⟩] := (Row.new' rfl (by simp)).alloc _
    have t12 : Row (((((w.alloc (.cells #[.slice (some ⟨g, off, none⟩) (n + 1) cap, .string p.tx, .int .u64 (last : Int)] 47 (0, 0))).alloc (.cells #[.slice none 0 0, .string ⟨#[]⟩, .int .u64 0] 47 (0, 0))).alloc (.cells #[.int .u64 0, .int .u64 0, .string ⟨#[]⟩] 61 (0, 0))).alloc (.cells #[.int .u64 0, .int .u64 0, .string ⟨#[]⟩] 61 (0, 0))).alloc (.cells #[.int .u64 (p.num : Int), .int .u64 (p.tick : Int), .string p.tx] 61 (0, 0))) (w.heap.size + 4) 61 [.int .u64 (p.num : Int), .int .u64 (p.tick : Int), .string p.tx] := Row.new' rfl (by simp)
    have ha5 := ha4.alloc (.cells #[.int .u64 (p.num : Int), .int .u64 (p.tick : Int), .string p.tx] 61 (0, 0))
    have bb : Below w.heap.size w (((((w.alloc (.cells #[.slice (some ⟨g, off, none⟩) (n + 1) cap, .string p.tx, .int .u64 (last : Int)] 47 (0, 0))).alloc (.cells #[.slice none 0 0, .string ⟨#[]⟩, .int .u64 0] 47 (0, 0))).alloc (.cells #[.int .u64 0, .int .u64 0, .string ⟨#[]⟩] 61 (0, 0))).alloc (.cells #[.int .u64 0, .int .u64 0, .string ⟨#[]⟩] 61 (0, 0))).alloc (.cells #[.int .u64 (p.num : Int), .int .u64 (p.tick : Int), .string p.tx] 61 (0, 0))) := (((((Below.refl _ _).alloc (Nat.le_refl _) _).alloc (by simp) _).alloc (by simp; omega) _).alloc (by simp; omega) _).alloc (by simp; omega) _
    have h5 : w.heap.size + 5 ≤ (((((w.alloc (.cells #[.slice (some ⟨g, off, none⟩) (n + 1) cap, .string p.tx, .int .u64 (last : Int)] 47 (0, 0))).alloc (.cells #[.slice none 0 0, .string ⟨#[]⟩, .int .u64 0] 47 (0, 0))).alloc (.cells #[.int .u64 0, .int .u64 0, .string ⟨#[]⟩] 61 (0, 0))).alloc (.cells #[.int .u64 0, .int .u64 0, .string ⟨#[]⟩] 61 (0, 0))).alloc (.cells #[.int .u64 (p.num : Int), .int .u64 (p.tick : Int), .string p.tx] 61 (0, 0))).heap.size := by simp
    have c24 : (((((w.alloc (.cells #[.slice (some ⟨g, off, none⟩) (n + 1) cap, .string p.tx, .int .u64 (last : Int)] 47 (0, 0))).alloc (.cells #[.slice none 0 0, .string ⟨#[]⟩, .int .u64 0] 47 (0, 0))).alloc (.cells #[.int .u64 0, .int .u64 0, .string ⟨#[]⟩] 61 (0, 0))).alloc (.cells #[.int .u64 0, .int .u64 0, .string ⟨#[]⟩] 61 (0, 0))).alloc (.cells #[.int .u64 (p.num : Int), .int .u64 (p.tick : Int), .string p.tx] 61 (0, 0))).cell? ⟨w.heap.size, 0, none⟩ = some (.slice (some ⟨g, off, none⟩) (n + 1) cap) := r4.cell 0
    have hnews : Hid (∀ (j : Nat) (u : Value), (S15.cellsL L)[j]? = some u → (((((w.alloc (.cells #[.slice (some ⟨g, off, none⟩) (n + 1) cap, .string p.tx, .int .u64 (last : Int)] 47 (0, 0))).alloc (.cells #[.slice none 0 0, .string ⟨#[]⟩, .int .u64 0] 47 (0, 0))).alloc (.cells #[.int .u64 0, .int .u64 0, .string ⟨#[]⟩] 61 (0, 0))).alloc (.cells #[.int .u64 0, .int .u64 0, .string ⟨#[]⟩] 61 (0, 0))).alloc (.cells #[.int .u64 (p.num : Int), .int .u64 (p.tick : Int), .string p.tx] 61 (0, 0))).cell? ((⟨g, off, none⟩ : Addr).add j) = some u) := fun j u hj => by rw [S15.addrAdd]; exact ha5.cellAt hj
    have hlen : Hid ((S15.cellsL L).length = (n + 1) * 3) := by show _ = _; rw [S15.cellsL_len, hn]
    have hone := Lib.hid (S15.cellsL_one L)
    have hown0 : (((((w.alloc (.cells #[.slice (some ⟨g, off, none⟩) (n + 1) cap, .string p.tx, .int .u64 (last : Int)] 47 (0, 0))).alloc (.cells #[.slice none 0 0, .string ⟨#[]⟩, .int .u64 0] 47 (0, 0))).alloc (.cells #[.int .u64 0, .int .u64 0, .string ⟨#[]⟩] 61 (0, 0))).alloc (.cells #[.int .u64 0, .int .u64 0, .string ⟨#[]⟩] 61 (0, 0))).alloc (.cells #[.int .u64 (p.num : Int), .int .u64 (p.tick : Int), .string p.tx] 61 (0, 0))).ownsRow (w.heap.size + 5) 61 3 (.slice none 0 0) 0 [] := World.ownsRow_nil _ _ _ _
    have HN := Lib.hid hn
    clear ha ha4 hr0 hn r4a
    go_enter Try.func23, Try.ntmps23
    have tk1 : True := True.intro
    go_wp2_with (first | (refine at_op (.load 61 (.tmp 20)) (by with_reducible rfl) ?_; clear tk1; refine wpList_load_mid rfl 61 (.tmp 20) rfl g (off + n * 3) rfl _ _ hr2 Try.underlying61 rfl infoRSt ?_) | (at_builtin; go_loud (refine wpList_append_own _ rfl _ _ 45 rfl (w.heap.size + 5) 61 i0 _ 3 32 Try.underlying45 hif hz0 hz1 hz2 rfl (by decide) (.slice none 0 0) 0 [] rfl hown0 ⟨g, off, none⟩ (n + 1) cap (S15.cellsL L) rfl hlen.out hnews.out hone.out (by unfold maxLen; omega) (by omega) h5 ?_)))
    intro v6 w6 ho6 hgr _
    have ho6 : w6.ownsRow (w.heap.size + 5) 61 3 v6 (n + 1) (S15.cellsL L) := by simpa using ho6
    replace r4 := r4.grownV3 hgr (fun j hj => by cases hj)
    replace q8 := q8.grownV3 hgr (fun j hj => by cases hj)
    replace s9 := s9.grownV3 hgr (fun j hj => by cases hj)
    replace s10 := s10.grownV3 hgr (fun j hj => by cases hj)
    replace t12 := t12.grownV3 hgr (fun j hj => by cases hj)
    replace bb := bb.grown hgr (by omega) (fun j hj => by cases hj)
    have h6 : w.heap.size + 5 ≤ w6.heap.size := Nat.le_trans h5 hgr.size
    clear hgr hown0 hnews hlen hone c24 hr2 c15 ha5 h5
    obtain ⟨g6, cap6, rfl, hg1, hg2, hg3, hg4⟩ := S15.own_slice ho6
    have c27 : w6.cell? ⟨w.heap.size, 1, none⟩ = some (.string p.tx) := r4.cell 1
    have c29 : w6.cell? ⟨w.heap.size + 4, 2, none⟩ = some (.string p.tx) := t12.cell 2
    have c52 : w6.cell? ⟨w.heap.size + 4, 1, none⟩ = some (.int .u64 (p.tick : Int)) := t12.cell 1
    have c60 : w6.cell? ⟨w.heap.size, 2, none⟩ = some (.int .u64 (last : Int)) := r4.cell 2
    clear ho6 t12
    by_cases hc0 : n = 0
    · rw [if_pos hc0] at hle
      have e1 : ¬ (1 : Int) < ((n + 1 : Nat) : Int) := by omega
      have e2 : ¬ (X : Int) ≤ (tk : Int) := by omega
      clear hc0 hle
      go_wp2_with fail
      refine (A1.out _).mono ?_
      rintro e wq ⟨rfl, hq⟩
      obtain rfl := hq.symm
      go_wp2_with (first | refine wpList_load_row rfl 47 (.tmp 4) rfl (w.heap.size) rfl _ _ _ _ r4 Try.underlying47 rfl infoRSn ?_ | refine wpList_store_row rfl 47 (.tmp 8) (.tmp 72) rfl ((w.heap.size + 1)) _ rfl rfl _ _ q8 infoRSn rfl (by simp [Value.oneCell']) ?_ | refine wpList_store_row rfl 61 (.tmp 9) (.tmp 73) rfl ((w.heap.size + 2)) _ rfl rfl _ _ (s9.setRow_other (k := (w.heap.size + 1)) (by omega) (List.toArray ([.slice (some ⟨g, off, none⟩) (n + 1) cap, .string p.tx, .int .u64 (last : Int)]))) infoRSt rfl (by simp [Value.oneCell']) ?_ | refine wpList_store_row rfl 61 (.tmp 10) (.tmp 74) rfl ((w.heap.size + 3)) _ rfl rfl _ _ ((s10.setRow_other (k := (w.heap.size + 1)) (by omega) (List.toArray ([.slice (some ⟨g, off, none⟩) (n + 1) cap, .string p.tx, .int .u64 (last : Int)]))).setRow_other (k := w.heap.size + 2) (by omega) (List.toArray [.int .u64 0, .int .u64 0, .string ⟨#[]⟩])) infoRSt rfl (by simp [Value.oneCell']) ?_)
      exact bodyPost_ret (results_row3_tmp rfl _ _ (w.heap.size + 1) 47 [.slice (some ⟨g, off, none⟩) (n + 1) cap, .string p.tx, .int .u64 (last : Int)] _ (w.heap.size + 2) 61 [.int .u64 0, .int .u64 0, .string ⟨#[]⟩] _ (w.heap.size + 3) 61 [.int .u64 0, .int .u64 0, .string ⟨#[]⟩] _ rfl (((q8.setRow [.slice (some ⟨g, off, none⟩) (n + 1) cap, .string p.tx, .int .u64 (last : Int)]).setRow_other (k := w.heap.size + 2) (by omega) _).setRow_other (k := w.heap.size + 3) (by omega) _) Try.underlying47 rfl infoRSn rfl ((((s9.setRow_other (k := w.heap.size + 1) (by omega) _)).setRow [.int .u64 0, .int .u64 0, .string ⟨#[]⟩]).setRow_other (k := w.heap.size + 3) (by omega) _) Try.underlying61 rfl infoRSt rfl (((s10.setRow_other (k := w.heap.size + 1) (by omega) _).setRow_other (k := w.heap.size + 2) (by omega) _).setRow [.int .u64 0, .int .u64 0, .string ⟨#[]⟩]) Try.underlying61 rfl infoRSt) rfl ⟨rfl, below_row (below_row (below_row bb (show _ ≤ w.heap.size + 1 by omega) _) (show _ ≤ w.heap.size + 2 by omega) _) (show _ ≤ w.heap.size + 3 by omega) _⟩
    · rw [if_neg hc0] at hle
      have e1 : (1 : Int) < ((n + 1 : Nat) : Int) := by omega
      have e2 : ¬ (Y : Int) ≤ (tk : Int) := by omega
      have e3 : ¬ (X : Int) ≤ (tk : Int) := by omega
      clear hc0 hle
      go_wp2_with fail
      refine (A2.out _).mono ?_
      rintro e wq ⟨rfl, hq⟩
      obtain rfl := hq.symm
      go_wp2_with fail
      refine (A1.out _).mono ?_
      rintro e wq ⟨rfl, hq⟩
      obtain rfl := hq.symm
      go_wp2_with (first | refine wpList_load_row rfl 47 (.tmp 4) rfl (w.heap.size) rfl _ _ _ _ r4 Try.underlying47 rfl infoRSn ?_ | refine wpList_store_row rfl 47 (.tmp 8) (.tmp 72) rfl ((w.heap.size + 1)) _ rfl rfl _ _ q8 infoRSn rfl (by simp [Value.oneCell']) ?_ | refine wpList_store_row rfl 61 (.tmp 9) (.tmp 73) rfl ((w.heap.size + 2)) _ rfl rfl _ _ (s9.setRow_other (k := (w.heap.size + 1)) (by omega) (List.toArray ([.slice (some ⟨g, off, none⟩) (n + 1) cap, .string p.tx, .int .u64 (last : Int)]))) infoRSt rfl (by simp [Value.oneCell']) ?_ | refine wpList_store_row rfl 61 (.tmp 10) (.tmp 74) rfl ((w.heap.size + 3)) _ rfl rfl _ _ ((s10.setRow_other (k := (w.heap.size + 1)) (by omega) (List.toArray ([.slice (some ⟨g, off, none⟩) (n + 1) cap, .string p.tx, .int .u64 (last : Int)]))).setRow_other (k := w.heap.size + 2) (by omega) (List.toArray [.int .u64 0, .int .u64 0, .string ⟨#[]⟩])) infoRSt rfl (by simp [Value.oneCell']) ?_)
      exact bodyPost_ret (results_row3_tmp rfl _ _ (w.heap.size + 1) 47 [.slice (some ⟨g, off, none⟩) (n + 1) cap, .string p.tx, .int .u64 (last : Int)] _ (w.heap.size + 2) 61 [.int .u64 0, .int .u64 0, .string ⟨#[]⟩] _ (w.heap.size + 3) 61 [.int .u64 0, .int .u64 0, .string ⟨#[]⟩] _ rfl (((q8.setRow [.slice (some ⟨g, off, none⟩) (n + 1) cap, .string p.tx, .int .u64 (last : Int)]).setRow_other (k := w.heap.size + 2) (by omega) _).setRow_other (k := w.heap.size + 3) (by omega) _) Try.underlying47 rfl infoRSn rfl ((((s9.setRow_other (k := w.heap.size + 1) (by omega) _)).setRow [.int .u64 0, .int .u64 0, .string ⟨#[]⟩]).setRow_other (k := w.heap.size + 3) (by omega) _) Try.underlying61 rfl infoRSt rfl (((s10.setRow_other (k := w.heap.size + 1) (by omega) _).setRow_other (k := w.heap.size + 2) (by omega) _).setRow [.int .u64 0, .int .u64 0, .string ⟨#[]⟩]) Try.underlying61 rfl infoRSt) rfl ⟨rfl, below_row (below_row (below_row bb (show _ ≤ w.heap.size + 1 by omega) _) (show _ ≤ w.heap.size + 2 by omega) _) (show _ ≤ w.heap.size + 3 by omega) _⟩
  · have dl : ¬ now.toList = p.tx.toList := fun hh => d (ByteArray.ext (by simpa [ByteArray.toList_eq] using hh))
    have dl1 : (now.toList == p.tx.toList) = false := by rw [beq_eq_false_iff_ne]; exact dl
    have dl2 : (now == p.tx) = false := by rw [beq_toListBytes]; exact dl1
    have e8 : ¬ ((n + 1 : Nat) : Int) < 8 := by omega
    have hr0 := ha.load hp
    have la : g < w.heap.size := ha.lt
    have y1 : IntKind.i64.wrap (((n + 1 : Nat) : Int) - 1) = (n : Int) := by rw [IntKind.wrap_i64]; omega
    have y2 : (n : Int) < ((n + 1 : Nat) : Int) := by omega
    obtain ⟨i0, hif, hz0, hz1, hz2⟩ := info_parts infoRStZ
    have r4a : Row ((((w.alloc (.cells #[.slice (some ⟨g, off, none⟩) (n + 1) cap, .string now, .int .u64 (last : Int)] 47 (0, 0))).alloc (.cells #[.slice none 0 0, .string ⟨#[]⟩, .int .u64 0] 47 (0, 0))).alloc (.cells #[.int .u64 0, .int .u64 0, .string ⟨#[]⟩] 61 (0, 0))).alloc (.cells #[.int .u64 0, .int .u64 0, .string ⟨#[]⟩] 61 (0, 0))) w.heap.size 47 [.slice (some ⟨g, off, none⟩) (n + 1) cap, .string now, .int .u64 (last : Int)] := (((Row.new' rfl rfl).alloc _).alloc _).alloc _
    have c15 := r4a.cell 0
    simp only [List.getElem?_cons_zero] at c15
    have ha4 := (((ha.alloc (.cells #[.slice (some ⟨g, off, none⟩) (n + 1) cap, .string now, .int .u64 (last : Int)] 47 (0, 0))).alloc (.cells #[.slice none 0 0, .string ⟨#[]⟩, .int .u64 0] 47 (0, 0))).alloc (.cells #[.int .u64 0, .int .u64 0, .string ⟨#[]⟩] 61 (0, 0))).alloc (.cells #[.int .u64 0, .int .u64 0, .string ⟨#[]⟩] 61 (0, 0))
    have hr2 : ((((w.alloc (.cells #[.slice (some ⟨g, off, none⟩) (n + 1) cap, .string now, .int .u64 (last : Int)] 47 (0, 0))).alloc (.cells #[.slice none 0 0, .string ⟨#[]⟩, .int .u64 0] 47 (0, 0))).alloc (.cells #[.int .u64 0, .int .u64 0, .string ⟨#[]⟩] 61 (0, 0))).alloc (.cells #[.int .u64 0, .int .u64 0, .string ⟨#[]⟩] 61 (0, 0))).rangeAt g (off + n * 3) [.int .u64 (p.num : Int), .int .u64 (p.tick : Int), .string p.tx] := ha4.load hp
    have r4 := r4a.alloc (.cells #[.int .u64 (p.num : Int), .int .u64 (p.tick : Int), .string p.tx] 61 (0, 0))
    have q8 : Row (((((w.alloc (.cells #[.slice (some ⟨g, off, none⟩) (n + 1) cap, .string now, .int .u64 (last : Int)] 47 (0, 0))).alloc (.cells #[.slice none 0 0, .string ⟨#[]⟩, .int .u64 0] 47 (0, 0))).alloc (.cells #[.int .u64 0, .int .u64 0, .string ⟨#[]⟩] 61 (0, 0))).alloc (.cells #[.int .u64 0, .int .u64 0, .string ⟨#[]⟩] 61 (0, 0))).alloc (.cells #[.int .u64 (p.num : Int), .int .u64 (p.tick : Int), .string p.tx] 61 (0, 0))) (w.heap.size + 1) 47 [.slice none 0 0, .string ⟨#[]⟩, .int .u64 0] := (((Row.new' rfl (by simp)).alloc _).alloc _).alloc _
    have s9 : Row (((((w.alloc (.cells #[.slice (some ⟨g, off, none⟩) (n + 1) cap, .string now, .int .u64 (last : Int)] 47 (0, 0))).alloc (.cells #[.slice none 0 0, .string ⟨#[]⟩, .int .u64 0] 47 (0, 0))).alloc (.cells #[.int .u64 0, .int .u64 0, .string ⟨#[]⟩] 61 (0, 0))).alloc (.cells #[.int .u64 0, .int .u64 0, .string ⟨#[]⟩] 61 (0, 0))).alloc (.cells #[.int .u64 (p.num : Int), .int .u64 (p.tick : Int), .string p.tx] 61 (0, 0))) (w.heap.size + 2) 61 [.int .u64 0, .int .u64 0, .string ⟨#[]⟩] := ((Row.new' rfl (by simp)).alloc _).alloc _
    have s10 : Row (((((w.alloc (.cells #[.slice (some ⟨g, off, none⟩) (n + 1) cap, .string now, .int .u64 (last : Int)] 47 (0, 0))).alloc (.cells #[.slice none 0 0, .string ⟨#[]⟩, .int .u64 0] 47 (0, 0))).alloc (.cells #[.int .u64 0, .int .u64 0, .string ⟨#[]⟩] 61 (0, 0))).alloc (.cells #[.int .u64 0, .int .u64 0, .string ⟨#[]⟩] 61 (0, 0))).alloc (.cells #[.int .u64 (p.num : Int), .int .u64 (p.tick : Int), .string p.tx] 61 (0, 0))) (w.heap.size + 3) 61 [.int .u64 0, .int .u64 0, .string ⟨#[]⟩] := (Row.new' rfl (by simp)).alloc _
    have t12 : Row (((((w.alloc (.cells #[.slice (some ⟨g, off, none⟩) (n + 1) cap, .string now, .int .u64 (last : Int)] 47 (0, 0))).alloc (.cells #[.slice none 0 0, .string ⟨#[]⟩, .int .u64 0] 47 (0, 0))).alloc (.cells #[.int .u64 0, .int .u64 0, .string ⟨#[]⟩] 61 (0, 0))).alloc (.cells #[.int .u64 0, .int .u64 0, .string ⟨#[]⟩] 61 (0, 0))).alloc (.cells #[.int .u64 (p.num : Int), .int .u64 (p.tick : Int), .string p.tx] 61 (0, 0))) (w.heap.size + 4) 61 [.int .u64 (p.num : Int), .int .u64 (p.tick : Int), .string p.tx] := Row.new' rfl (by simp)
    have ha5 := ha4.alloc (.cells #[.int .u64 (p.num : Int), .int .u64 (p.tick : Int), .string p.tx] 61 (0, 0))
    have bb : Below w.heap.size w (((((w.alloc (.cells #[.slice (some ⟨g, off, none⟩) (n + 1) cap, .string now, .int .u64 (last : Int)] 47 (0, 0))).alloc (.cells #[.slice none 0 0, .string ⟨#[]⟩, .int .u64 0] 47 (0, 0))).alloc (.cells #[.int .u64 0, .int .u64 0, .string ⟨#[]⟩] 61 (0, 0))).alloc (.cells #[.int .u64 0, .int .u64 0, .string ⟨#[]⟩] 61 (0, 0))).alloc (.cells #[.int .u64 (p.num : Int), .int .u64 (p.tick : Int), .string p.tx] 61 (0, 0))) := (((((Below.refl _ _).alloc (Nat.le_refl _) _).alloc (by simp) _).alloc (by simp; omega) _).alloc (by simp; omega) _).alloc (by simp; omega) _
    have h5 : w.heap.size + 5 ≤ (((((w.alloc (.cells #[.slice (some ⟨g, off, none⟩) (n + 1) cap, .string now, .int .u64 (last : Int)] 47 (0, 0))).alloc (.cells #[.slice none 0 0, .string ⟨#[]⟩, .int .u64 0] 47 (0, 0))).alloc (.cells #[.int .u64 0, .int .u64 0, .string ⟨#[]⟩] 61 (0, 0))).alloc (.cells #[.int .u64 0, .int .u64 0, .string ⟨#[]⟩] 61 (0, 0))).alloc (.cells #[.int .u64 (p.num : Int), .int .u64 (p.tick : Int), .string p.tx] 61 (0, 0))).heap.size := by simp
    have c24 : (((((w.alloc (.cells #[.slice (some ⟨g, off, none⟩) (n + 1) cap, .string now, .int .u64 (last : Int)] 47 (0, 0))).alloc (.cells #[.slice none 0 0, .string ⟨#[]⟩, .int .u64 0] 47 (0, 0))).alloc (.cells #[.int .u64 0, .int .u64 0, .string ⟨#[]⟩] 61 (0, 0))).alloc (.cells #[.int .u64 0, .int .u64 0, .string ⟨#[]⟩] 61 (0, 0))).alloc (.cells #[.int .u64 (p.num : Int), .int .u64 (p.tick : Int), .string p.tx] 61 (0, 0))).cell? ⟨w.heap.size, 0, none⟩ = some (.slice (some ⟨g, off, none⟩) (n + 1) cap) := r4.cell 0
    have hnews : Hid (∀ (j : Nat) (u : Value), (S15.cellsL L)[j]? = some u → (((((w.alloc (.cells #[.slice (some ⟨g, off, none⟩) (n + 1) cap, .string now, .int .u64 (last : Int)] 47 (0, 0))).alloc (.cells #[.slice none 0 0, .string ⟨#[]⟩, .int .u64 0] 47 (0, 0))).alloc (.cells #[.int .u64 0, .int .u64 0, .string ⟨#[]⟩] 61 (0, 0))).alloc (.cells #[.int .u64 0, .int .u64 0, .string ⟨#[]⟩] 61 (0, 0))).alloc (.cells #[.int .u64 (p.num : Int), .int .u64 (p.tick : Int), .string p.tx] 61 (0, 0))).cell? ((⟨g, off, none⟩ : Addr).add j) = some u) := fun j u hj => by rw [S15.addrAdd]; exact ha5.cellAt hj
    have hlen : Hid ((S15.cellsL L).length = (n + 1) * 3) := by show _ = _; rw [S15.cellsL_len, hn]
    have hone := Lib.hid (S15.cellsL_one L)
    have hown0 : (((((w.alloc (.cells #[.slice (some ⟨g, off, none⟩) (n + 1) cap, .string now, .int .u64 (last : Int)] 47 (0, 0))).alloc (.cells #[.slice none 0 0, .string ⟨#[]⟩, .int .u64 0] 47 (0, 0))).alloc (.cells #[.int .u64 0, .int .u64 0, .string ⟨#[]⟩] 61 (0, 0))).alloc (.cells #[.int .u64 0, .int .u64 0, .string ⟨#[]⟩] 61 (0, 0))).alloc (.cells #[.int .u64 (p.num : Int), .int .u64 (p.tick : Int), .string p.tx] 61 (0, 0))).ownsRow (w.heap.size + 5) 61 3 (.slice none 0 0) 0 [] := World.ownsRow_nil _ _ _ _
    have HN := Lib.hid hn
    clear ha ha4 hr0 hn r4a
    go_enter Try.func23, Try.ntmps23
    have tk1 : True := True.intro
    go_wp2_with (first | (refine at_op (.load 61 (.tmp 20)) (by with_reducible rfl) ?_; clear tk1; refine wpList_load_mid rfl 61 (.tmp 20) rfl g (off + n * 3) rfl _ _ hr2 Try.underlying61 rfl infoRSt ?_) | (at_builtin; go_loud (refine wpList_append_own _ rfl _ _ 45 rfl (w.heap.size + 5) 61 i0 _ 3 32 Try.underlying45 hif hz0 hz1 hz2 rfl (by decide) (.slice none 0 0) 0 [] rfl hown0 ⟨g, off, none⟩ (n + 1) cap (S15.cellsL L) rfl hlen.out hnews.out hone.out (by unfold maxLen; omega) (by omega) h5 ?_)))
    intro v6 w6 ho6 hgr _
    have ho6 : w6.ownsRow (w.heap.size + 5) 61 3 v6 (n + 1) (S15.cellsL L) := by simpa using ho6
    replace r4 := r4.grownV3 hgr (fun j hj => by cases hj)
    replace q8 := q8.grownV3 hgr (fun j hj => by cases hj)
    replace s9 := s9.grownV3 hgr (fun j hj => by cases hj)
    replace s10 := s10.grownV3 hgr (fun j hj => by cases hj)
    replace t12 := t12.grownV3 hgr (fun j hj => by cases hj)
    replace bb := bb.grown hgr (by omega) (fun j hj => by cases hj)
    have h6 : w.heap.size + 5 ≤ w6.heap.size := Nat.le_trans h5 hgr.size
    clear hgr hown0 hnews hlen hone c24 hr2 c15 ha5 h5
    obtain ⟨g6, cap6, rfl, hg1, hg2, hg3, hg4⟩ := S15.own_slice ho6
    have c27 : w6.cell? ⟨w.heap.size, 1, none⟩ = some (.string now) := r4.cell 1
    have c29 : w6.cell? ⟨w.heap.size + 4, 2, none⟩ = some (.string p.tx) := t12.cell 2
    have c52 : w6.cell? ⟨w.heap.size + 4, 1, none⟩ = some (.int .u64 (p.tick : Int)) := t12.cell 1
    have c60 : w6.cell? ⟨w.heap.size, 2, none⟩ = some (.int .u64 (last : Int)) := r4.cell 2
    clear ho6 t12
    by_cases hc0 : n = 0
    · exfalso; omega
    · rw [if_neg hc0] at hle
      have e1 : (1 : Int) < ((n + 1 : Nat) : Int) := by omega
      have e2 : ¬ (Y : Int) ≤ (tk : Int) := by omega
      have e3 : ¬ (X : Int) ≤ (tk : Int) := by omega
      clear hc0 hle
      go_wp2_with fail
      refine (A2.out _).mono ?_
      rintro e wq ⟨rfl, hq⟩
      obtain rfl := hq.symm
      go_wp2_with fail
      refine (A1.out _).mono ?_
      rintro e wq ⟨rfl, hq⟩
      obtain rfl := hq.symm
      go_wp2_with (first | refine wpList_load_row rfl 47 (.tmp 4) rfl (w.heap.size) rfl _ _ _ _ r4 Try.underlying47 rfl infoRSn ?_ | refine wpList_store_row rfl 47 (.tmp 8) (.tmp 72) rfl ((w.heap.size + 1)) _ rfl rfl _ _ q8 infoRSn rfl (by simp [Value.oneCell']) ?_ | refine wpList_store_row rfl 61 (.tmp 9) (.tmp 73) rfl ((w.heap.size + 2)) _ rfl rfl _ _ (s9.setRow_other (k := (w.heap.size + 1)) (by omega) (List.toArray ([.slice (some ⟨g, off, none⟩) (n + 1) cap, .string now, .int .u64 (last : Int)]))) infoRSt rfl (by simp [Value.oneCell']) ?_ | refine wpList_store_row rfl 61 (.tmp 10) (.tmp 74) rfl ((w.heap.size + 3)) _ rfl rfl _ _ ((s10.setRow_other (k := (w.heap.size + 1)) (by omega) (List.toArray ([.slice (some ⟨g, off, none⟩) (n + 1) cap, .string now, .int .u64 (last : Int)]))).setRow_other (k := w.heap.size + 2) (by omega) (List.toArray [.int .u64 0, .int .u64 0, .string ⟨#[]⟩])) infoRSt rfl (by simp [Value.oneCell']) ?_)
      exact bodyPost_ret (results_row3_tmp rfl _ _ (w.heap.size + 1) 47 [.slice (some ⟨g, off, none⟩) (n + 1) cap, .string now, .int .u64 (last : Int)] _ (w.heap.size + 2) 61 [.int .u64 0, .int .u64 0, .string ⟨#[]⟩] _ (w.heap.size + 3) 61 [.int .u64 0, .int .u64 0, .string ⟨#[]⟩] _ rfl (((q8.setRow [.slice (some ⟨g, off, none⟩) (n + 1) cap, .string now, .int .u64 (last : Int)]).setRow_other (k := w.heap.size + 2) (by omega) _).setRow_other (k := w.heap.size + 3) (by omega) _) Try.underlying47 rfl infoRSn rfl ((((s9.setRow_other (k := w.heap.size + 1) (by omega) _)).setRow [.int .u64 0, .int .u64 0, .string ⟨#[]⟩]).setRow_other (k := w.heap.size + 3) (by omega) _) Try.underlying61 rfl infoRSt rfl (((s10.setRow_other (k := w.heap.size + 1) (by omega) _).setRow_other (k := w.heap.size + 2) (by omega) _).setRow [.int .u64 0, .int .u64 0, .string ⟨#[]⟩]) Try.underlying61 rfl infoRSt) rfl ⟨rfl, below_row (below_row (below_row bb (show _ ≤ w.heap.size + 1 by omega) _) (show _ ≤ w.heap.size + 2 by omega) _) (show _ ≤ w.heap.size + 3 by omega) _⟩
end Go.Proofs.Ytngoighdpmeepaa
