/-
  The document's side of layer 11: Put.
-/
import Derived.Test.YtekpbfbipkjibaaNRefB
namespace Go.Proofs.Ytekpbfbipkjibaa
open Go.RowKit
set_option linter.unusedVariables false
set_option maxRecDepth 20000

theorem own_setCell2 {w : World} {B e n gq cap m g i : Nat} {u : Value} {xs : List Value} (h : w.ownsRow B e 1 (.slice (some ⟨gq, 0, none⟩) m cap) n xs) (hg : gq ≠ g) : (w.setCell ⟨g, i, none⟩ u).ownsRow B e 1 (.slice (some ⟨gq, 0, none⟩) m cap) n xs :=
  h.kept (row := some g) ⟨rfl, rfl, rfl, by simp [World.setCell], fun k _ hk => heap_setCell_other w ⟨g, i, none⟩ k u (fun e => hk (by simp [e]))⟩ (.inr (fun hh => hg (by simpa [Value.ownBlock] using hh)))
theorem own_setRow2 {w : World} {B e n gq cap m g : Nat} {cs : Array Value} {xs : List Value} (h : w.ownsRow B e 1 (.slice (some ⟨gq, 0, none⟩) m cap) n xs) (hg : gq ≠ g) : (w.setRow g cs).ownsRow B e 1 (.slice (some ⟨gq, 0, none⟩) m cap) n xs :=
  h.kept (row := some g) ⟨rfl, rfl, rfl, by simp [World.setRow], fun k _ hk => Go.setRow_other w g k cs (fun e => hk (by simp [e]))⟩ (.inr (fun hh => hg (by simpa [Value.ownBlock] using hh)))
theorem own_grown {w w' : World} {B e n gq cap m : Nat} {v : Value} {xs : List Value} (h : w.ownsRow B e 1 (.slice (some ⟨gq, 0, none⟩) m cap) n xs) (hg : w.grownBy w' v.ownBlock) (hne : v.ownBlock ≠ some gq) : w'.ownsRow B e 1 (.slice (some ⟨gq, 0, none⟩) m cap) n xs :=
  h.kept hg (.inr (fun hh => hne (by rw [← hh]; rfl)))
/-- A row's text with one byte laid over. -/
theorem row_cat (l : List UInt8) (x i : Nat) (out : ByteArray) (hi : i < out.size) (hx : x < l.length) :
    (⟨l.toArray⟩ : ByteArray).extract 0 x ++ out.extract i (i + 1) ++ (⟨l.toArray⟩ : ByteArray).extract (x + 1) (⟨l.toArray⟩ : ByteArray).size = ⟨(l.set x out[i]).toArray⟩ := by
  have hi' : i < out.data.toList.length := by simpa using hi
  have e1 : (out.extract i (i + 1)).data.toList = [out[i]] := by
    rw [ByteArray.data_extract, Array.toList_extract, List.extract_eq_take_drop, List.drop_eq_getElem_cons hi', show i + 1 - i = 1 by omega]
    rfl
  rw [← N11.set_as_cut hx]
  apply ByteArray.ext
  apply Array.ext'
  rw [ByteArray.data_append, ByteArray.data_append, Array.toList_append, Array.toList_append, e1, ByteArray.data_extract, ByteArray.data_extract, Array.toList_extract, Array.toList_extract, List.extract_eq_take_drop, List.extract_eq_take_drop]
  have hs : (⟨l.toArray⟩ : ByteArray).size = l.length := by simp [ByteArray.size]
  rw [hs]
  simp only [List.drop_zero, Nat.sub_zero]
  rw [show List.take (l.length - (x + 1)) (List.drop (x + 1) l) = List.drop (x + 1) l from List.take_of_length_le (by rw [List.length_drop]; exact Nat.le_refl _)]

set_option maxHeartbeats 16000000 in
theorem refPut_any (wd ht : Nat) (s0 : N11.St) (out : ByteArray) (w : World) (g q : Nat) (h1 : 1 ≤ wd) (h2 : wd ≤ 80) (h3 : 1 ≤ ht) (h4 : ht ≤ 24) (hok : N11.Ok wd ht s0) (hout : out.size ≤ 281474976710656) (hown : w.ownsRow 0 9 1 (.slice (some ⟨g, 0, none⟩) ht q) ht (txt (N11.rows wd ht s0.c))) :
    Calls Try.prog 13 #[.agg #[.int .i64 wd, .int .i64 ht, .int .i64 s0.x, .int .i64 s0.y, .slice (some ⟨g, 0, none⟩) ht q], .string out] w fun e w' => ∃ gq cap, e = .returned (.agg #[.int .i64 wd, .int .i64 ht, .int .i64 (N11.put wd ht s0 out.data.toList).x, .int .i64 (N11.put wd ht s0 out.data.toList).y, .slice (some ⟨gq, 0, none⟩) ht cap]) ∧ w'.ownsRow 0 9 1 (.slice (some ⟨gq, 0, none⟩) ht cap) ht (txt (N11.rows wd ht (N11.put wd ht s0 out.data.toList).c)) ∧ Below w.heap.size w w' := by
  obtain ⟨i0, hi0, hz0, hz1, hz2⟩ := infoN infoStrN
  have hgl : g < w.heap.size := ((World.ownsRow.lt hown) g rfl).2
  obtain ⟨x0, hx0⟩ : ∃ x0, x0 = s0.x := ⟨_, rfl⟩
  obtain ⟨y0, hy0⟩ : ∃ y0, y0 = s0.y := ⟨_, rfl⟩
  rw [← hx0, ← hy0]
  have r0 : Row ((w.alloc (.cells #[.int .i64 wd, .int .i64 ht, .int .i64 x0, .int .i64 y0, .slice (some ⟨g, 0, none⟩) ht q] 33 (0, 0))).alloc (.cells #[.int .i64 0, .int .i64 0, .int .i64 0, .int .i64 0, .slice none 0 0] 33 (0, 0))) w.heap.size 33 [.int .i64 wd, .int .i64 ht, .int .i64 x0, .int .i64 y0, .slice (some ⟨g, 0, none⟩) ht q] := (Row.new' rfl rfl).alloc _
  have r1 : Row ((w.alloc (.cells #[.int .i64 wd, .int .i64 ht, .int .i64 x0, .int .i64 y0, .slice (some ⟨g, 0, none⟩) ht q] 33 (0, 0))).alloc (.cells #[.int .i64 0, .int .i64 0, .int .i64 0, .int .i64 0, .slice none 0 0] 33 (0, 0))) (w.heap.size + 1) 33 [.int .i64 0, .int .i64 0, .int .i64 0, .int .i64 0, .slice none 0 0] := Row.new' rfl (by simp)
  have b0 : Below w.heap.size w ((w.alloc (.cells #[.int .i64 wd, .int .i64 ht, .int .i64 x0, .int .i64 y0, .slice (some ⟨g, 0, none⟩) ht q] 33 (0, 0))).alloc (.cells #[.int .i64 0, .int .i64 0, .int .i64 0, .int .i64 0, .slice none 0 0] 33 (0, 0))) := ((Below.refl _ _).alloc (Nat.le_refl _) _).alloc (by simp) _
  have ho0 := (hown.alloc (.cells #[.int .i64 wd, .int .i64 ht, .int .i64 x0, .int .i64 y0, .slice (some ⟨g, 0, none⟩) ht q] 33 (0, 0))).alloc (.cells #[.int .i64 0, .int .i64 0, .int .i64 0, .int .i64 0, .slice none 0 0] 33 (0, 0))
  have HX := Lib.hid hx0
  have HY := Lib.hid hy0
  clear hx0 hy0 hown
  go_enter Try.func13, Try.ntmps13
  go_wp2
  go_loopw [5, 6, 7, 8, 9] (fun iv _ _ _ _ wr => ∃ (i x y gq cap : Nat) (c : List UInt8), i ≤ out.size ∧ iv = .int .i64 i ∧ Hid ((⟨x, y, c⟩ : N11.St) = N11.put wd ht s0 (out.data.toList.take i)) ∧ N11.Ok wd ht ⟨x, y, c⟩ ∧ Row wr w.heap.size 33 [.int .i64 wd, .int .i64 ht, .int .i64 x, .int .i64 y, .slice (some ⟨gq, 0, none⟩) ht cap] ∧ Row wr (w.heap.size + 1) 33 [.int .i64 0, .int .i64 0, .int .i64 0, .int .i64 0, .slice none 0 0] ∧ wr.ownsRow 0 9 1 (.slice (some ⟨gq, 0, none⟩) ht cap) ht (txt (N11.rows wd ht c)) ∧ (gq ≠ w.heap.size ∧ gq ≠ w.heap.size + 1) ∧ Below w.heap.size w wr) (fun iv _ _ _ _ _ => out.size - (intOf iv).toNat)
  case atStart => exact ⟨0, x0, y0, g, q, s0.c, Nat.zero_le _, rfl, by show _ = N11.put wd ht s0 []; rw [N11.put_nil, HX.out, HY.out], by rw [HX.out, HY.out]; exact hok, r0, r1, ho0, ⟨by omega, by omega⟩, b0⟩
  case round =>
    clear r0 r1 b0 ho0
    obtain ⟨i, x, y, gq, cap, c, hi, rfl, HST, OK, r0, r1, ho, ⟨hn0, hn1⟩, hbl⟩ := hrel
    by_cases hlt : i < out.size
    · have hs : (i : Int) < out.size := by omega
      have HNX : Hid (N11.step wd ht ⟨x, y, c⟩ out[i] = N11.put wd ht s0 (out.data.toList.take (i + 1))) := by
        show _ = _
        have hi' : i < out.data.toList.length := by simpa using hlt
        rw [List.take_succ_eq_append_getElem hi', N11.put_snoc, ← HST.out]
        rfl
      have OK' := N11.step_ok OK out[i]
      have hxw : x < wd := OK.x
      have hyh : y < ht := OK.y
      have hcl : c.length = wd * ht := OK.c
      have hlr : w.heap.size + 1 < wr.heap.size := r1.lt
      have hgqr : gq < wr.heap.size := ((World.ownsRow.lt ho) gq rfl).2
      by_cases hsh : N11.shown out[i] = true
      · have hsh' := hsh
        unfold N11.shown at hsh'
        simp only [Bool.and_eq_true, decide_eq_true_eq] at hsh'
        have u1 : (32 : Int) ≤ (out[i].toNat : Int) := by omega
        have u2 : (out[i].toNat : Int) ≤ 126 := by omega
        have v10 : ((out[i].toNat : Int) == 10) = false := by rw [beq_eq_false_iff_ne]; omega
        have v13 : ((out[i].toNat : Int) == 13) = false := by rw [beq_eq_false_iff_ne]; omega
        have v8 : ((out[i].toNat : Int) == 8) = false := by rw [beq_eq_false_iff_ne]; omega
        have v12 : ((out[i].toNat : Int) == 12) = false := by rw [beq_eq_false_iff_ne]; omega
        obtain ⟨z, hz⟩ : ∃ z, z = x + 1 := ⟨_, rfl⟩
        obtain ⟨j, hj⟩ : ∃ j, j = i + 1 := ⟨_, rfl⟩
        obtain ⟨cs, hcs⟩ : ∃ cs, cs = c.set (y * wd + x) out[i] := ⟨_, rfl⟩
        have e3 : (x : Int) + 1 = (z : Int) := by omega
        have w3 : IntKind.i64.wrap (z : Int) = (z : Int) := by rw [IntKind.wrap_i64]; omega
        have e4 : (i : Int) + 1 = (j : Int) := by omega
        have w4 : IntKind.i64.wrap (j : Int) = (j : Int) := by rw [IntKind.wrap_i64]; omega
        have HRS : Hid (N11.rows wd ht cs = (N11.rows wd ht c).set y ((N11.row wd c y).set x out[i])) := by
          show _ = _
          rw [hcs]; exact N11.rows_set hxw hyh
        obtain ⟨RK, hRK⟩ : ∃ RK : ByteArray, RK = ⟨(N11.row wd c y).toArray⟩ := ⟨_, rfl⟩
        obtain ⟨RN, hRN⟩ : ∃ RN : ByteArray, RN = ⟨((N11.row wd c y).set x out[i]).toArray⟩ := ⟨_, rfl⟩
        have hrl := N11.row_length hcl hyh
        have hRKs : RK.size = wd := by rw [hRK]; show (N11.row wd c y).toArray.size = wd; simpa using hrl
        have hcat : RK.extract 0 x ++ out.extract i j ++ RK.extract z RK.size = RN := by
          rw [hRK, hRN, hz, hj]; exact row_cat _ x i out hlt (by omega)
        have HRK := Lib.hid hRK
        have HRN := Lib.hid hRN
        have HCS := Lib.hid hcs
        have HZ := Lib.hid hz
        have HJ := Lib.hid hj
        have HRKS := Lib.hid hRKs
        have p1 : x ≤ RK.size := by omega
        have p2 : z ≤ RK.size := by omega
        have p3 : j ≤ out.size := by omega
        have p4 : i ≤ j := by omega
        have p5 : ¬ (RK.size : Int) < (x : Int) := by omega
        have p6 : ¬ (RK.size : Int) < (z : Int) := by omega
        have p7 : ¬ (out.size : Int) < (j : Int) := by omega
        have p8 : ¬ (j : Int) < (i : Int) := by omega
        have p9 : RK.size ≤ 9223372036854775807 := by omega
        have p10 : out.size ≤ 9223372036854775807 := by omega
        have p11 : x + (j - i) ≤ 9223372036854775807 := by omega
        have p12 : x + (j - i) + (RK.size - z) ≤ 9223372036854775807 := by omega
        have hpos : 0 < ht := by omega
        have c4 := r0.cell 4
        simp only [List.getElem?_cons_zero, List.getElem?_cons_succ] at c4
        clear hRK hRN hcs hz hj hRKs hrl hsh'
        go_wp2
        clear c4
        obtain ⟨wo, rfl⟩ : ∃ wo : World, wo = wr := ⟨_, rfl⟩
        go_loopw [7, 8, 9, 28] (fun v _ _ kv wq => ∃ (k : Nat) (vv : Value), vv = v ∧ k ≤ ht ∧ kv = .int .i64 k ∧ wq.ownsRow wo.heap.size 9 1 vv k (txt ((N11.rows wd ht cs).take k)) ∧ Row wq w.heap.size 33 [.int .i64 wd, .int .i64 ht, .int .i64 x, .int .i64 y, .slice (some ⟨gq, 0, none⟩) ht cap] ∧ Row wq (w.heap.size + 1) 33 [.int .i64 0, .int .i64 0, .int .i64 0, .int .i64 0, .slice none 0 0] ∧ wq.ownsRow 0 9 1 (.slice (some ⟨gq, 0, none⟩) ht cap) ht (txt (N11.rows wd ht c)) ∧ Below w.heap.size w wq ∧ wo.heap.size ≤ wq.heap.size) (fun _ _ _ kv _ => ht - (intOf kv).toNat)
        case atStart => exact ⟨0, _, rfl, Nat.zero_le _, rfl, World.ownsRow_nil _ _ _ _, r0, r1, ho, hbl, Nat.le_refl _⟩
        case round =>
          clear r0 r1 ho hbl
          obtain ⟨k, vv, rfl, hk, rfl, hov, r0, r1, ho, hbl, hsz⟩ := hrel
          by_cases hkt : k < ht
          · have hks : (k : Int) < ht := by omega
            obtain ⟨RQ, hRQ⟩ : ∃ RQ : ByteArray, RQ = ⟨(N11.row wd c k).toArray⟩ := ⟨_, rfl⟩
            have hck : wr.cell? ⟨gq, k, none⟩ = some (.string RQ) := by
              rw [ho.cellAt k (by omega), hRQ]
              unfold txt
              rw [List.getElem?_map, N11.rows_at hkt]
              rfl
            have c3 := r0.cell 3
            simp only [List.getElem?_cons_zero, List.getElem?_cons_succ] at c3
            by_cases hky : k = y
            · have tk : ((k : Int) == (y : Int)) = true := by rw [beq_iff_eq]; omega
              have hq : RQ = RK := by rw [hRQ, HRK.out, hky]
              subst hq
              have HTK : Hid (txt ((N11.rows wd ht cs).take k) ++ [.string RN] = txt ((N11.rows wd ht cs).take (k + 1))) := by
                show _ = _
                rw [List.take_succ_eq_append_getElem (by rw [N11.rows_length]; exact hkt), txt_snoc]
                congr 2
                have : (N11.rows wd ht cs)[k]? = some ((N11.row wd c y).set x out[i]) := by
                  rw [HRS.out, hky, List.getElem?_set_self (by rw [N11.rows_length]; exact hyh)]
                rw [List.getElem?_eq_getElem (by rw [N11.rows_length]; exact hkt)] at this
                rw [Option.some.inj this, HRN.out]
              clear hRQ hky
              go_wp2
              refine wp_region_held_drew (S := fun w' => Row w' w.heap.size 33 [.int .i64 wd, .int .i64 ht, .int .i64 x, .int .i64 y, .slice (some ⟨gq, 0, none⟩) ht cap]) (by kernel_rfl) (r0.drew) (fun hHeld => ?_)
              refine take_d 0 (some 37) (.string RQ) rfl (by kernel_rfl) (by kernel_rfl) (by kernel_rfl) (fun _ _ _ h => h) (fun oi h => by cases h; exact Or.inl ⟨by rfl, fun w' hS' => by go_simp⟩) hHeld ?_
              try simp only [Act.put, List.setIfInBounds_toArray, List.set_cons_zero, List.set_cons_succ]
              refine take_d 1 (some 38) (.pointer (some ⟨w.heap.size, 2, none⟩)) rfl (by kernel_rfl) (by kernel_rfl) (by kernel_rfl) (fun _ _ _ h => h) (fun oi h => by cases h; exact Or.inl ⟨by rfl, fun w' hS' => by go_simp⟩) hHeld ?_
              try simp only [Act.put, List.setIfInBounds_toArray, List.set_cons_zero, List.set_cons_succ]
              refine take_d 2 (some 39) (.int .i64 x) rfl (by kernel_rfl) (by kernel_rfl) (by kernel_rfl) (fun _ _ _ h => h) (fun oi h => by cases h; exact Or.inl ⟨by rfl, fun w' hS' => by have c : w'.cell? ⟨w.heap.size, 2, none⟩ = some (.int .i64 x) := hS'.cell 2; go_simp⟩) hHeld ?_
              try simp only [Act.put, List.setIfInBounds_toArray, List.set_cons_zero, List.set_cons_succ]
              refine take_d 3 (some 40) (.string (RQ.extract 0 x)) rfl (by kernel_rfl) (by kernel_rfl) (by kernel_rfl) (fun _ _ _ h => h) (fun oi h => by cases h; exact Or.inl ⟨by rfl, fun w' hS' => by go_simp⟩) hHeld ?_
              try simp only [Act.put, List.setIfInBounds_toArray, List.set_cons_zero, List.set_cons_succ]
              refine take_d 4 (some 41) (.string out) rfl (by kernel_rfl) (by kernel_rfl) (by kernel_rfl) (fun _ _ _ h => h) (fun oi h => by cases h; exact Or.inl ⟨by rfl, fun w' hS' => by go_simp⟩) hHeld ?_
              try simp only [Act.put, List.setIfInBounds_toArray, List.set_cons_zero, List.set_cons_succ]
              refine take_d 5 (some 42) (.int .i64 i) rfl (by kernel_rfl) (by kernel_rfl) (by kernel_rfl) (fun _ _ _ h => h) (fun oi h => by cases h; exact Or.inl ⟨by rfl, fun w' hS' => by go_simp⟩) hHeld ?_
              try simp only [Act.put, List.setIfInBounds_toArray, List.set_cons_zero, List.set_cons_succ]
              refine take_d 6 (some 43) (.int .i64 i) rfl (by kernel_rfl) (by kernel_rfl) (by kernel_rfl) (fun _ _ _ h => h) (fun oi h => by cases h; exact Or.inl ⟨by rfl, fun w' hS' => by go_simp⟩) hHeld ?_
              try simp only [Act.put, List.setIfInBounds_toArray, List.set_cons_zero, List.set_cons_succ]
              refine take_d 7 (some 44) (.int .i64 j) rfl (by kernel_rfl) (by kernel_rfl) (by kernel_rfl) (fun _ _ _ h => h) (fun oi h => by cases h; exact Or.inl ⟨by rfl, fun w' hS' => by go_simp⟩) hHeld ?_
              try simp only [Act.put, List.setIfInBounds_toArray, List.set_cons_zero, List.set_cons_succ]
              refine take_d 8 (some 45) (.string (out.extract i j)) rfl (by kernel_rfl) (by kernel_rfl) (by kernel_rfl) (fun _ _ _ h => h) (fun oi h => by cases h; exact Or.inl ⟨by rfl, fun w' hS' => by go_simp⟩) hHeld ?_
              try simp only [Act.put, List.setIfInBounds_toArray, List.set_cons_zero, List.set_cons_succ]
              refine take_d 9 (some 46) (.string (RQ.extract 0 x ++ out.extract i j)) rfl (by kernel_rfl) (by kernel_rfl) (by kernel_rfl) (fun _ _ _ h => h) (fun oi h => by cases h; exact Or.inl ⟨by rfl, fun w' hS' => by go_simp⟩) hHeld ?_
              try simp only [Act.put, List.setIfInBounds_toArray, List.set_cons_zero, List.set_cons_succ]
              refine take_d 10 (some 47) (.string RQ) rfl (by kernel_rfl) (by kernel_rfl) (by kernel_rfl) (fun _ _ _ h => h) (fun oi h => by cases h; exact Or.inl ⟨by rfl, fun w' hS' => by go_simp⟩) hHeld ?_
              try simp only [Act.put, List.setIfInBounds_toArray, List.set_cons_zero, List.set_cons_succ]
              refine take_d 11 (some 48) (.pointer (some ⟨w.heap.size, 2, none⟩)) rfl (by kernel_rfl) (by kernel_rfl) (by kernel_rfl) (fun _ _ _ h => h) (fun oi h => by cases h; exact Or.inl ⟨by rfl, fun w' hS' => by go_simp⟩) hHeld ?_
              try simp only [Act.put, List.setIfInBounds_toArray, List.set_cons_zero, List.set_cons_succ]
              refine take_d 12 (some 49) (.int .i64 x) rfl (by kernel_rfl) (by kernel_rfl) (by kernel_rfl) (fun _ _ _ h => h) (fun oi h => by cases h; exact Or.inl ⟨by rfl, fun w' hS' => by have c : w'.cell? ⟨w.heap.size, 2, none⟩ = some (.int .i64 x) := hS'.cell 2; go_simp⟩) hHeld ?_
              try simp only [Act.put, List.setIfInBounds_toArray, List.set_cons_zero, List.set_cons_succ]
              refine take_d 13 (some 50) (.int .i64 z) rfl (by kernel_rfl) (by kernel_rfl) (by kernel_rfl) (fun _ _ _ h => h) (fun oi h => by cases h; exact Or.inl ⟨by rfl, fun w' hS' => by go_simp⟩) hHeld ?_
              try simp only [Act.put, List.setIfInBounds_toArray, List.set_cons_zero, List.set_cons_succ]
              refine take_d 14 (some 51) (.string (RQ.extract z RQ.size)) rfl (by kernel_rfl) (by kernel_rfl) (by kernel_rfl) (fun _ _ _ h => h) (fun oi h => by cases h; exact Or.inl ⟨by rfl, fun w' hS' => by go_simp⟩) hHeld ?_
              try simp only [Act.put, List.setIfInBounds_toArray, List.set_cons_zero, List.set_cons_succ]
              refine take_d 15 (some 52) (.string RN) rfl (by kernel_rfl) (by kernel_rfl) (by kernel_rfl) (fun _ _ _ h => h) (fun oi h => by cases h; exact Or.inl ⟨by rfl, fun w' hS' => by go_simp⟩) hHeld ?_
              try simp only [Act.put, List.setIfInBounds_toArray, List.set_cons_zero, List.set_cons_succ]
              refine take_d 16 (some 9) (.string RN) rfl (by kernel_rfl) (by kernel_rfl) (by kernel_rfl) (fun _ _ _ h => h) (fun oi h => by cases h; exact Or.inl ⟨by rfl, fun w' hS' => by go_simp⟩) hHeld ?_
              try simp only [Act.put, List.setIfInBounds_toArray, List.set_cons_zero, List.set_cons_succ]
              refine wpAnyH_done (by kernel_rfl) ?_ _
              try simp only [Act.put]
              clear hck c3
              go_wp2_with (at_builtin; refine wpList_append_own _ rfl _ _ 31 rfl wo.heap.size 9 i0 (.string ⟨#[]⟩) 1 16 Try.underlying31 hi0 hz0 hz1 hz2 rfl (by decide) vv k _ rfl (hov.alloc _) ⟨wr.heap.size, 0, none⟩ 1 1 [.string RN] rfl rfl (by intro j u hj; match j, hj with | 0, hj => simp at hj; subst hj; simp [Addr.add]) (by intro u hu; simp at hu; subst hu; rfl) (by unfold maxLen; omega) (by omega) (by simp; omega) ?_)
              intro v6 w6 ho6 hgrow hnil
              have hob := (hov.alloc (.cells #[.string RN] 9 (0, 0))).lt
              have hne : vv.ownBlock ≠ some gq := fun hh => by have := (hob _ hh).1; omega
              have b6 : Below wo.heap.size (wr.alloc (.cells #[.string RN] 9 (0, 0))).drew w6 := (Below.refl _ _).grown hgrow (by simp; omega) (fun k hk => (hob k hk).1)
              have q0 := (r0.alloc (.cells #[.string RN] 9 (0, 0))).drew.below b6 (by omega)
              have q1 := (r1.alloc (.cells #[.string RN] 9 (0, 0))).drew.below b6 (by omega)
              have qo := own_grown (ho.alloc (.cells #[.string RN] 9 (0, 0))).drew hgrow hne
              have bl6 := (hbl.alloc hbl.size (.cells #[.string RN] 9 (0, 0))).drew.trans (b6.mono (by omega))
              have hsz6 : wo.heap.size ≤ w6.heap.size := by have := b6.size; simp at this; omega
              rw [HTK.out] at ho6
              clear hgrow hnil hob hne b6 hov r0 r1 ho hbl
              go_wp2
              go_roundw
              case rel => exact ⟨k + 1, v6, rfl, by omega, by go_num, ho6, q0, q1, qo, bl6, hsz6⟩
              case measure => simp [intOf]; omega
            · have tk : ((k : Int) == (y : Int)) = false := by rw [beq_eq_false_iff_ne]; omega
              have HTK : Hid (txt ((N11.rows wd ht cs).take k) ++ [.string RQ] = txt ((N11.rows wd ht cs).take (k + 1))) := by
                show _ = _
                rw [List.take_succ_eq_append_getElem (by rw [N11.rows_length]; exact hkt), txt_snoc]
                congr 2
                have : (N11.rows wd ht cs)[k]? = some (N11.row wd c k) := by
                  rw [HRS.out, List.getElem?_set_ne (fun e => hky e.symm), N11.rows_at hkt]
                rw [List.getElem?_eq_getElem (by rw [N11.rows_length]; exact hkt)] at this
                rw [Option.some.inj this, hRQ]
              clear hRQ hky
              go_wp2_with (at_builtin; refine wpList_append_own _ rfl _ _ 31 rfl wo.heap.size 9 i0 (.string ⟨#[]⟩) 1 16 Try.underlying31 hi0 hz0 hz1 hz2 rfl (by decide) vv k _ rfl (hov.alloc _) ⟨wr.heap.size, 0, none⟩ 1 1 [.string RQ] rfl rfl (by intro j u hj; match j, hj with | 0, hj => simp at hj; subst hj; simp [Addr.add]) (by intro u hu; simp at hu; subst hu; rfl) (by unfold maxLen; omega) (by omega) (by simp; omega) ?_)
              intro v6 w6 ho6 hgrow hnil
              have hob := (hov.alloc (.cells #[.string RQ] 9 (0, 0))).lt
              have hne : vv.ownBlock ≠ some gq := fun hh => by have := (hob _ hh).1; omega
              have b6 : Below wo.heap.size (wr.alloc (.cells #[.string RQ] 9 (0, 0))) w6 := (Below.refl _ _).grown hgrow (by simp; omega) (fun k hk => (hob k hk).1)
              have q0 := (r0.alloc (.cells #[.string RQ] 9 (0, 0))).below b6 (by omega)
              have q1 := (r1.alloc (.cells #[.string RQ] 9 (0, 0))).below b6 (by omega)
              have qo := own_grown (ho.alloc (.cells #[.string RQ] 9 (0, 0))) hgrow hne
              have bl6 := (hbl.alloc hbl.size (.cells #[.string RQ] 9 (0, 0))).trans (b6.mono (by omega))
              have hsz6 : wo.heap.size ≤ w6.heap.size := by have := b6.size; simp at this; omega
              rw [HTK.out] at ho6
              clear hgrow hnil hob hne b6 hov r0 r1 ho hbl
              go_wp2
              go_roundw
              case rel => exact ⟨k + 1, v6, rfl, by omega, by go_num, ho6, q0, q1, qo, bl6, hsz6⟩
              case measure => simp [intOf]; omega
          · obtain rfl : ht = k := by omega
            obtain ⟨gv, capv, rfl, hgv, hlv⟩ := World.ownsRow.form hov hpos
            rw [show (N11.rows wd ht cs).take ht = N11.rows wd ht cs from by rw [List.take_of_length_le (by rw [N11.rows_length]; exact Nat.le_refl _)]] at hov
            have hov0 := own_monoN hov (Nat.zero_le _)
            have hgl6 : gv ≠ w.heap.size ∧ gv ≠ w.heap.size + 1 := ⟨by omega, by omega⟩
            have r0a := r0.set 4 (.slice (some ⟨gv, 0, none⟩) ht capv)
            have r1a := r1.other (k := w.heap.size) (i := 4) (by omega) (.slice (some ⟨gv, 0, none⟩) ht capv)
            have hoa := own_setCell2 (g := w.heap.size) (i := 4) (u := .slice (some ⟨gv, 0, none⟩) ht capv) hov0 (by omega)
            have bla := hbl.setCell (p := ⟨w.heap.size, 4, none⟩) (Nat.le_refl _) (.slice (some ⟨gv, 0, none⟩) ht capv)
            have r0b := r0a.set 2 (.int .i64 z)
            have r1b := r1a.other (k := w.heap.size) (i := 2) (by omega) (.int .i64 z)
            have hob := own_setCell2 (g := w.heap.size) (i := 2) (u := .int .i64 z) hoa (by omega)
            have blb := bla.setCell (p := ⟨w.heap.size, 2, none⟩) (Nat.le_refl _) (.int .i64 z)
            have c0 := r0.cell 0
            have c1 := r0.cell 1
            have c2 := r0.cell 2
            have c3 := r0.cell 3
            have c4 := r0.cell 4
            have f2 := r0.frozen 2
            have f3 := r0.frozen 3
            have f4 := r0.frozen 4
            simp only [List.getElem?_cons_zero, List.getElem?_cons_succ] at c0 c1 c2 c3 c4
            have r0c : Row _ w.heap.size 33 [.int .i64 wd, .int .i64 ht, .int .i64 z, .int .i64 y, .slice (some ⟨gv, 0, none⟩) ht capv] := r0b
            clear r0a r1a hoa bla r0b
            by_cases hzw : z = wd
            · have tz : ((z : Int) == (wd : Int)) = true := by simp; omega
              by_cases hlast : y + 1 < ht
              · have hstep : N11.step wd ht ⟨x, y, c⟩ out[i] = ⟨0, y + 1, cs⟩ := by
                  unfold N11.step
                  rw [if_pos hsh, if_pos (by show x + 1 = wd; rw [← HZ.out]; exact hzw)]
                  unfold N11.down
                  rw [if_pos (by show y + 1 < ht; exact hlast), HCS.out]
                rw [hstep] at HNX OK'
                clear hstep HST OK hsh
                have HCL : Hid (cs.length = wd * ht) := by show _ = _; rw [HCS.out, List.length_set]; exact hcl
                have CDY : Hid (∀ wx, Calls Try.prog 35 #[.agg #[.int .i64 wd, .int .i64 ht, .int .i64 z, .int .i64 y, .slice (some ⟨gv, 0, none⟩) ht capv]] wx fun e w' => e = .returned (.agg #[.int .i64 wd, .int .i64 ht, .int .i64 0, .int .i64 ((y + 1 : Nat) : Int), .slice (some ⟨gv, 0, none⟩) ht capv]) ∧ Below wx.heap.size wx w') := fun wx => refDown_yes wd ht z y gv capv hlast h4 wx
                clear hlast hzw
                go_wp2_with (first | refine wpList_load_row rfl 33 (.tmp 2) rfl w.heap.size rfl _ _ _ _ r0c Try.underlying33 rfl infoRS ?_)
                refine (CDY.out _).mono ?_
                rintro e w5 ⟨rfl, b5⟩
                have q0 := r0c.below b5 r0c.lt
                have q1 := r1b.below b5 r1b.lt
                have bl5 := blb.trans (b5.mono blb.size)
                have ho5 := ownN hob b5
                have r05 := q0.setRow [.int .i64 wd, .int .i64 ht, .int .i64 0, .int .i64 ((y + 1 : Nat) : Int), .slice (some ⟨gv, 0, none⟩) ht capv]
                have r15 := q1.setRow_other (k := w.heap.size) (by omega) (List.toArray [.int .i64 wd, .int .i64 ht, .int .i64 0, .int .i64 ((y + 1 : Nat) : Int), .slice (some ⟨gv, 0, none⟩) ht capv])
                have ho6 := own_setRow2 (g := w.heap.size) (cs := List.toArray [.int .i64 wd, .int .i64 ht, .int .i64 0, .int .i64 ((y + 1 : Nat) : Int), .slice (some ⟨gv, 0, none⟩) ht capv]) ho5 (by omega)
                have bl6 := below_row bl5 (Nat.le_refl _) (List.toArray [.int .i64 wd, .int .i64 ht, .int .i64 0, .int .i64 ((y + 1 : Nat) : Int), .slice (some ⟨gv, 0, none⟩) ht capv])
                clear q1 bl5
                clear c0 c1 c2 c3 c4 f2 f3 f4
                have r06 : Row _ w.heap.size 33 [.int .i64 wd, .int .i64 ht, .int .i64 0, .int .i64 ((y + 1 : Nat) : Int), .slice (some ⟨gv, 0, none⟩) ht capv] := r05
                have c0 := r05.cell 0
                have c2 := r05.cell 2
                have c3 := r05.cell 3
                simp only [List.getElem?_cons_zero, List.getElem?_cons_succ] at c0 c2 c3
                go_wp2_with (first | refine wpList_store_row rfl 33 (.tmp 2) (.tmp 70) rfl w.heap.size _ rfl rfl _ _ q0 infoRS rfl (by simp [Value.oneCell']) ?_)
                go_roundw
                case rel => exact ⟨i + 1, 0, y + 1, gv, capv, cs, by omega, by go_num, HNX, OK', r06, r15, own_monoN ho6 (Nat.zero_le _), hgl6, bl6⟩
                case measure => simp [intOf]; omega
              · have hstep : N11.step wd ht ⟨x, y, c⟩ out[i] = ⟨0, y, cs.drop wd ++ List.replicate wd 32⟩ := by
                  unfold N11.step
                  rw [if_pos hsh, if_pos (by show x + 1 = wd; rw [← HZ.out]; exact hzw)]
                  unfold N11.down
                  rw [if_neg (by show ¬ y + 1 < ht; exact hlast), HCS.out]
                rw [hstep] at HNX OK'
                clear hstep HST OK hsh
                have HCL : Hid (cs.length = wd * ht) := by show _ = _; rw [HCS.out, List.length_set]; exact hcl
                have CDN : Hid (∀ wx, wx.ownsRow 0 9 1 (.slice (some ⟨gv, 0, none⟩) ht capv) ht (txt (N11.rows wd ht cs)) → Calls Try.prog 35 #[.agg #[.int .i64 wd, .int .i64 ht, .int .i64 z, .int .i64 y, .slice (some ⟨gv, 0, none⟩) ht capv]] wx fun e w' => ∃ g2 cap2, e = .returned (.agg #[.int .i64 wd, .int .i64 ht, .int .i64 0, .int .i64 y, .slice (some ⟨g2, 0, none⟩) ht cap2]) ∧ w'.ownsRow wx.heap.size 9 1 (.slice (some ⟨g2, 0, none⟩) ht cap2) ht (txt (N11.rows wd ht (cs.drop wd ++ List.replicate wd 32))) ∧ Below wx.heap.size wx w') := fun wx hx => by
                  rw [N11.rows_scroll HCL.out h3]
                  exact refDown_no wd ht z y gv capv 0 _ (by omega) h2 h4 wx hx
                clear hlast hzw
                go_wp2_with (first | refine wpList_load_row rfl 33 (.tmp 2) rfl w.heap.size rfl _ _ _ _ r0c Try.underlying33 rfl infoRS ?_)
                refine (CDN.out _ (by exact hob)).mono ?_
                rintro e w5 ⟨g5, cap5, rfl, ho5, b5⟩
                have q0 := r0c.below b5 r0c.lt
                have q1 := r1b.below b5 r1b.lt
                have bl5 := blb.trans (b5.mono blb.size)
                have hs5 : w.heap.size + 1 < _ := r1b.lt
                have hg5 := ((World.ownsRow.lt ho5) g5 rfl).1
                have r05 := q0.setRow [.int .i64 wd, .int .i64 ht, .int .i64 0, .int .i64 y, .slice (some ⟨g5, 0, none⟩) ht cap5]
                have r15 := q1.setRow_other (k := w.heap.size) (by omega) (List.toArray [.int .i64 wd, .int .i64 ht, .int .i64 0, .int .i64 y, .slice (some ⟨g5, 0, none⟩) ht cap5])
                have ho6 := own_setRow2 (g := w.heap.size) (cs := List.toArray [.int .i64 wd, .int .i64 ht, .int .i64 0, .int .i64 y, .slice (some ⟨g5, 0, none⟩) ht cap5]) ho5 (by omega)
                have bl6 := below_row bl5 (Nat.le_refl _) (List.toArray [.int .i64 wd, .int .i64 ht, .int .i64 0, .int .i64 y, .slice (some ⟨g5, 0, none⟩) ht cap5])
                clear q1 bl5
                clear c0 c1 c2 c3 c4 f2 f3 f4
                have r06 : Row _ w.heap.size 33 [.int .i64 wd, .int .i64 ht, .int .i64 0, .int .i64 y, .slice (some ⟨g5, 0, none⟩) ht cap5] := r05
                have c0 := r05.cell 0
                have c2 := r05.cell 2
                have c3 := r05.cell 3
                simp only [List.getElem?_cons_zero, List.getElem?_cons_succ] at c0 c2 c3
                go_wp2_with (first | refine wpList_store_row rfl 33 (.tmp 2) (.tmp 70) rfl w.heap.size _ rfl rfl _ _ q0 infoRS rfl (by simp [Value.oneCell']) ?_)
                go_roundw
                case rel => exact ⟨i + 1, 0, y, g5, cap5, (cs.drop wd ++ List.replicate wd 32), by omega, by go_num, HNX, OK', r06, r15, own_monoN ho6 (Nat.zero_le _), ⟨by omega, by omega⟩, bl6⟩
                case measure => simp [intOf]; omega
            · have tz : ((z : Int) == (wd : Int)) = false := by simp; omega
              have hstep : N11.step wd ht ⟨x, y, c⟩ out[i] = ⟨z, y, cs⟩ := by
                unfold N11.step
                rw [if_pos hsh, if_neg (by show ¬ x + 1 = wd; rw [← HZ.out]; exact hzw)]
                rw [HZ.out, HCS.out]
              rw [hstep] at HNX OK'
              clear hstep HST OK hsh
              go_wp2
              go_roundw
              case rel => exact ⟨i + 1, z, y, gv, capv, cs, by omega, by go_num, HNX, OK', r0c, r1b, hob, hgl6, blb⟩
              case measure => simp [intOf]; omega
      · have hst0 : N11.step wd ht ⟨x, y, c⟩ out[i] = (if out[i].toNat = 10 then N11.down wd ht ⟨x, y, c⟩ else if out[i].toNat = 8 then ⟨x - 1, y, c⟩ else if out[i].toNat = 13 then ⟨0, y, c⟩ else if out[i].toNat = 12 then ⟨0, 0, List.replicate (wd * ht) 32⟩ else ⟨x, y, c⟩) := by
          unfold N11.step
          rw [if_neg hsh]
        rw [hst0] at HNX OK'
        have hsf : ¬ (32 ≤ out[i].toNat ∧ out[i].toNat ≤ 126) := by
          intro hh
          apply hsh
          unfold N11.shown
          simp only [Bool.and_eq_true, decide_eq_true_eq]
          exact hh
        clear hst0 hsh
        by_cases hhi : 126 < out[i].toNat
        · have u1 : (32 : Int) ≤ (out[i].toNat : Int) := by omega
          have u2 : ¬ (out[i].toNat : Int) ≤ 126 := by omega
          have v10 : ((out[i].toNat : Int) == 10) = false := by rw [beq_eq_false_iff_ne]; omega
          have v13 : ((out[i].toNat : Int) == 13) = false := by rw [beq_eq_false_iff_ne]; omega
          have v8 : ((out[i].toNat : Int) == 8) = false := by rw [beq_eq_false_iff_ne]; omega
          have v12 : ((out[i].toNat : Int) == 12) = false := by rw [beq_eq_false_iff_ne]; omega
          rw [if_neg (by omega), if_neg (by omega), if_neg (by omega), if_neg (by omega)] at HNX OK'
          clear hsf hhi HST OK
          go_wp2
          go_roundw
          case rel => exact ⟨i + 1, x, y, gq, cap, c, by omega, by go_num, HNX, OK', r0, r1, ho, ⟨hn0, hn1⟩, hbl⟩
          case measure => simp [intOf]; omega
        have u1 : ¬ (32 : Int) ≤ (out[i].toNat : Int) := by omega
        clear hhi hsf
        by_cases h10 : out[i].toNat = 10
        · rw [if_pos h10] at HNX OK'
          have v10 : ((out[i].toNat : Int) == 10) = true := by rw [beq_iff_eq]; omega
          have v13 : ((out[i].toNat : Int) == 13) = false := by rw [beq_eq_false_iff_ne]; omega
          have v8 : ((out[i].toNat : Int) == 8) = false := by rw [beq_eq_false_iff_ne]; omega
          have v12 : ((out[i].toNat : Int) == 12) = false := by rw [beq_eq_false_iff_ne]; omega
          unfold N11.down at HNX OK'
          by_cases hlast : y + 1 < ht
          · rw [if_pos (by exact hlast)] at HNX OK'
            clear h10 HST OK
            have CDY : Hid (∀ wx, Calls Try.prog 35 #[.agg #[.int .i64 wd, .int .i64 ht, .int .i64 x, .int .i64 y, .slice (some ⟨gq, 0, none⟩) ht cap]] wx fun e w' => e = .returned (.agg #[.int .i64 wd, .int .i64 ht, .int .i64 0, .int .i64 ((y + 1 : Nat) : Int), .slice (some ⟨gq, 0, none⟩) ht cap]) ∧ Below wx.heap.size wx w') := fun wx => refDown_yes wd ht x y gq cap hlast h4 wx
            clear hlast
            go_wp2_with (first | refine wpList_load_row rfl 33 (.tmp 2) rfl w.heap.size rfl _ _ _ _ r0 Try.underlying33 rfl infoRS ?_)
            refine (CDY.out _).mono ?_
            rintro e w5 ⟨rfl, b5⟩
            have q0 := r0.below b5 r0.lt
            have q1 := r1.below b5 r1.lt
            have bl5 := hbl.trans (b5.mono hbl.size)
            have ho5 := ownN ho b5
            have r05 := q0.setRow [.int .i64 wd, .int .i64 ht, .int .i64 0, .int .i64 ((y + 1 : Nat) : Int), .slice (some ⟨gq, 0, none⟩) ht cap]
            have r15 := q1.setRow_other (k := w.heap.size) (by omega) (List.toArray [.int .i64 wd, .int .i64 ht, .int .i64 0, .int .i64 ((y + 1 : Nat) : Int), .slice (some ⟨gq, 0, none⟩) ht cap])
            have ho6 := own_setRow2 (g := w.heap.size) (cs := List.toArray [.int .i64 wd, .int .i64 ht, .int .i64 0, .int .i64 ((y + 1 : Nat) : Int), .slice (some ⟨gq, 0, none⟩) ht cap]) ho5 (by omega)
            have bl6 := below_row bl5 (Nat.le_refl _) (List.toArray [.int .i64 wd, .int .i64 ht, .int .i64 0, .int .i64 ((y + 1 : Nat) : Int), .slice (some ⟨gq, 0, none⟩) ht cap])
            clear q1 bl5
            have r06 : Row _ w.heap.size 33 [.int .i64 wd, .int .i64 ht, .int .i64 0, .int .i64 ((y + 1 : Nat) : Int), .slice (some ⟨gq, 0, none⟩) ht cap] := r05
            have c0 := r05.cell 0
            have c2 := r05.cell 2
            have c3 := r05.cell 3
            simp only [List.getElem?_cons_zero, List.getElem?_cons_succ] at c0 c2 c3
            go_wp2_with (first | refine wpList_store_row rfl 33 (.tmp 2) (.tmp 74) rfl w.heap.size _ rfl rfl _ _ q0 infoRS rfl (by simp [Value.oneCell']) ?_)
            go_roundw
            case rel => exact ⟨i + 1, 0, y + 1, gq, cap, c, by omega, by go_num, HNX, OK', r06, r15, own_monoN ho6 (Nat.zero_le _), ⟨hn0, hn1⟩, bl6⟩
            case measure => simp [intOf]; omega
          · rw [if_neg (by exact hlast)] at HNX OK'
            clear h10 HST OK
            have CDN : Hid (∀ wx, wx.ownsRow 0 9 1 (.slice (some ⟨gq, 0, none⟩) ht cap) ht (txt (N11.rows wd ht c)) → Calls Try.prog 35 #[.agg #[.int .i64 wd, .int .i64 ht, .int .i64 x, .int .i64 y, .slice (some ⟨gq, 0, none⟩) ht cap]] wx fun e w' => ∃ g2 cap2, e = .returned (.agg #[.int .i64 wd, .int .i64 ht, .int .i64 0, .int .i64 y, .slice (some ⟨g2, 0, none⟩) ht cap2]) ∧ w'.ownsRow wx.heap.size 9 1 (.slice (some ⟨g2, 0, none⟩) ht cap2) ht (txt (N11.rows wd ht (c.drop wd ++ List.replicate wd 32))) ∧ Below wx.heap.size wx w') := fun wx hx => by
              rw [N11.rows_scroll hcl h3]
              exact refDown_no wd ht x y gq cap 0 _ (by omega) h2 h4 wx hx
            clear hlast
            go_wp2_with (first | refine wpList_load_row rfl 33 (.tmp 2) rfl w.heap.size rfl _ _ _ _ r0 Try.underlying33 rfl infoRS ?_)
            refine (CDN.out _ (by exact ho)).mono ?_
            rintro e w5 ⟨g5, cap5, rfl, ho5, b5⟩
            have q0 := r0.below b5 r0.lt
            have q1 := r1.below b5 r1.lt
            have bl5 := hbl.trans (b5.mono hbl.size)
            have hs5 : w.heap.size + 1 < _ := r1.lt
            have hg5 := ((World.ownsRow.lt ho5) g5 rfl).1
            have r05 := q0.setRow [.int .i64 wd, .int .i64 ht, .int .i64 0, .int .i64 y, .slice (some ⟨g5, 0, none⟩) ht cap5]
            have r15 := q1.setRow_other (k := w.heap.size) (by omega) (List.toArray [.int .i64 wd, .int .i64 ht, .int .i64 0, .int .i64 y, .slice (some ⟨g5, 0, none⟩) ht cap5])
            have ho6 := own_setRow2 (g := w.heap.size) (cs := List.toArray [.int .i64 wd, .int .i64 ht, .int .i64 0, .int .i64 y, .slice (some ⟨g5, 0, none⟩) ht cap5]) ho5 (by omega)
            have bl6 := below_row bl5 (Nat.le_refl _) (List.toArray [.int .i64 wd, .int .i64 ht, .int .i64 0, .int .i64 y, .slice (some ⟨g5, 0, none⟩) ht cap5])
            clear q1 bl5
            have r06 : Row _ w.heap.size 33 [.int .i64 wd, .int .i64 ht, .int .i64 0, .int .i64 y, .slice (some ⟨g5, 0, none⟩) ht cap5] := r05
            have c0 := r05.cell 0
            have c2 := r05.cell 2
            have c3 := r05.cell 3
            simp only [List.getElem?_cons_zero, List.getElem?_cons_succ] at c0 c2 c3
            go_wp2_with (first | refine wpList_store_row rfl 33 (.tmp 2) (.tmp 74) rfl w.heap.size _ rfl rfl _ _ q0 infoRS rfl (by simp [Value.oneCell']) ?_)
            go_roundw
            case rel => exact ⟨i + 1, 0, y, g5, cap5, (c.drop wd ++ List.replicate wd 32), by omega, by go_num, HNX, OK', r06, r15, own_monoN ho6 (Nat.zero_le _), ⟨by omega, by omega⟩, bl6⟩
            case measure => simp [intOf]; omega
        rw [if_neg h10] at HNX OK'
        by_cases h8 : out[i].toNat = 8
        · rw [if_pos h8] at HNX OK'
          have v10 : ((out[i].toNat : Int) == 10) = false := by rw [beq_eq_false_iff_ne]; omega
          have v13 : ((out[i].toNat : Int) == 13) = false := by rw [beq_eq_false_iff_ne]; omega
          have v8 : ((out[i].toNat : Int) == 8) = true := by rw [beq_iff_eq]; omega
          have v12 : ((out[i].toNat : Int) == 12) = false := by rw [beq_eq_false_iff_ne]; omega
          by_cases hx0 : x = 0
          · have t0 : ¬ (0 : Int) < (x : Int) := by omega
            have hx1 : x - 1 = x := by omega
            rw [hx1] at HNX OK'
            have c2 := r0.cell 2
            simp only [List.getElem?_cons_zero, List.getElem?_cons_succ] at c2
            clear hx1 hx0 h10 h8 HST OK
            go_wp2
            go_roundw
            case rel => exact ⟨i + 1, x, y, gq, cap, c, by omega, by go_num, HNX, OK', r0, r1, ho, ⟨hn0, hn1⟩, hbl⟩
            case measure => simp [intOf]; omega
          · obtain ⟨z, hz⟩ : ∃ z, z = x - 1 := ⟨_, rfl⟩
            rw [← hz] at HNX OK'
            have t0 : (0 : Int) < (x : Int) := by omega
            have e3 : (x : Int) - 1 = (z : Int) := by omega
            have w3 : IntKind.i64.wrap (z : Int) = (z : Int) := by rw [IntKind.wrap_i64]; omega
            clear hz hx0 h10 h8 HST OK
            have r0b := r0.set 2 (.int .i64 z)
            have r1b := r1.other (k := w.heap.size) (i := 2) (by omega) (.int .i64 z)
            have hob := own_setCell2 (g := w.heap.size) (i := 2) (u := .int .i64 z) ho (by omega)
            have blb := hbl.setCell (p := ⟨w.heap.size, 2, none⟩) (Nat.le_refl _) (.int .i64 z)
            have c0 := r0.cell 0
            have c1 := r0.cell 1
            have c2 := r0.cell 2
            have c3 := r0.cell 3
            have c4 := r0.cell 4
            have f2 := r0.frozen 2
            have f3 := r0.frozen 3
            have f4 := r0.frozen 4
            simp only [List.getElem?_cons_zero, List.getElem?_cons_succ] at c0 c1 c2 c3 c4
            have r0c : Row _ w.heap.size 33 [.int .i64 wd, .int .i64 ht, .int .i64 z, .int .i64 y, .slice (some ⟨gq, 0, none⟩) ht cap] := r0b
            clear r0b
            go_wp2
            go_roundw
            case rel => exact ⟨i + 1, z, y, gq, cap, c, by omega, by go_num, HNX, OK', r0c, r1b, hob, ⟨hn0, hn1⟩, blb⟩
            case measure => simp [intOf]; omega
        rw [if_neg h8] at HNX OK'
        by_cases h13 : out[i].toNat = 13
        · rw [if_pos h13] at HNX OK'
          have v10 : ((out[i].toNat : Int) == 10) = false := by rw [beq_eq_false_iff_ne]; omega
          have v13 : ((out[i].toNat : Int) == 13) = true := by rw [beq_iff_eq]; omega
          have v8 : ((out[i].toNat : Int) == 8) = false := by rw [beq_eq_false_iff_ne]; omega
          have v12 : ((out[i].toNat : Int) == 12) = false := by rw [beq_eq_false_iff_ne]; omega
          clear h10 h8 h13 HST OK
          have r0b := r0.set 2 (.int .i64 0)
          have r1b := r1.other (k := w.heap.size) (i := 2) (by omega) (.int .i64 0)
          have hob := own_setCell2 (g := w.heap.size) (i := 2) (u := .int .i64 0) ho (by omega)
          have blb := hbl.setCell (p := ⟨w.heap.size, 2, none⟩) (Nat.le_refl _) (.int .i64 0)
          have c0 := r0.cell 0
          have c1 := r0.cell 1
          have c2 := r0.cell 2
          have c3 := r0.cell 3
          have c4 := r0.cell 4
          have f2 := r0.frozen 2
          have f3 := r0.frozen 3
          have f4 := r0.frozen 4
          simp only [List.getElem?_cons_zero, List.getElem?_cons_succ] at c0 c1 c2 c3 c4
          have r0c : Row _ w.heap.size 33 [.int .i64 wd, .int .i64 ht, .int .i64 0, .int .i64 y, .slice (some ⟨gq, 0, none⟩) ht cap] := r0b
          clear r0b
          go_wp2
          go_roundw
          case rel => exact ⟨i + 1, 0, y, gq, cap, c, by omega, by go_num, HNX, OK', r0c, r1b, hob, ⟨hn0, hn1⟩, blb⟩
          case measure => simp [intOf]; omega
        rw [if_neg h13] at HNX OK'
        by_cases h12 : out[i].toNat = 12
        · rw [if_pos h12] at HNX OK'
          have v10 : ((out[i].toNat : Int) == 10) = false := by rw [beq_eq_false_iff_ne]; omega
          have v13 : ((out[i].toNat : Int) == 13) = false := by rw [beq_eq_false_iff_ne]; omega
          have v8 : ((out[i].toNat : Int) == 8) = false := by rw [beq_eq_false_iff_ne]; omega
          have v12 : ((out[i].toNat : Int) == 12) = true := by rw [beq_iff_eq]; omega
          clear h10 h8 h13 h12 HST OK
          have CNW : Hid (∀ wx, Calls Try.prog 14 #[.int .i64 wd, .int .i64 ht] wx fun e w' => ∃ gq cap, e = .returned (.agg #[.int .i64 wd, .int .i64 ht, .int .i64 0, .int .i64 0, .slice (some ⟨gq, 0, none⟩) ht cap]) ∧ w'.ownsRow wx.heap.size 9 1 (.slice (some ⟨gq, 0, none⟩) ht cap) ht (txt (N11.rows wd ht (List.replicate (wd * ht) 32))) ∧ Below wx.heap.size wx w') := fun wx => by
            rw [N11.rows_new]; exact refNew_any wd ht h1 h2 h3 h4 wx
          have c0 := r0.cell 0
          have c1 := r0.cell 1
          have c2 := r0.cell 2
          have c3 := r0.cell 3
          have c4 := r0.cell 4
          have f2 := r0.frozen 2
          have f3 := r0.frozen 3
          have f4 := r0.frozen 4
          simp only [List.getElem?_cons_zero, List.getElem?_cons_succ] at c0 c1 c2 c3 c4
          go_wp2_with fail
          refine (CNW.out _).mono ?_
          rintro e w5 ⟨g5, cap5, rfl, ho5, b5⟩
          have q0 := r0.below b5 r0.lt
          have q1 := r1.below b5 r1.lt
          have bl5 := hbl.trans (b5.mono hbl.size)
          have hg5 := ((World.ownsRow.lt ho5) g5 rfl).1
          have r05 := q0.setRow [.int .i64 wd, .int .i64 ht, .int .i64 0, .int .i64 0, .slice (some ⟨g5, 0, none⟩) ht cap5]
          have r15 := q1.setRow_other (k := w.heap.size) (by omega) (List.toArray [.int .i64 wd, .int .i64 ht, .int .i64 0, .int .i64 0, .slice (some ⟨g5, 0, none⟩) ht cap5])
          have ho6 := own_setRow2 (g := w.heap.size) (cs := List.toArray [.int .i64 wd, .int .i64 ht, .int .i64 0, .int .i64 0, .slice (some ⟨g5, 0, none⟩) ht cap5]) ho5 (by omega)
          have bl6 := below_row bl5 (Nat.le_refl _) (List.toArray [.int .i64 wd, .int .i64 ht, .int .i64 0, .int .i64 0, .slice (some ⟨g5, 0, none⟩) ht cap5])
          clear q1 bl5
          clear c0 c1 c2 c3 c4 f2 f3 f4
          have r06 : Row _ w.heap.size 33 [.int .i64 wd, .int .i64 ht, .int .i64 0, .int .i64 0, .slice (some ⟨g5, 0, none⟩) ht cap5] := r05
          have c0 := r05.cell 0
          have c2 := r05.cell 2
          have c3 := r05.cell 3
          simp only [List.getElem?_cons_zero, List.getElem?_cons_succ] at c0 c2 c3
          go_wp2_with (first | refine wpList_store_row rfl 33 (.tmp 2) (.tmp 95) rfl w.heap.size _ rfl rfl _ _ q0 infoRS rfl (by simp [Value.oneCell']) ?_)
          go_roundw
          case rel => exact ⟨i + 1, 0, 0, g5, cap5, (List.replicate (wd * ht) 32), by omega, by go_num, HNX, OK', r06, r15, own_monoN ho6 (Nat.zero_le _), ⟨by omega, by omega⟩, bl6⟩
          case measure => simp [intOf]; omega
        rw [if_neg h12] at HNX OK'
        have v10 : ((out[i].toNat : Int) == 10) = false := by rw [beq_eq_false_iff_ne]; omega
        have v13 : ((out[i].toNat : Int) == 13) = false := by rw [beq_eq_false_iff_ne]; omega
        have v8 : ((out[i].toNat : Int) == 8) = false := by rw [beq_eq_false_iff_ne]; omega
        have v12 : ((out[i].toNat : Int) == 12) = false := by rw [beq_eq_false_iff_ne]; omega
        clear h10 h8 h13 h12 HST OK
        go_wp2
        go_roundw
        case rel => exact ⟨i + 1, x, y, gq, cap, c, by omega, by go_num, HNX, OK', r0, r1, ho, ⟨hn0, hn1⟩, hbl⟩
        case measure => simp [intOf]; omega
    · obtain rfl : i = out.size := by omega
      have HE : Hid ((⟨x, y, c⟩ : N11.St) = N11.put wd ht s0 out.data.toList) := by
        show _ = _
        rw [HST.out, show out.size = out.data.toList.length from by simp, List.take_length]
      clear HST OK
      go_wp2_with (first | refine wpList_load_row rfl 33 (.tmp 2) rfl w.heap.size rfl _ _ _ _ r0 Try.underlying33 rfl infoRS ?_ | refine wpList_store_row rfl 33 (.tmp 4) (.tmp 96) rfl (w.heap.size + 1) _ rfl rfl _ _ r1 infoRS rfl (by simp [Value.oneCell']) ?_)
      refine bodyPost_ret (results_cell_row rfl _ _ (w.heap.size + 1) _ _ _ _ rfl (r1.setRow [.int .i64 wd, .int .i64 ht, .int .i64 x, .int .i64 y, .slice (some ⟨gq, 0, none⟩) ht cap]) Try.underlying33 rfl infoRS) rfl ⟨gq, cap, ?_, ?_, below_row hbl (by omega) _⟩
      · rw [← HE.out]
      · rw [← HE.out]
        exact own_setRow2 ho (by omega)

end Go.Proofs.Ytekpbfbipkjibaa
