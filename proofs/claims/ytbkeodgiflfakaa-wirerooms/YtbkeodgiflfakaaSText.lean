/-
  Layer 3: the sum of parts, as a text.
-/
import Derived.Test.YtbkeodgiflfakaaSStepX
import Derived.Test.YtbkeodgiflfakaaSWhole
import Derived.Lib.Join
namespace Go.Proofs.Ytbkeodgiflfakaa
open Go.RowKit
set_option linter.unusedVariables false
set_option maxRecDepth 20000

/-- A list of texts that a call is handed: nil, or cells below. -/
def IsStrs (w : World) (v : Value) (xs : List ByteArray) : Prop :=
  (v = .slice none 0 0 ∧ xs = []) ∨ ∃ bk o c, v = .slice (some ⟨bk, o, none⟩) xs.length c ∧ xs.length ≤ c ∧ bk < w.heap.size ∧ ∀ (j : Nat) x, xs[j]? = some x → w.cell? ⟨bk, o + j, none⟩ = some (.string x)
/-- All of them, one behind the other. -/
def allOf (xs : List ByteArray) : List UInt8 := (xs.map (·.data.toList)).flatten

theorem join_all (xs : List (List UInt8)) : Lib.join xs [] = xs.flatten := by
  unfold Lib.join
  induction xs with
  | nil => rfl
  | cons x xs ih =>
    cases xs with
    | nil => simp [List.intercalate]
    | cons y ys => rw [List.intercalate_cons_cons, ih]; simp

set_option maxHeartbeats 400000 in
theorem join_any (v : Value) (xs : List ByteArray) (w : World) (hv : IsStrs w v xs) (hn : xs.length ≤ 1000) (hl : (allOf xs).length ≤ 1000000) :
    Calls Try.prog 77 #[v, .string ⟨#[]⟩] w fun e w' => e = .returned (.string ⟨(allOf xs).toArray⟩) ∧ Below w.heap.size w w' := by
  rcases hv with ⟨rfl, rfl⟩ | ⟨bk, o, c, rfl, hc, hb, hcell⟩
  · go_enter Try.func77, Try.ntmps77
    go_wp2
    go_ret
    exact ⟨rfl, Below.refl _ _⟩
  · have h := Try.strings_Join bk o c xs ⟨#[]⟩ w hcell hb (by omega) hc (by rw [join_all]; exact Nat.le_trans hl (by omega))
    rw [join_all] at h
    exact h

theorem ix0 (a b c d e f g i : Nat) (w : World) : (Instr.index 121 (.agg (u32s [a, b, c, d, e, f, g, i]).toArray) (.int .i64 0)).run Try.prog w = .ok (.int .u32 (a : Int)) w := by kernel_rfl
theorem ix1 (a b c d e f g i : Nat) (w : World) : (Instr.index 121 (.agg (u32s [a, b, c, d, e, f, g, i]).toArray) (.int .i64 1)).run Try.prog w = .ok (.int .u32 (b : Int)) w := by kernel_rfl
theorem ix2 (a b c d e f g i : Nat) (w : World) : (Instr.index 121 (.agg (u32s [a, b, c, d, e, f, g, i]).toArray) (.int .i64 2)).run Try.prog w = .ok (.int .u32 (c : Int)) w := by kernel_rfl
theorem ix3 (a b c d e f g i : Nat) (w : World) : (Instr.index 121 (.agg (u32s [a, b, c, d, e, f, g, i]).toArray) (.int .i64 3)).run Try.prog w = .ok (.int .u32 (d : Int)) w := by kernel_rfl
theorem ix4 (a b c d e f g i : Nat) (w : World) : (Instr.index 121 (.agg (u32s [a, b, c, d, e, f, g, i]).toArray) (.int .i64 4)).run Try.prog w = .ok (.int .u32 (e : Int)) w := by kernel_rfl
theorem ix5 (a b c d e f g i : Nat) (w : World) : (Instr.index 121 (.agg (u32s [a, b, c, d, e, f, g, i]).toArray) (.int .i64 5)).run Try.prog w = .ok (.int .u32 (f : Int)) w := by kernel_rfl
theorem ix6 (a b c d e f g i : Nat) (w : World) : (Instr.index 121 (.agg (u32s [a, b, c, d, e, f, g, i]).toArray) (.int .i64 6)).run Try.prog w = .ok (.int .u32 (g : Int)) w := by kernel_rfl
theorem ix7 (a b c d e f g i : Nat) (w : World) : (Instr.index 121 (.agg (u32s [a, b, c, d, e, f, g, i]).toArray) (.int .i64 7)).run Try.prog w = .ok (.int .u32 (i : Int)) w := by kernel_rfl
theorem index_row {l : List Nat} (h8 : l.length = 8) (j : Nat) (hj : j < 8) (w : World) : (Instr.index 121 (.agg (u32s l).toArray) (.int .i64 (j : Int))).run Try.prog w = .ok (.int .u32 ((l.getD j 0 : Nat) : Int)) w := by
  obtain ⟨a, b, c, d, e, f, g, i, rfl⟩ := eight h8
  have hc : j = 0 ∨ j = 1 ∨ j = 2 ∨ j = 3 ∨ j = 4 ∨ j = 5 ∨ j = 6 ∨ j = 7 := by omega
  rcases hc with rfl | rfl | rfl | rfl | rfl | rfl | rfl | rfl
  · exact ix0 _ _ _ _ _ _ _ _ w
  · exact ix1 _ _ _ _ _ _ _ _ w
  · exact ix2 _ _ _ _ _ _ _ _ w
  · exact ix3 _ _ _ _ _ _ _ _ w
  · exact ix4 _ _ _ _ _ _ _ _ w
  · exact ix5 _ _ _ _ _ _ _ _ w
  · exact ix6 _ _ _ _ _ _ _ _ w
  · exact ix7 _ _ _ _ _ _ _ _ w

theorem row8_of (a b c d e f g i : Nat) : u32s [a, b, c, d, e, f, g, i] = row8 a b c d e f g i := rfl

theorem bytesOf_take (h : List Nat) (k : Nat) (hk : k < h.length) : S.bytesOf (h.take (k + 1)) = S.bytesOf (h.take k) ++ W.putL (h.getD k 0) 4 := by
  rw [List.take_succ_eq_append_getElem hk]
  unfold S.bytesOf
  rw [List.flatMap_append]
  simp [hk]

theorem isBuilder_lt {T e B b : Nat} {bs : List Value} {w : World} (h : Lib.IsBuilder T e B b bs w) : b < w.heap.size := by
  rcases h with h | h
  · exact h.lt
  · exact h.lt
theorem isBuilder_below {T e B b : Nat} {bs : List Value} {w w' : World} (h : Lib.IsBuilder T e B b bs w) (hb : Below w.heap.size w w') : Lib.IsBuilder T e B b bs w' := by
  rcases h with h | h
  · exact .inl (builder_below h hb)
  · exact .inr (builder_below h hb)

set_option maxHeartbeats 2000000 in
theorem text_any (v : Value) (xs : List ByteArray) (w : World) (hv : IsStrs w v xs) (hn : xs.length ≤ 1000) (hl : (allOf xs).length ≤ 1000000) :
    Calls Try.prog 68 #[v] w fun e w' => e = .returned (.string ⟨(S.sumL (allOf xs)).toArray⟩) ∧ Below w.heap.size w w' := by
  obtain ⟨m, hm⟩ : ∃ m, m = allOf xs := ⟨_, rfl⟩
  have cJ := join_any v xs w hv hn hl
  rw [← hm] at hl cJ ⊢
  have CJ : Hid (Calls Try.prog 77 #[v, .string ⟨#[]⟩] w fun e w' => e = .returned (.string ⟨m.toArray⟩) ∧ Below w.heap.size w w') := cJ
  clear hm cJ hv
  have hps : (⟨(S.padL m).toArray⟩ : ByteArray).size = (S.padL m).length := by simp [ByteArray.size]
  obtain ⟨N, hN⟩ : ∃ N, (S.padL m).length = 64 * N := ⟨(S.padL m).length / 64, by have := S.padL_mod m; omega⟩
  have hNb : N ≤ 20000 := by have := S.padL_length m; have := S.noughts_le m.length; omega
  obtain ⟨p, hp⟩ : ∃ p : ByteArray, p = ⟨(S.padL m).toArray⟩ := ⟨_, rfl⟩
  have hpd : p.data.toList = S.padL m := by rw [hp]
  have hsz : p.size = 64 * N := by rw [hp, hps, hN]
  have hsum : S.sumL m = S.bytesOf (S.blocks (S.padL m) S.start N) := by
    show S.bytesOf (S.blocks (S.padL m) S.start ((S.padL m).length / 64)) = _
    rw [hN]; congr 1; congr 1; omega
  have HSM := Lib.hid hsum
  have HPD := Lib.hid hpd
  have HP := Lib.hid hp
  have HSZ := Lib.hid hsz
  have hi8 : ∀ l : List Nat, l.length = 8 → (Try.prog.info? 121).map (·.size) = some (u32s l).toArray.size := fun l hl => by rw [List.size_toArray, u32s_length, hl]; kernel_rfl
  have hi64 : (Try.prog.info? 123).map (·.size) = some (u32s S.keys).toArray.size := by kernel_rfl
  clear hps hN hpd hsum hp hsz
  go_enter Try.func68, Try.ntmps68
  go_wp2_with fail
  refine (Hid.out CJ).mono ?_
  rintro e w1 ⟨rfl, b1⟩
  clear CJ
  go_wp2_with fail
  refine (whole_any _ (by simp [ByteArray.size]; omega) _).mono ?_
  rintro e w2 ⟨rfl, b2⟩
  rw [show (⟨m.toArray⟩ : ByteArray).data.toList = m from by simp, ← HP.out]
  have b2' := b1.trans (b2.mono b1.size)
  clear b1 b2
  go_wp2_with fail
  refine (Start_any _).mono ?_
  rintro e w3 ⟨rfl, b3⟩
  have b3' := b2'.trans (b3.mono b2'.size)
  clear b2' b3
  go_wp2_with fail
  refine (Keys_any _).mono ?_
  rintro e w4 ⟨rfl, b4⟩
  have b4' := b3'.trans (b4.mono b3'.size)
  clear b3' b4
  have z4 := b4'.size
  go_wp2_with (first | refine wpList_store_row rfl 121 (.tmp 4) (.tmp 13) rfl w4.heap.size _ rfl rfl _ _ ((Row.new' (l := u32s (List.replicate 8 0)) rfl rfl).alloc _) (hi8 _ S.start_length) rfl (u32s_one _) ?_ | refine wpList_store_row rfl 123 (.tmp 5) (.tmp 14) rfl (w4.heap.size + 1) _ rfl rfl _ _ ((Row.new' (l := u32s (List.replicate 64 0)) rfl (by simp)).setRow_other (by omega) _) hi64 rfl (u32s_one _) ?_)
  obtain ⟨g, hg⟩ : ∃ g, g = w4.heap.size := ⟨_, rfl⟩
  have hgz : w.heap.size ≤ g := by rw [hg]; exact z4
  rw [← hg]
  have HG := Lib.hid hg
  clear hg
  go_loopw [6] (fun av wr => ∃ k : Nat, k ≤ N ∧ av = .int .i64 ((64 * k : Nat) : Int) ∧ Row wr g 121 (u32s (S.blocks (S.padL m) S.start k)) ∧ Row wr (g + 1) 123 (u32s S.keys) ∧ Below w.heap.size w wr) (fun av _ => 64 * N - (intOf av).toNat)
  case atStart =>
    refine ⟨0, Nat.zero_le _, rfl, ?_, ?_, ?_⟩
    · rw [HG.out]; exact (((Row.new' (l := u32s (List.replicate 8 0)) rfl rfl).alloc _).setRow (u32s S.start)).setRow_other (by omega) _
    · rw [HG.out]; exact ((Row.new' (l := u32s (List.replicate 64 0)) rfl (by simp)).setRow_other (by omega) _).setRow (u32s S.keys)
    · rw [HG.out]; exact below_row (below_row ((b4'.alloc z4 _).alloc (by simp; omega) _) z4 _) (by omega) _
  case round =>
    clear b4' z4
    obtain ⟨k, hk, rfl, r4, r5, hb⟩ := hrel
    clear HG
    have l8 : (S.blocks (S.padL m) S.start k).length = 8 := S.blocks_length S.start_length k
    have o8 : S.Ok (S.blocks (S.padL m) S.start k) := S.blocks_ok S.start_ok k
    by_cases hlt : k < N
    · have HBS : Hid (S.blocks (S.padL m) S.start (k + 1) = S.stepL (S.blocks (S.padL m) S.start k) (((S.padL m).drop (64 * k)).take 64)) := rfl
      have hbl : (((S.padL m).drop (64 * k)).take 64).length = 64 := by
        rw [List.length_take, List.length_drop, ← HPD.out, show p.data.toList.length = p.size from by simp, HSZ.out]; omega
      have cB := fun w => blockAt_any p (64 * k) (by rw [HSZ.out]; omega) (by rw [HSZ.out]; omega) w
      rw [HPD.out] at cB
      have cS := fun w => step_any S.keys (S.blocks (S.padL m) S.start k) (((S.padL m).drop (64 * k)).take 64) S.keys_length S.keys_ok l8 o8 hbl w
      generalize ((S.padL m).drop (64 * k)).take 64 = b at *
      obtain ⟨a0, a1, a2, a3, a4, a5, a6, a7, ha⟩ := eight (S.stepL_length (S.blocks (S.padL m) S.start k) b)
      have HB2 : Hid (S.blocks (S.padL m) S.start (k + 1) = [a0, a1, a2, a3, a4, a5, a6, a7]) := HBS.out.trans ha
      rw [stepK_keys, ha] at cS
      obtain ⟨h0, h1, h2, h3, h4, h5, h6, h7, hh⟩ := eight l8
      rw [hh] at cS r4
      clear HBS ha hh l8 o8 hbl
      have CS : Hid (∀ w, Calls Try.prog 80 #[.agg (row8 h0 h1 h2 h3 h4 h5 h6 h7).toArray, .agg (W.cellsOf b).toArray, .agg (u32s S.keys).toArray] w fun e w' => e = .returned (.agg (row8 a0 a1 a2 a3 a4 a5 a6 a7).toArray) ∧ Below w.heap.size w w') := cS
      obtain ⟨n, hn⟩ : ∃ n, n = 64 * k := ⟨_, rfl⟩
      rw [← hn] at cB ⊢
      have CB : Hid (∀ w, Calls Try.prog 81 #[.string p, .int .i64 (n : Int)] w fun e w' => e = .returned (.agg (W.cellsOf b).toArray) ∧ Below w.heap.size w w') := cB
      have hlt2 : (n : Int) < (p.size : Int) := by rw [HSZ.out]; omega
      have hnb : n ≤ 2000000 := by omega
      have HNK := Lib.hid hn
      clear cS cB hn
      rw [row8_of] at r4
      have hh8 : (Try.prog.info? 121).map (·.size) = some (row8 h0 h1 h2 h3 h4 h5 h6 h7).toArray.size := hi8 [h0, h1, h2, h3, h4, h5, h6, h7] rfl
      have ha8 : (Try.prog.info? 121).map (·.size) = some (row8 a0 a1 a2 a3 a4 a5 a6 a7).toArray.size := hi8 [a0, a1, a2, a3, a4, a5, a6, a7] rfl
      go_wp2
      refine wp_region_any (by kernel_rfl) ?_
      change wpAny _ _ _ _ _ _ _ (World.drew _)
      refine wpAny_take (i := 1) (v := .string p) rfl (by kernel_rfl) (by kernel_rfl) (by kernel_rfl) (fun _ _ _ h => h) (Or.inl ⟨by rfl, fun wx => by go_simp⟩) ?_
      refine wpAny_take (i := 2) (v := .int .i64 (n : Int)) rfl (by kernel_rfl) (by kernel_rfl) (by kernel_rfl) (fun _ _ _ h => h) (Or.inl ⟨by rfl, fun wx => by go_simp⟩) ?_
      refine wpAny_ready (rs := [0, 3, 4]) (by kernel_rfl) (by simp) ?_
      refine AllReady.cons rfl (fun K hK => ?_) ?_
      · refine step_load_row rfl 121 (.tmp 4) rfl g rfl _ _ _ (show Row _ _ _ _ from r4) Try.underlying121 rfl hh8 ?_
        refine hK _ _ ?_
        clear hK K
        refine wpAny_ready (rs := [3, 4]) (by kernel_rfl) (by simp) ?_
        refine AllReady.cons rfl (fun K hK => ?_) ?_
        · go_simp
          refine (CB.out _).mono ?_
          rintro e w1 ⟨rfl, b1⟩
          have p4 := Row.under b1 r4.lt (show Row _ g _ _ from r4)
          have p5 := Row.under b1 r5.lt (show Row _ (g + 1) _ _ from r5)
          have hb1 : Below w.heap.size w w1 := (hb.drew).trans (b1.mono hb.size)
          clear b1
          show K _ _
          refine hK _ _ ?_
          clear hK K
          refine wpAny_ready (rs := [4]) (by kernel_rfl) (by simp) ?_
          refine AllReady.cons rfl (fun K hK => ?_) ?_
          · refine step_load_row rfl 123 (.tmp 5) rfl (g + 1) rfl _ _ _ p5 Try.underlying123 rfl hi64 ?_
            refine hK _ _ ?_
            clear hK K
            refine wpAny_ready (rs := [5]) (by kernel_rfl) (by simp) ?_
            refine AllReady.cons rfl (fun K hK => ?_) ?_
            · go_simp
              refine (CS.out _).mono ?_
              rintro e w3 ⟨rfl, b3⟩
              have u4 := Row.under b3 p4.lt p4
              have u5 := Row.under b3 p5.lt p5
              have hb3 : Below w.heap.size w w3 := hb1.trans (b3.mono hb1.size)
              clear b3
              show K _ _
              refine hK _ _ ?_
              clear hK K
              refine wpAny_ready (rs := [6]) (by kernel_rfl) (by simp) ?_
              refine AllReady.cons rfl (fun K hK => ?_) ?_
              · refine step_store_row rfl 121 (.tmp 4) (.tmp 26) rfl g (row8 a0 a1 a2 a3 a4 a5 a6 a7) rfl rfl _ _ u4 ha8 rfl (u32s_one [a0, a1, a2, a3, a4, a5, a6, a7]) ?_
                refine hK _ _ ?_
                clear hK K
                refine wpAny_done (by kernel_rfl) ?_ _
                have e4 := u4.setRow (row8 a0 a1 a2 a3 a4 a5 a6 a7)
                have e5 := u5.setRow_other (k := g) (by omega) (row8 a0 a1 a2 a3 a4 a5 a6 a7).toArray
                have eb := below_row hb3 hgz (row8 a0 a1 a2 a3 a4 a5 a6 a7).toArray
                clear u4 u5 hb3 p4 p5 hb1 r4 r5 hb
                go_wp2
                go_roundw
                case rel => exact ⟨k + 1, by omega, by rw [HNK.out]; go_num, by rw [HB2.out]; exact e4, e5, eb⟩
                case measure => have := HNK.out; simp [intOf]; omega
              exact AllReady.nil
            exact AllReady.nil
          exact AllReady.nil
        refine AllReady.cons rfl (fun K hK => ?_) ?_
        · refine step_load_row rfl 123 (.tmp 5) rfl (g + 1) rfl _ _ _ (show Row _ _ _ _ from r5) Try.underlying123 rfl hi64 ?_
          refine hK _ _ ?_
          clear hK K
          refine wpAny_ready (rs := [3]) (by kernel_rfl) (by simp) ?_
          refine AllReady.cons rfl (fun K hK => ?_) ?_
          · go_simp
            refine (CB.out _).mono ?_
            rintro e w1 ⟨rfl, b1⟩
            have p4 := Row.under b1 r4.lt (show Row _ g _ _ from r4)
            have p5 := Row.under b1 r5.lt (show Row _ (g + 1) _ _ from r5)
            have hb1 : Below w.heap.size w w1 := (hb.drew).trans (b1.mono hb.size)
            clear b1
            show K _ _
            refine hK _ _ ?_
            clear hK K
            refine wpAny_ready (rs := [5]) (by kernel_rfl) (by simp) ?_
            refine AllReady.cons rfl (fun K hK => ?_) ?_
            · go_simp
              refine (CS.out _).mono ?_
              rintro e w3 ⟨rfl, b3⟩
              have u4 := Row.under b3 p4.lt p4
              have u5 := Row.under b3 p5.lt p5
              have hb3 : Below w.heap.size w w3 := hb1.trans (b3.mono hb1.size)
              clear b3
              show K _ _
              refine hK _ _ ?_
              clear hK K
              refine wpAny_ready (rs := [6]) (by kernel_rfl) (by simp) ?_
              refine AllReady.cons rfl (fun K hK => ?_) ?_
              · refine step_store_row rfl 121 (.tmp 4) (.tmp 26) rfl g (row8 a0 a1 a2 a3 a4 a5 a6 a7) rfl rfl _ _ u4 ha8 rfl (u32s_one [a0, a1, a2, a3, a4, a5, a6, a7]) ?_
                refine hK _ _ ?_
                clear hK K
                refine wpAny_done (by kernel_rfl) ?_ _
                have e4 := u4.setRow (row8 a0 a1 a2 a3 a4 a5 a6 a7)
                have e5 := u5.setRow_other (k := g) (by omega) (row8 a0 a1 a2 a3 a4 a5 a6 a7).toArray
                have eb := below_row hb3 hgz (row8 a0 a1 a2 a3 a4 a5 a6 a7).toArray
                clear u4 u5 hb3 p4 p5 hb1 r4 r5 hb
                go_wp2
                go_roundw
                case rel => exact ⟨k + 1, by omega, by rw [HNK.out]; go_num, by rw [HB2.out]; exact e4, e5, eb⟩
                case measure => have := HNK.out; simp [intOf]; omega
              exact AllReady.nil
            exact AllReady.nil
          exact AllReady.nil
        exact AllReady.nil
      refine AllReady.cons rfl (fun K hK => ?_) ?_
      · go_simp
        refine (CB.out _).mono ?_
        rintro e w1 ⟨rfl, b1⟩
        have p4 := Row.under b1 r4.lt (show Row _ g _ _ from r4)
        have p5 := Row.under b1 r5.lt (show Row _ (g + 1) _ _ from r5)
        have hb1 : Below w.heap.size w w1 := (hb.drew).trans (b1.mono hb.size)
        clear b1
        show K _ _
        refine hK _ _ ?_
        clear hK K
        refine wpAny_ready (rs := [0, 4]) (by kernel_rfl) (by simp) ?_
        refine AllReady.cons rfl (fun K hK => ?_) ?_
        · refine step_load_row rfl 121 (.tmp 4) rfl g rfl _ _ _ p4 Try.underlying121 rfl hh8 ?_
          refine hK _ _ ?_
          clear hK K
          refine wpAny_ready (rs := [4]) (by kernel_rfl) (by simp) ?_
          refine AllReady.cons rfl (fun K hK => ?_) ?_
          · refine step_load_row rfl 123 (.tmp 5) rfl (g + 1) rfl _ _ _ p5 Try.underlying123 rfl hi64 ?_
            refine hK _ _ ?_
            clear hK K
            refine wpAny_ready (rs := [5]) (by kernel_rfl) (by simp) ?_
            refine AllReady.cons rfl (fun K hK => ?_) ?_
            · go_simp
              refine (CS.out _).mono ?_
              rintro e w3 ⟨rfl, b3⟩
              have u4 := Row.under b3 p4.lt p4
              have u5 := Row.under b3 p5.lt p5
              have hb3 : Below w.heap.size w w3 := hb1.trans (b3.mono hb1.size)
              clear b3
              show K _ _
              refine hK _ _ ?_
              clear hK K
              refine wpAny_ready (rs := [6]) (by kernel_rfl) (by simp) ?_
              refine AllReady.cons rfl (fun K hK => ?_) ?_
              · refine step_store_row rfl 121 (.tmp 4) (.tmp 26) rfl g (row8 a0 a1 a2 a3 a4 a5 a6 a7) rfl rfl _ _ u4 ha8 rfl (u32s_one [a0, a1, a2, a3, a4, a5, a6, a7]) ?_
                refine hK _ _ ?_
                clear hK K
                refine wpAny_done (by kernel_rfl) ?_ _
                have e4 := u4.setRow (row8 a0 a1 a2 a3 a4 a5 a6 a7)
                have e5 := u5.setRow_other (k := g) (by omega) (row8 a0 a1 a2 a3 a4 a5 a6 a7).toArray
                have eb := below_row hb3 hgz (row8 a0 a1 a2 a3 a4 a5 a6 a7).toArray
                clear u4 u5 hb3 p4 p5 hb1 r4 r5 hb
                go_wp2
                go_roundw
                case rel => exact ⟨k + 1, by omega, by rw [HNK.out]; go_num, by rw [HB2.out]; exact e4, e5, eb⟩
                case measure => have := HNK.out; simp [intOf]; omega
              exact AllReady.nil
            exact AllReady.nil
          exact AllReady.nil
        refine AllReady.cons rfl (fun K hK => ?_) ?_
        · refine step_load_row rfl 123 (.tmp 5) rfl (g + 1) rfl _ _ _ p5 Try.underlying123 rfl hi64 ?_
          refine hK _ _ ?_
          clear hK K
          refine wpAny_ready (rs := [0]) (by kernel_rfl) (by simp) ?_
          refine AllReady.cons rfl (fun K hK => ?_) ?_
          · refine step_load_row rfl 121 (.tmp 4) rfl g rfl _ _ _ p4 Try.underlying121 rfl hh8 ?_
            refine hK _ _ ?_
            clear hK K
            refine wpAny_ready (rs := [5]) (by kernel_rfl) (by simp) ?_
            refine AllReady.cons rfl (fun K hK => ?_) ?_
            · go_simp
              refine (CS.out _).mono ?_
              rintro e w3 ⟨rfl, b3⟩
              have u4 := Row.under b3 p4.lt p4
              have u5 := Row.under b3 p5.lt p5
              have hb3 : Below w.heap.size w w3 := hb1.trans (b3.mono hb1.size)
              clear b3
              show K _ _
              refine hK _ _ ?_
              clear hK K
              refine wpAny_ready (rs := [6]) (by kernel_rfl) (by simp) ?_
              refine AllReady.cons rfl (fun K hK => ?_) ?_
              · refine step_store_row rfl 121 (.tmp 4) (.tmp 26) rfl g (row8 a0 a1 a2 a3 a4 a5 a6 a7) rfl rfl _ _ u4 ha8 rfl (u32s_one [a0, a1, a2, a3, a4, a5, a6, a7]) ?_
                refine hK _ _ ?_
                clear hK K
                refine wpAny_done (by kernel_rfl) ?_ _
                have e4 := u4.setRow (row8 a0 a1 a2 a3 a4 a5 a6 a7)
                have e5 := u5.setRow_other (k := g) (by omega) (row8 a0 a1 a2 a3 a4 a5 a6 a7).toArray
                have eb := below_row hb3 hgz (row8 a0 a1 a2 a3 a4 a5 a6 a7).toArray
                clear u4 u5 hb3 p4 p5 hb1 r4 r5 hb
                go_wp2
                go_roundw
                case rel => exact ⟨k + 1, by omega, by rw [HNK.out]; go_num, by rw [HB2.out]; exact e4, e5, eb⟩
                case measure => have := HNK.out; simp [intOf]; omega
              exact AllReady.nil
            exact AllReady.nil
          exact AllReady.nil
        exact AllReady.nil
      refine AllReady.cons rfl (fun K hK => ?_) ?_
      · refine step_load_row rfl 123 (.tmp 5) rfl (g + 1) rfl _ _ _ (show Row _ _ _ _ from r5) Try.underlying123 rfl hi64 ?_
        refine hK _ _ ?_
        clear hK K
        refine wpAny_ready (rs := [0, 3]) (by kernel_rfl) (by simp) ?_
        refine AllReady.cons rfl (fun K hK => ?_) ?_
        · refine step_load_row rfl 121 (.tmp 4) rfl g rfl _ _ _ (show Row _ _ _ _ from r4) Try.underlying121 rfl hh8 ?_
          refine hK _ _ ?_
          clear hK K
          refine wpAny_ready (rs := [3]) (by kernel_rfl) (by simp) ?_
          refine AllReady.cons rfl (fun K hK => ?_) ?_
          · go_simp
            refine (CB.out _).mono ?_
            rintro e w1 ⟨rfl, b1⟩
            have p4 := Row.under b1 r4.lt (show Row _ g _ _ from r4)
            have p5 := Row.under b1 r5.lt (show Row _ (g + 1) _ _ from r5)
            have hb1 : Below w.heap.size w w1 := (hb.drew).trans (b1.mono hb.size)
            clear b1
            show K _ _
            refine hK _ _ ?_
            clear hK K
            refine wpAny_ready (rs := [5]) (by kernel_rfl) (by simp) ?_
            refine AllReady.cons rfl (fun K hK => ?_) ?_
            · go_simp
              refine (CS.out _).mono ?_
              rintro e w3 ⟨rfl, b3⟩
              have u4 := Row.under b3 p4.lt p4
              have u5 := Row.under b3 p5.lt p5
              have hb3 : Below w.heap.size w w3 := hb1.trans (b3.mono hb1.size)
              clear b3
              show K _ _
              refine hK _ _ ?_
              clear hK K
              refine wpAny_ready (rs := [6]) (by kernel_rfl) (by simp) ?_
              refine AllReady.cons rfl (fun K hK => ?_) ?_
              · refine step_store_row rfl 121 (.tmp 4) (.tmp 26) rfl g (row8 a0 a1 a2 a3 a4 a5 a6 a7) rfl rfl _ _ u4 ha8 rfl (u32s_one [a0, a1, a2, a3, a4, a5, a6, a7]) ?_
                refine hK _ _ ?_
                clear hK K
                refine wpAny_done (by kernel_rfl) ?_ _
                have e4 := u4.setRow (row8 a0 a1 a2 a3 a4 a5 a6 a7)
                have e5 := u5.setRow_other (k := g) (by omega) (row8 a0 a1 a2 a3 a4 a5 a6 a7).toArray
                have eb := below_row hb3 hgz (row8 a0 a1 a2 a3 a4 a5 a6 a7).toArray
                clear u4 u5 hb3 p4 p5 hb1 r4 r5 hb
                go_wp2
                go_roundw
                case rel => exact ⟨k + 1, by omega, by rw [HNK.out]; go_num, by rw [HB2.out]; exact e4, e5, eb⟩
                case measure => have := HNK.out; simp [intOf]; omega
              exact AllReady.nil
            exact AllReady.nil
          exact AllReady.nil
        refine AllReady.cons rfl (fun K hK => ?_) ?_
        · go_simp
          refine (CB.out _).mono ?_
          rintro e w1 ⟨rfl, b1⟩
          have p4 := Row.under b1 r4.lt (show Row _ g _ _ from r4)
          have p5 := Row.under b1 r5.lt (show Row _ (g + 1) _ _ from r5)
          have hb1 : Below w.heap.size w w1 := (hb.drew).trans (b1.mono hb.size)
          clear b1
          show K _ _
          refine hK _ _ ?_
          clear hK K
          refine wpAny_ready (rs := [0]) (by kernel_rfl) (by simp) ?_
          refine AllReady.cons rfl (fun K hK => ?_) ?_
          · refine step_load_row rfl 121 (.tmp 4) rfl g rfl _ _ _ p4 Try.underlying121 rfl hh8 ?_
            refine hK _ _ ?_
            clear hK K
            refine wpAny_ready (rs := [5]) (by kernel_rfl) (by simp) ?_
            refine AllReady.cons rfl (fun K hK => ?_) ?_
            · go_simp
              refine (CS.out _).mono ?_
              rintro e w3 ⟨rfl, b3⟩
              have u4 := Row.under b3 p4.lt p4
              have u5 := Row.under b3 p5.lt p5
              have hb3 : Below w.heap.size w w3 := hb1.trans (b3.mono hb1.size)
              clear b3
              show K _ _
              refine hK _ _ ?_
              clear hK K
              refine wpAny_ready (rs := [6]) (by kernel_rfl) (by simp) ?_
              refine AllReady.cons rfl (fun K hK => ?_) ?_
              · refine step_store_row rfl 121 (.tmp 4) (.tmp 26) rfl g (row8 a0 a1 a2 a3 a4 a5 a6 a7) rfl rfl _ _ u4 ha8 rfl (u32s_one [a0, a1, a2, a3, a4, a5, a6, a7]) ?_
                refine hK _ _ ?_
                clear hK K
                refine wpAny_done (by kernel_rfl) ?_ _
                have e4 := u4.setRow (row8 a0 a1 a2 a3 a4 a5 a6 a7)
                have e5 := u5.setRow_other (k := g) (by omega) (row8 a0 a1 a2 a3 a4 a5 a6 a7).toArray
                have eb := below_row hb3 hgz (row8 a0 a1 a2 a3 a4 a5 a6 a7).toArray
                clear u4 u5 hb3 p4 p5 hb1 r4 r5 hb
                go_wp2
                go_roundw
                case rel => exact ⟨k + 1, by omega, by rw [HNK.out]; go_num, by rw [HB2.out]; exact e4, e5, eb⟩
                case measure => have := HNK.out; simp [intOf]; omega
              exact AllReady.nil
            exact AllReady.nil
          exact AllReady.nil
        exact AllReady.nil
      exact AllReady.nil
    · obtain rfl : k = N := by omega
      have hge : ¬ ((64 * k : Nat) : Int) < (p.size : Int) := by rw [HSZ.out]; omega
      generalize hh : S.blocks (S.padL m) S.start k = h at *
      have l8' := Lib.hid l8
      clear hh l8
      obtain ⟨B, hB⟩ : ∃ B, B = wr.heap.size := ⟨_, rfl⟩
      have hBz : w.heap.size ≤ B := by rw [hB]; exact hb.size
      go_wp2_with (refine wpList_load_row rfl 121 (.tmp 4) rfl g rfl _ _ _ _ (r4.alloc _) Try.underlying121 rfl (hi8 _ l8'.out) ?_)
      have hI : Lib.IsBuilder 80 5 B B (Lib.byteCells (S.bytesOf (h.take 0))) (wr.alloc (.cells #[.pointer none, .slice none 0 0] 80 (0, 0))) :=
        .inl ⟨Nat.le_refl _, _, by rw [hB]; show (wr.heap.push _)[wr.heap.size]? = _; simp, World.ownsRow_nil _ _ _ _, by simp [Value.ownBlock]⟩
      have hbA : Below w.heap.size w (wr.alloc (.cells #[.pointer none, .slice none 0 0] 80 (0, 0))) := hb.alloc hb.size _
      rw [← hB]
      have HBB := Lib.hid hB
      clear r4 r5 hb hB
      go_loopw [28] (fun iv wx => ∃ j : Nat, j ≤ 8 ∧ iv = .int .i64 j ∧ Lib.IsBuilder 80 5 B B (Lib.byteCells (S.bytesOf (h.take j))) wx ∧ Below w.heap.size w wx) (fun iv _ => 8 - (intOf iv).toNat)
      case atStart => rw [HBB.out] at hI ⊢; exact ⟨0, Nat.zero_le _, rfl, hI, hbA⟩
      case round =>
        clear hI hbA
        obtain ⟨j, hj, rfl, hI, hbl⟩ := hrel
        have hz : B < wr.heap.size := isBuilder_lt hI
        have hln : (Lib.byteCells (S.bytesOf (h.take j))).length = 4 * j := by rw [byteCells_length, S.bytesOf_length, List.length_take, l8'.out]; omega
        have HLN := Lib.hid hln
        clear hln
        by_cases hlt : j < 8
        · have hix := index_row l8'.out j hlt
          have hx := o8.getD j
          have HT := Lib.hid (bytesOf_take h j (by rw [l8'.out]; exact hlt))
          generalize h.getD j 0 = x at hix hx HT
          go_wp2_with fail
          refine (put_any (x : Int) 4 (by omega) (by omega) _).mono ?_
          rintro e w5 ⟨rfl, b5⟩
          rw [Int.toNat_natCast, show W.clamp 4 = 4 from by decide]
          have hI5 := isBuilder_below hI b5
          have hb5 := hbl.trans (b5.mono hbl.size)
          have z5 := b5.size
          clear hI hbl b5
          go_wp2_with fail
          refine (writeString_any B B _ _ _ hI5 ?hl1 (by omega)).mono ?_
          case hl1 => rw [HLN.out]; show _ + (W.putL x 4).toArray.size ≤ _; rw [List.size_toArray, W.putL_length]; omega
          rintro e w6 ⟨rfl, h6, b6⟩
          have hb6 := hb5.trans (b6.mono hBz)
          have h6' : Lib.IsBuilder 80 5 B B (Lib.byteCells (S.bytesOf (h.take (j + 1)))) w6 := by
            rw [HT.out, byteCells_append]; exact .inr h6
          clear hI5 hb5 h6 b6
          go_wp2
          go_roundw
          case rel => exact ⟨j + 1, by omega, by go_num, h6', hb6⟩
          case measure => simp [intOf]; omega
        · obtain rfl : j = 8 := by omega
          have HE : Hid (S.bytesOf (h.take 8) = S.sumL m) := by rw [List.take_of_length_le (by rw [l8'.out]; exact Nat.le_refl _)]; exact HSM.out.symm
          rw [HE.out] at hI
          go_wp2_with fail
          refine (Try.Builder_String_any B B _ _ hI (by omega)).mono ?_
          rintro e w5 ⟨rfl, b5⟩
          have hb5 := hbl.trans (b5.mono hBz)
          clear hI hbl b5
          go_wp2
          go_ret
          exact ⟨rfl, hb5⟩

end Go.Proofs.Ytbkeodgiflfakaa
