/-
  Several texts in one module: SText, SSum, SAwake, HKey, HSum, HAwake, HDerive, HSame.
-/
import Derived.Test.YtbkeodgiflfakaaMod18
import Derived.Test.YtbkeodgiflfakaaMod20
import Derived.Test.YtbkeodgiflfakaaMod10
import Derived.Test.YtbkeodgiflfakaaMod1
import Derived.Lib.Join
/-
  Layer 3: the sum of parts, as a text.
-/
namespace Go.Proofs.Ytbkeodgiflfakaa
open Go.RowKit
set_option linter.unusedVariables false
set_option maxRecDepth 20000

/-- A list of texts that a call is handed: nil, or cells below. -/
def IsStrs (w : World) (v : Value) (xs : List ByteArray) : Prop :=
  (v = .slice none 0 0 ∧ xs = []) ∨ ∃ bk o c, v = .slice (some ⟨bk, o, none⟩) xs.length c ∧ xs.length ≤ c ∧ bk < w.heap.size ∧ ∀ (j : Nat) x, xs[j]? = some x → w.cell? ⟨bk, o + j, none⟩ = some (.string x)
/-- All of them, one behind the other. -/
def allOf (xs : List ByteArray) : List UInt8 := (xs.map (·.data.toList)).flatten

theorem join_all (xs : List (List UInt8)) : Lib.join xs [] = xs.flatten := by
  unfold Lib.join
  induction xs with
  | nil => rfl
  | cons x xs ih =>
    cases xs with
    | nil => simp [List.intercalate]
    | cons y ys => rw [List.intercalate_cons_cons, ih]; simp

set_option maxHeartbeats 400000 in
theorem join_any (v : Value) (xs : List ByteArray) (w : World) (hv : IsStrs w v xs) (hn : xs.length ≤ 1000) (hl : (allOf xs).length ≤ 1000000) :
    Calls Try.prog 77 #[v, .string ⟨#[]⟩] w fun e w' => e = .returned (.string ⟨(allOf xs).toArray⟩) ∧ Below w.heap.size w w' := by
  rcases hv with ⟨rfl, rfl⟩ | ⟨bk, o, c, rfl, hc, hb, hcell⟩
  · go_enter Try.func77, Try.ntmps77
    go_wp2
    go_ret
    exact ⟨rfl, Below.refl _ _⟩
  · have h := Try.strings_Join bk o c xs ⟨#[]⟩ w hcell hb (by omega) hc (by rw [join_all]; exact Nat.le_trans hl (by omega))
    rw [join_all] at h
    exact h

theorem ix0 (a b c d e f g i : Nat) (w : World) : (Instr.index 121 (.agg (u32s [a, b, c, d, e, f, g, i]).toArray) (.int .i64 0)).run Try.prog w = .ok (.int .u32 (a : Int)) w := by kernel_rfl
theorem ix1 (a b c d e f g i : Nat) (w : World) : (Instr.index 121 (.agg (u32s [a, b, c, d, e, f, g, i]).toArray) (.int .i64 1)).run Try.prog w = .ok (.int .u32 (b : Int)) w := by kernel_rfl
theorem ix2 (a b c d e f g i : Nat) (w : World) : (Instr.index 121 (.agg (u32s [a, b, c, d, e, f, g, i]).toArray) (.int .i64 2)).run Try.prog w = .ok (.int .u32 (c : Int)) w := by kernel_rfl
theorem ix3 (a b c d e f g i : Nat) (w : World) : (Instr.index 121 (.agg (u32s [a, b, c, d, e, f, g, i]).toArray) (.int .i64 3)).run Try.prog w = .ok (.int .u32 (d : Int)) w := by kernel_rfl
theorem ix4 (a b c d e f g i : Nat) (w : World) : (Instr.index 121 (.agg (u32s [a, b, c, d, e, f, g, i]).toArray) (.int .i64 4)).run Try.prog w = .ok (.int .u32 (e : Int)) w := by kernel_rfl
theorem ix5 (a b c d e f g i : Nat) (w : World) : (Instr.index 121 (.agg (u32s [a, b, c, d, e, f, g, i]).toArray) (.int .i64 5)).run Try.prog w = .ok (.int .u32 (f : Int)) w := by kernel_rfl
theorem ix6 (a b c d e f g i : Nat) (w : World) : (Instr.index 121 (.agg (u32s [a, b, c, d, e, f, g, i]).toArray) (.int .i64 6)).run Try.prog w = .ok (.int .u32 (g : Int)) w := by kernel_rfl
theorem ix7 (a b c d e f g i : Nat) (w : World) : (Instr.index 121 (.agg (u32s [a, b, c, d, e, f, g, i]).toArray) (.int .i64 7)).run Try.prog w = .ok (.int .u32 (i : Int)) w := by kernel_rfl
theorem index_row {l : List Nat} (h8 : l.length = 8) (j : Nat) (hj : j < 8) (w : World) : (Instr.index 121 (.agg (u32s l).toArray) (.int .i64 (j : Int))).run Try.prog w = .ok (.int .u32 ((l.getD j 0 : Nat) : Int)) w := by
  obtain ⟨a, b, c, d, e, f, g, i, rfl⟩ := eight h8
  have hc : j = 0 ∨ j = 1 ∨ j = 2 ∨ j = 3 ∨ j = 4 ∨ j = 5 ∨ j = 6 ∨ j = 7 := by omega
  rcases hc with rfl | rfl | rfl | rfl | rfl | rfl | rfl | rfl
  · exact ix0 _ _ _ _ _ _ _ _ w
  · exact ix1 _ _ _ _ _ _ _ _ w
  · exact ix2 _ _ _ _ _ _ _ _ w
  · exact ix3 _ _ _ _ _ _ _ _ w
  · exact ix4 _ _ _ _ _ _ _ _ w
  · exact ix5 _ _ _ _ _ _ _ _ w
  · exact ix6 _ _ _ _ _ _ _ _ w
  · exact ix7 _ _ _ _ _ _ _ _ w

theorem row8_of (a b c d e f g i : Nat) : u32s [a, b, c, d, e, f, g, i] = row8 a b c d e f g i := rfl

theorem bytesOf_take (h : List Nat) (k : Nat) (hk : k < h.length) : S.bytesOf (h.take (k + 1)) = S.bytesOf (h.take k) ++ W.putL (h.getD k 0) 4 := by
  rw [List.take_succ_eq_append_getElem hk]
  unfold S.bytesOf
  rw [List.flatMap_append]
  simp [hk]

theorem isBuilder_lt {T e B b : Nat} {bs : List Value} {w : World} (h : Lib.IsBuilder T e B b bs w) : b < w.heap.size := by
  rcases h with h | h
  · exact h.lt
  · exact h.lt
theorem isBuilder_below {T e B b : Nat} {bs : List Value} {w w' : World} (h : Lib.IsBuilder T e B b bs w) (hb : Below w.heap.size w w') : Lib.IsBuilder T e B b bs w' := by
  rcases h with h | h
  · exact .inl (builder_below h hb)
  · exact .inr (builder_below h hb)

set_option maxHeartbeats 2000000 in
theorem text_any (v : Value) (xs : List ByteArray) (w : World) (hv : IsStrs w v xs) (hn : xs.length ≤ 1000) (hl : (allOf xs).length ≤ 1000000) :
    Calls Try.prog 68 #[v] w fun e w' => e = .returned (.string ⟨(S.sumL (allOf xs)).toArray⟩) ∧ Below w.heap.size w w' := by
  obtain ⟨m, hm⟩ : ∃ m, m = allOf xs := ⟨_, rfl⟩
  have cJ := join_any v xs w hv hn hl
  rw [← hm] at hl cJ ⊢
  have CJ : Hid (Calls Try.prog 77 #[v, .string ⟨#[]⟩] w fun e w' => e = .returned (.string ⟨m.toArray⟩) ∧ Below w.heap.size w w') := cJ
  clear hm cJ hv
  have hps : (⟨(S.padL m).toArray⟩ : ByteArray).size = (S.padL m).length := by simp [ByteArray.size]
  obtain ⟨N, hN⟩ : ∃ N, (S.padL m).length = 64 * N := ⟨(S.padL m).length / 64, by have := S.padL_mod m; omega⟩
  have hNb : N ≤ 20000 := by have := S.padL_length m; have := S.noughts_le m.length; omega
  obtain ⟨p, hp⟩ : ∃ p : ByteArray, p = ⟨(S.padL m).toArray⟩ := ⟨_, rfl⟩
  have hpd : p.data.toList = S.padL m := by rw [hp]
  have hsz : p.size = 64 * N := by rw [hp, hps, hN]
  have hsum : S.sumL m = S.bytesOf (S.blocks (S.padL m) S.start N) := by
    show S.bytesOf (S.blocks (S.padL m) S.start ((S.padL m).length / 64)) = _
    rw [hN]; congr 1; congr 1; omega
  have HSM := Lib.hid hsum
  have HPD := Lib.hid hpd
  have HP := Lib.hid hp
  have HSZ := Lib.hid hsz
  have hi8 : ∀ l : List Nat, l.length = 8 → (Try.prog.info? 121).map (·.size) = some (u32s l).toArray.size := fun l hl => by rw [List.size_toArray, u32s_length, hl]; kernel_rfl
  have hi64 : (Try.prog.info? 123).map (·.size) = some (u32s S.keys).toArray.size := by kernel_rfl
  clear hps hN hpd hsum hp hsz
  go_enter Try.func68, Try.ntmps68
  go_wp2_with fail
  refine (Hid.out CJ).mono ?_
  rintro e w1 ⟨rfl, b1⟩
  clear CJ
  go_wp2_with fail
  refine (whole_any _ (by simp [ByteArray.size]; omega) _).mono ?_
  rintro e w2 ⟨rfl, b2⟩
  rw [show (⟨m.toArray⟩ : ByteArray).data.toList = m from by simp, ← HP.out]
  have b2' := b1.trans (b2.mono b1.size)
  clear b1 b2
  go_wp2_with fail
  refine (Start_any _).mono ?_
  rintro e w3 ⟨rfl, b3⟩
  have b3' := b2'.trans (b3.mono b2'.size)
  clear b2' b3
  go_wp2_with fail
  refine (Keys_any _).mono ?_
  rintro e w4 ⟨rfl, b4⟩
  have b4' := b3'.trans (b4.mono b3'.size)
  clear b3' b4
  have z4 := b4'.size
  go_wp2_with (first | refine wpList_store_row rfl 121 (.tmp 4) (.tmp 13) rfl w4.heap.size _ rfl rfl _ _ ((Row.new' (l := u32s (List.replicate 8 0)) rfl rfl).alloc _) (hi8 _ S.start_length) rfl (u32s_one _) ?_ | refine wpList_store_row rfl 123 (.tmp 5) (.tmp 14) rfl (w4.heap.size + 1) _ rfl rfl _ _ ((Row.new' (l := u32s (List.replicate 64 0)) rfl (by simp)).setRow_other (by omega) _) hi64 rfl (u32s_one _) ?_)
  obtain ⟨g, hg⟩ : ∃ g, g = w4.heap.size := ⟨_, rfl⟩
  have hgz : w.heap.size ≤ g := by rw [hg]; exact z4
  rw [← hg]
  have HG := Lib.hid hg
  clear hg
  go_loopw [6] (fun av wr => ∃ k : Nat, k ≤ N ∧ av = .int .i64 ((64 * k : Nat) : Int) ∧ Row wr g 121 (u32s (S.blocks (S.padL m) S.start k)) ∧ Row wr (g + 1) 123 (u32s S.keys) ∧ Below w.heap.size w wr) (fun av _ => 64 * N - (intOf av).toNat)
  case atStart =>
    refine ⟨0, Nat.zero_le _, rfl, ?_, ?_, ?_⟩
    · rw [HG.out]; exact (((Row.new' (l := u32s (List.replicate 8 0)) rfl rfl).alloc _).setRow (u32s S.start)).setRow_other (by omega) _
    · rw [HG.out]; exact ((Row.new' (l := u32s (List.replicate 64 0)) rfl (by simp)).setRow_other (by omega) _).setRow (u32s S.keys)
    · rw [HG.out]; exact below_row (below_row ((b4'.alloc z4 _).alloc (by simp; omega) _) z4 _) (by omega) _
  case round =>
    clear b4' z4
    obtain ⟨k, hk, rfl, r4, r5, hb⟩ := hrel
    clear HG
    have l8 : (S.blocks (S.padL m) S.start k).length = 8 := S.blocks_length S.start_length k
    have o8 : S.Ok (S.blocks (S.padL m) S.start k) := S.blocks_ok S.start_ok k
    by_cases hlt : k < N
    · have HBS : Hid (S.blocks (S.padL m) S.start (k + 1) = S.stepL (S.blocks (S.padL m) S.start k) (((S.padL m).drop (64 * k)).take 64)) := rfl
      have hbl : (((S.padL m).drop (64 * k)).take 64).length = 64 := by
        rw [List.length_take, List.length_drop, ← HPD.out, show p.data.toList.length = p.size from by simp, HSZ.out]; omega
      have cB := fun w => blockAt_any p (64 * k) (by rw [HSZ.out]; omega) (by rw [HSZ.out]; omega) w
      rw [HPD.out] at cB
      have cS := fun w => step_any S.keys (S.blocks (S.padL m) S.start k) (((S.padL m).drop (64 * k)).take 64) S.keys_length S.keys_ok l8 o8 hbl w
      generalize ((S.padL m).drop (64 * k)).take 64 = b at *
      obtain ⟨a0, a1, a2, a3, a4, a5, a6, a7, ha⟩ := eight (S.stepL_length (S.blocks (S.padL m) S.start k) b)
      have HB2 : Hid (S.blocks (S.padL m) S.start (k + 1) = [a0, a1, a2, a3, a4, a5, a6, a7]) := HBS.out.trans ha
      rw [stepK_keys, ha] at cS
      obtain ⟨h0, h1, h2, h3, h4, h5, h6, h7, hh⟩ := eight l8
      rw [hh] at cS r4
      clear HBS ha hh l8 o8 hbl
      have CS : Hid (∀ w, Calls Try.prog 80 #[.agg (row8 h0 h1 h2 h3 h4 h5 h6 h7).toArray, .agg (W.cellsOf b).toArray, .agg (u32s S.keys).toArray] w fun e w' => e = .returned (.agg (row8 a0 a1 a2 a3 a4 a5 a6 a7).toArray) ∧ Below w.heap.size w w') := cS
      obtain ⟨n, hn⟩ : ∃ n, n = 64 * k := ⟨_, rfl⟩
      rw [← hn] at cB ⊢
      have CB : Hid (∀ w, Calls Try.prog 81 #[.string p, .int .i64 (n : Int)] w fun e w' => e = .returned (.agg (W.cellsOf b).toArray) ∧ Below w.heap.size w w') := cB
      have hlt2 : (n : Int) < (p.size : Int) := by rw [HSZ.out]; omega
      have hnb : n ≤ 2000000 := by omega
      have HNK := Lib.hid hn
      clear cS cB hn
      rw [row8_of] at r4
      have hh8 : (Try.prog.info? 121).map (·.size) = some (row8 h0 h1 h2 h3 h4 h5 h6 h7).toArray.size := hi8 [h0, h1, h2, h3, h4, h5, h6, h7] rfl
      have ha8 : (Try.prog.info? 121).map (·.size) = some (row8 a0 a1 a2 a3 a4 a5 a6 a7).toArray.size := hi8 [a0, a1, a2, a3, a4, a5, a6, a7] rfl
      go_wp2
      refine wp_region_any (by kernel_rfl) ?_
      change wpAny _ _ _ _ _ _ _ (World.drew _)
      refine wpAny_take (i := 1) (v := .string p) rfl (by kernel_rfl) (by kernel_rfl) (by kernel_rfl) (fun _ _ _ h => h) (Or.inl ⟨by rfl, fun wx => by go_simp⟩) ?_
      refine wpAny_take (i := 2) (v := .int .i64 (n : Int)) rfl (by kernel_rfl) (by kernel_rfl) (by kernel_rfl) (fun _ _ _ h => h) (Or.inl ⟨by rfl, fun wx => by go_simp⟩) ?_
      refine wpAny_ready (rs := [0, 3, 4]) (by kernel_rfl) (by simp) ?_
      refine AllReady.cons rfl (fun K hK => ?_) ?_
      · refine step_load_row rfl 121 (.tmp 4) rfl g rfl _ _ _ (show Row _ _ _ _ from r4) Try.underlying121 rfl hh8 ?_
        refine hK _ _ ?_
        clear hK K
        refine wpAny_ready (rs := [3, 4]) (by kernel_rfl) (by simp) ?_
        refine AllReady.cons rfl (fun K hK => ?_) ?_
        · go_simp
          refine (CB.out _).mono ?_
          rintro e w1 ⟨rfl, b1⟩
          have p4 := Row.under b1 r4.lt (show Row _ g _ _ from r4)
          have p5 := Row.under b1 r5.lt (show Row _ (g + 1) _ _ from r5)
          have hb1 : Below w.heap.size w w1 := (hb.drew).trans (b1.mono hb.size)
          clear b1
          show K _ _
          refine hK _ _ ?_
          clear hK K
          refine wpAny_ready (rs := [4]) (by kernel_rfl) (by simp) ?_
          refine AllReady.cons rfl (fun K hK => ?_) ?_
          · refine step_load_row rfl 123 (.tmp 5) rfl (g + 1) rfl _ _ _ p5 Try.underlying123 rfl hi64 ?_
            refine hK _ _ ?_
            clear hK K
            refine wpAny_ready (rs := [5]) (by kernel_rfl) (by simp) ?_
            refine AllReady.cons rfl (fun K hK => ?_) ?_
            · go_simp
              refine (CS.out _).mono ?_
              rintro e w3 ⟨rfl, b3⟩
              have u4 := Row.under b3 p4.lt p4
              have u5 := Row.under b3 p5.lt p5
              have hb3 : Below w.heap.size w w3 := hb1.trans (b3.mono hb1.size)
              clear b3
              show K _ _
              refine hK _ _ ?_
              clear hK K
              refine wpAny_ready (rs := [6]) (by kernel_rfl) (by simp) ?_
              refine AllReady.cons rfl (fun K hK => ?_) ?_
              · refine step_store_row rfl 121 (.tmp 4) (.tmp 26) rfl g (row8 a0 a1 a2 a3 a4 a5 a6 a7) rfl rfl _ _ u4 ha8 rfl (u32s_one [a0, a1, a2, a3, a4, a5, a6, a7]) ?_
                refine hK _ _ ?_
                clear hK K
                refine wpAny_done (by kernel_rfl) ?_ _
                have e4 := u4.setRow (row8 a0 a1 a2 a3 a4 a5 a6 a7)
                have e5 := u5.setRow_other (k := g) (by omega) (row8 a0 a1 a2 a3 a4 a5 a6 a7).toArray
                have eb := below_row hb3 hgz (row8 a0 a1 a2 a3 a4 a5 a6 a7).toArray
                clear u4 u5 hb3 p4 p5 hb1 r4 r5 hb
                go_wp2
                go_roundw
                case rel => exact ⟨k + 1, by omega, by rw [HNK.out]; go_num, by rw [HB2.out]; exact e4, e5, eb⟩
                case measure => have := HNK.out; simp [intOf]; omega
              exact AllReady.nil
            exact AllReady.nil
          exact AllReady.nil
        refine AllReady.cons rfl (fun K hK => ?_) ?_
        · refine step_load_row rfl 123 (.tmp 5) rfl (g + 1) rfl _ _ _ (show Row _ _ _ _ from r5) Try.underlying123 rfl hi64 ?_
          refine hK _ _ ?_
          clear hK K
          refine wpAny_ready (rs := [3]) (by kernel_rfl) (by simp) ?_
          refine AllReady.cons rfl (fun K hK => ?_) ?_
          · go_simp
            refine (CB.out _).mono ?_
            rintro e w1 ⟨rfl, b1⟩
            have p4 := Row.under b1 r4.lt (show Row _ g _ _ from r4)
            have p5 := Row.under b1 r5.lt (show Row _ (g + 1) _ _ from r5)
            have hb1 : Below w.heap.size w w1 := (hb.drew).trans (b1.mono hb.size)
            clear b1
            show K _ _
            refine hK _ _ ?_
            clear hK K
            refine wpAny_ready (rs := [5]) (by kernel_rfl) (by simp) ?_
            refine AllReady.cons rfl (fun K hK => ?_) ?_
            · go_simp
              refine (CS.out _).mono ?_
              rintro e w3 ⟨rfl, b3⟩
              have u4 := Row.under b3 p4.lt p4
              have u5 := Row.under b3 p5.lt p5
              have hb3 : Below w.heap.size w w3 := hb1.trans (b3.mono hb1.size)
              clear b3
              show K _ _
              refine hK _ _ ?_
              clear hK K
              refine wpAny_ready (rs := [6]) (by kernel_rfl) (by simp) ?_
              refine AllReady.cons rfl (fun K hK => ?_) ?_
              · refine step_store_row rfl 121 (.tmp 4) (.tmp 26) rfl g (row8 a0 a1 a2 a3 a4 a5 a6 a7) rfl rfl _ _ u4 ha8 rfl (u32s_one [a0, a1, a2, a3, a4, a5, a6, a7]) ?_
                refine hK _ _ ?_
                clear hK K
                refine wpAny_done (by kernel_rfl) ?_ _
                have e4 := u4.setRow (row8 a0 a1 a2 a3 a4 a5 a6 a7)
                have e5 := u5.setRow_other (k := g) (by omega) (row8 a0 a1 a2 a3 a4 a5 a6 a7).toArray
                have eb := below_row hb3 hgz (row8 a0 a1 a2 a3 a4 a5 a6 a7).toArray
                clear u4 u5 hb3 p4 p5 hb1 r4 r5 hb
                go_wp2
                go_roundw
                case rel => exact ⟨k + 1, by omega, by rw [HNK.out]; go_num, by rw [HB2.out]; exact e4, e5, eb⟩
                case measure => have := HNK.out; simp [intOf]; omega
              exact AllReady.nil
            exact AllReady.nil
          exact AllReady.nil
        exact AllReady.nil
      refine AllReady.cons rfl (fun K hK => ?_) ?_
      · go_simp
        refine (CB.out _).mono ?_
        rintro e w1 ⟨rfl, b1⟩
        have p4 := Row.under b1 r4.lt (show Row _ g _ _ from r4)
        have p5 := Row.under b1 r5.lt (show Row _ (g + 1) _ _ from r5)
        have hb1 : Below w.heap.size w w1 := (hb.drew).trans (b1.mono hb.size)
        clear b1
        show K _ _
        refine hK _ _ ?_
        clear hK K
        refine wpAny_ready (rs := [0, 4]) (by kernel_rfl) (by simp) ?_
        refine AllReady.cons rfl (fun K hK => ?_) ?_
        · refine step_load_row rfl 121 (.tmp 4) rfl g rfl _ _ _ p4 Try.underlying121 rfl hh8 ?_
          refine hK _ _ ?_
          clear hK K
          refine wpAny_ready (rs := [4]) (by kernel_rfl) (by simp) ?_
          refine AllReady.cons rfl (fun K hK => ?_) ?_
          · refine step_load_row rfl 123 (.tmp 5) rfl (g + 1) rfl _ _ _ p5 Try.underlying123 rfl hi64 ?_
            refine hK _ _ ?_
            clear hK K
            refine wpAny_ready (rs := [5]) (by kernel_rfl) (by simp) ?_
            refine AllReady.cons rfl (fun K hK => ?_) ?_
            · go_simp
              refine (CS.out _).mono ?_
              rintro e w3 ⟨rfl, b3⟩
              have u4 := Row.under b3 p4.lt p4
              have u5 := Row.under b3 p5.lt p5
              have hb3 : Below w.heap.size w w3 := hb1.trans (b3.mono hb1.size)
              clear b3
              show K _ _
              refine hK _ _ ?_
              clear hK K
              refine wpAny_ready (rs := [6]) (by kernel_rfl) (by simp) ?_
              refine AllReady.cons rfl (fun K hK => ?_) ?_
              · refine step_store_row rfl 121 (.tmp 4) (.tmp 26) rfl g (row8 a0 a1 a2 a3 a4 a5 a6 a7) rfl rfl _ _ u4 ha8 rfl (u32s_one [a0, a1, a2, a3, a4, a5, a6, a7]) ?_
                refine hK _ _ ?_
                clear hK K
                refine wpAny_done (by kernel_rfl) ?_ _
                have e4 := u4.setRow (row8 a0 a1 a2 a3 a4 a5 a6 a7)
                have e5 := u5.setRow_other (k := g) (by omega) (row8 a0 a1 a2 a3 a4 a5 a6 a7).toArray
                have eb := below_row hb3 hgz (row8 a0 a1 a2 a3 a4 a5 a6 a7).toArray
                clear u4 u5 hb3 p4 p5 hb1 r4 r5 hb
                go_wp2
                go_roundw
                case rel => exact ⟨k + 1, by omega, by rw [HNK.out]; go_num, by rw [HB2.out]; exact e4, e5, eb⟩
                case measure => have := HNK.out; simp [intOf]; omega
              exact AllReady.nil
            exact AllReady.nil
          exact AllReady.nil
        refine AllReady.cons rfl (fun K hK => ?_) ?_
        · refine step_load_row rfl 123 (.tmp 5) rfl (g + 1) rfl _ _ _ p5 Try.underlying123 rfl hi64 ?_
          refine hK _ _ ?_
          clear hK K
          refine wpAny_ready (rs := [0]) (by kernel_rfl) (by simp) ?_
          refine AllReady.cons rfl (fun K hK => ?_) ?_
          · refine step_load_row rfl 121 (.tmp 4) rfl g rfl _ _ _ p4 Try.underlying121 rfl hh8 ?_
            refine hK _ _ ?_
            clear hK K
            refine wpAny_ready (rs := [5]) (by kernel_rfl) (by simp) ?_
            refine AllReady.cons rfl (fun K hK => ?_) ?_
            · go_simp
              refine (CS.out _).mono ?_
              rintro e w3 ⟨rfl, b3⟩
              have u4 := Row.under b3 p4.lt p4
              have u5 := Row.under b3 p5.lt p5
              have hb3 : Below w.heap.size w w3 := hb1.trans (b3.mono hb1.size)
              clear b3
              show K _ _
              refine hK _ _ ?_
              clear hK K
              refine wpAny_ready (rs := [6]) (by kernel_rfl) (by simp) ?_
              refine AllReady.cons rfl (fun K hK => ?_) ?_
              · refine step_store_row rfl 121 (.tmp 4) (.tmp 26) rfl g (row8 a0 a1 a2 a3 a4 a5 a6 a7) rfl rfl _ _ u4 ha8 rfl (u32s_one [a0, a1, a2, a3, a4, a5, a6, a7]) ?_
                refine hK _ _ ?_
                clear hK K
                refine wpAny_done (by kernel_rfl) ?_ _
                have e4 := u4.setRow (row8 a0 a1 a2 a3 a4 a5 a6 a7)
                have e5 := u5.setRow_other (k := g) (by omega) (row8 a0 a1 a2 a3 a4 a5 a6 a7).toArray
                have eb := below_row hb3 hgz (row8 a0 a1 a2 a3 a4 a5 a6 a7).toArray
                clear u4 u5 hb3 p4 p5 hb1 r4 r5 hb
                go_wp2
                go_roundw
                case rel => exact ⟨k + 1, by omega, by rw [HNK.out]; go_num, by rw [HB2.out]; exact e4, e5, eb⟩
                case measure => have := HNK.out; simp [intOf]; omega
              exact AllReady.nil
            exact AllReady.nil
          exact AllReady.nil
        exact AllReady.nil
      refine AllReady.cons rfl (fun K hK => ?_) ?_
      · refine step_load_row rfl 123 (.tmp 5) rfl (g + 1) rfl _ _ _ (show Row _ _ _ _ from r5) Try.underlying123 rfl hi64 ?_
        refine hK _ _ ?_
        clear hK K
        refine wpAny_ready (rs := [0, 3]) (by kernel_rfl) (by simp) ?_
        refine AllReady.cons rfl (fun K hK => ?_) ?_
        · refine step_load_row rfl 121 (.tmp 4) rfl g rfl _ _ _ (show Row _ _ _ _ from r4) Try.underlying121 rfl hh8 ?_
          refine hK _ _ ?_
          clear hK K
          refine wpAny_ready (rs := [3]) (by kernel_rfl) (by simp) ?_
          refine AllReady.cons rfl (fun K hK => ?_) ?_
          · go_simp
            refine (CB.out _).mono ?_
            rintro e w1 ⟨rfl, b1⟩
            have p4 := Row.under b1 r4.lt (show Row _ g _ _ from r4)
            have p5 := Row.under b1 r5.lt (show Row _ (g + 1) _ _ from r5)
            have hb1 : Below w.heap.size w w1 := (hb.drew).trans (b1.mono hb.size)
            clear b1
            show K _ _
            refine hK _ _ ?_
            clear hK K
            refine wpAny_ready (rs := [5]) (by kernel_rfl) (by simp) ?_
            refine AllReady.cons rfl (fun K hK => ?_) ?_
            · go_simp
              refine (CS.out _).mono ?_
              rintro e w3 ⟨rfl, b3⟩
              have u4 := Row.under b3 p4.lt p4
              have u5 := Row.under b3 p5.lt p5
              have hb3 : Below w.heap.size w w3 := hb1.trans (b3.mono hb1.size)
              clear b3
              show K _ _
              refine hK _ _ ?_
              clear hK K
              refine wpAny_ready (rs := [6]) (by kernel_rfl) (by simp) ?_
              refine AllReady.cons rfl (fun K hK => ?_) ?_
              · refine step_store_row rfl 121 (.tmp 4) (.tmp 26) rfl g (row8 a0 a1 a2 a3 a4 a5 a6 a7) rfl rfl _ _ u4 ha8 rfl (u32s_one [a0, a1, a2, a3, a4, a5, a6, a7]) ?_
                refine hK _ _ ?_
                clear hK K
                refine wpAny_done (by kernel_rfl) ?_ _
                have e4 := u4.setRow (row8 a0 a1 a2 a3 a4 a5 a6 a7)
                have e5 := u5.setRow_other (k := g) (by omega) (row8 a0 a1 a2 a3 a4 a5 a6 a7).toArray
                have eb := below_row hb3 hgz (row8 a0 a1 a2 a3 a4 a5 a6 a7).toArray
                clear u4 u5 hb3 p4 p5 hb1 r4 r5 hb
                go_wp2
                go_roundw
                case rel => exact ⟨k + 1, by omega, by rw [HNK.out]; go_num, by rw [HB2.out]; exact e4, e5, eb⟩
                case measure => have := HNK.out; simp [intOf]; omega
              exact AllReady.nil
            exact AllReady.nil
          exact AllReady.nil
        refine AllReady.cons rfl (fun K hK => ?_) ?_
        · go_simp
          refine (CB.out _).mono ?_
          rintro e w1 ⟨rfl, b1⟩
          have p4 := Row.under b1 r4.lt (show Row _ g _ _ from r4)
          have p5 := Row.under b1 r5.lt (show Row _ (g + 1) _ _ from r5)
          have hb1 : Below w.heap.size w w1 := (hb.drew).trans (b1.mono hb.size)
          clear b1
          show K _ _
          refine hK _ _ ?_
          clear hK K
          refine wpAny_ready (rs := [0]) (by kernel_rfl) (by simp) ?_
          refine AllReady.cons rfl (fun K hK => ?_) ?_
          · refine step_load_row rfl 121 (.tmp 4) rfl g rfl _ _ _ p4 Try.underlying121 rfl hh8 ?_
            refine hK _ _ ?_
            clear hK K
            refine wpAny_ready (rs := [5]) (by kernel_rfl) (by simp) ?_
            refine AllReady.cons rfl (fun K hK => ?_) ?_
            · go_simp
              refine (CS.out _).mono ?_
              rintro e w3 ⟨rfl, b3⟩
              have u4 := Row.under b3 p4.lt p4
              have u5 := Row.under b3 p5.lt p5
              have hb3 : Below w.heap.size w w3 := hb1.trans (b3.mono hb1.size)
              clear b3
              show K _ _
              refine hK _ _ ?_
              clear hK K
              refine wpAny_ready (rs := [6]) (by kernel_rfl) (by simp) ?_
              refine AllReady.cons rfl (fun K hK => ?_) ?_
              · refine step_store_row rfl 121 (.tmp 4) (.tmp 26) rfl g (row8 a0 a1 a2 a3 a4 a5 a6 a7) rfl rfl _ _ u4 ha8 rfl (u32s_one [a0, a1, a2, a3, a4, a5, a6, a7]) ?_
                refine hK _ _ ?_
                clear hK K
                refine wpAny_done (by kernel_rfl) ?_ _
                have e4 := u4.setRow (row8 a0 a1 a2 a3 a4 a5 a6 a7)
                have e5 := u5.setRow_other (k := g) (by omega) (row8 a0 a1 a2 a3 a4 a5 a6 a7).toArray
                have eb := below_row hb3 hgz (row8 a0 a1 a2 a3 a4 a5 a6 a7).toArray
                clear u4 u5 hb3 p4 p5 hb1 r4 r5 hb
                go_wp2
                go_roundw
                case rel => exact ⟨k + 1, by omega, by rw [HNK.out]; go_num, by rw [HB2.out]; exact e4, e5, eb⟩
                case measure => have := HNK.out; simp [intOf]; omega
              exact AllReady.nil
            exact AllReady.nil
          exact AllReady.nil
        exact AllReady.nil
      exact AllReady.nil
    · obtain rfl : k = N := by omega
      have hge : ¬ ((64 * k : Nat) : Int) < (p.size : Int) := by rw [HSZ.out]; omega
      generalize hh : S.blocks (S.padL m) S.start k = h at *
      have l8' := Lib.hid l8
      clear hh l8
      obtain ⟨B, hB⟩ : ∃ B, B = wr.heap.size := ⟨_, rfl⟩
      have hBz : w.heap.size ≤ B := by rw [hB]; exact hb.size
      go_wp2_with (refine wpList_load_row rfl 121 (.tmp 4) rfl g rfl _ _ _ _ (r4.alloc _) Try.underlying121 rfl (hi8 _ l8'.out) ?_)
      have hI : Lib.IsBuilder 80 5 B B (Lib.byteCells (S.bytesOf (h.take 0))) (wr.alloc (.cells #[.pointer none, .slice none 0 0] 80 (0, 0))) :=
        .inl ⟨Nat.le_refl _, _, by rw [hB]; show (wr.heap.push _)[wr.heap.size]? = _; simp, World.ownsRow_nil _ _ _ _, by simp [Value.ownBlock]⟩
      have hbA : Below w.heap.size w (wr.alloc (.cells #[.pointer none, .slice none 0 0] 80 (0, 0))) := hb.alloc hb.size _
      rw [← hB]
      have HBB := Lib.hid hB
      clear r4 r5 hb hB
      go_loopw [28] (fun iv wx => ∃ j : Nat, j ≤ 8 ∧ iv = .int .i64 j ∧ Lib.IsBuilder 80 5 B B (Lib.byteCells (S.bytesOf (h.take j))) wx ∧ Below w.heap.size w wx) (fun iv _ => 8 - (intOf iv).toNat)
      case atStart => rw [HBB.out] at hI ⊢; exact ⟨0, Nat.zero_le _, rfl, hI, hbA⟩
      case round =>
        clear hI hbA
        obtain ⟨j, hj, rfl, hI, hbl⟩ := hrel
        have hz : B < wr.heap.size := isBuilder_lt hI
        have hln : (Lib.byteCells (S.bytesOf (h.take j))).length = 4 * j := by rw [byteCells_length, S.bytesOf_length, List.length_take, l8'.out]; omega
        have HLN := Lib.hid hln
        clear hln
        by_cases hlt : j < 8
        · have hix := index_row l8'.out j hlt
          have hx := o8.getD j
          have HT := Lib.hid (bytesOf_take h j (by rw [l8'.out]; exact hlt))
          generalize h.getD j 0 = x at hix hx HT
          go_wp2_with fail
          refine (put_any (x : Int) 4 (by omega) (by omega) _).mono ?_
          rintro e w5 ⟨rfl, b5⟩
          rw [Int.toNat_natCast, show W.clamp 4 = 4 from by decide]
          have hI5 := isBuilder_below hI b5
          have hb5 := hbl.trans (b5.mono hbl.size)
          have z5 := b5.size
          clear hI hbl b5
          go_wp2_with fail
          refine (writeString_any B B _ _ _ hI5 ?hl1 (by omega)).mono ?_
          case hl1 => rw [HLN.out]; show _ + (W.putL x 4).toArray.size ≤ _; rw [List.size_toArray, W.putL_length]; omega
          rintro e w6 ⟨rfl, h6, b6⟩
          have hb6 := hb5.trans (b6.mono hBz)
          have h6' : Lib.IsBuilder 80 5 B B (Lib.byteCells (S.bytesOf (h.take (j + 1)))) w6 := by
            rw [HT.out, byteCells_append]; exact .inr h6
          clear hI5 hb5 h6 b6
          go_wp2
          go_roundw
          case rel => exact ⟨j + 1, by omega, by go_num, h6', hb6⟩
          case measure => simp [intOf]; omega
        · obtain rfl : j = 8 := by omega
          have HE : Hid (S.bytesOf (h.take 8) = S.sumL m) := by rw [List.take_of_length_le (by rw [l8'.out]; exact Nat.le_refl _)]; exact HSM.out.symm
          rw [HE.out] at hI
          go_wp2_with fail
          refine (Try.Builder_String_any B B _ _ hI (by omega)).mono ?_
          rintro e w5 ⟨rfl, b5⟩
          have hb5 := hbl.trans (b5.mono hBz)
          clear hI hbl b5
          go_wp2
          go_ret
          exact ⟨rfl, hb5⟩

end Go.Proofs.Ytbkeodgiflfakaa

/-
  Layer 3: sha.Sum; the chapter's example.
-/
namespace Go.Proofs.Ytbkeodgiflfakaa
open Go.RowKit
set_option linter.unusedVariables false
set_option maxRecDepth 20000

theorem IsStrs.grown {w w' : World} {v : Value} {xs : List ByteArray} (h : IsStrs w v xs) (hs : w.heap.size ≤ w'.heap.size) (hc : ∀ b, b < w.heap.size → w'.heap[b]? = w.heap[b]?) : IsStrs w' v xs := by
  rcases h with h | ⟨bk, o, c, h1, h2, h3, h4⟩
  · exact .inl h
  · refine .inr ⟨bk, o, c, h1, h2, by omega, fun j x hj => ?_⟩
    have := h4 j x hj
    unfold World.cell? at this ⊢
    simp only [hc bk h3] at this ⊢
    exact this

end Go.Proofs.Ytbkeodgiflfakaa

/-
  Layer 3: the chapter's example holds.
-/
namespace Go.Proofs.Ytbkeodgiflfakaa
open Go.RowKit
set_option linter.unusedVariables false
set_option maxRecDepth 20000

theorem isStrs_new (w : World) (t : TypeId) (xs : List ByteArray) (A : Array Value) (hA : A = (xs.map Value.string).toArray) (n : Nat) (hn : n = xs.length) : IsStrs (w.alloc (.cells A t (0, 0))) (.slice (some ⟨w.heap.size, 0, none⟩) n n) xs := by
  subst hA
  subst hn
  refine .inr ⟨w.heap.size, 0, _, rfl, Nat.le_refl _, by simp, fun j x hj => ?_⟩
  have r := Row.new w t (xs.map Value.string)
  rw [Nat.zero_add, r.cell]
  simp [hj]

theorem abc_is : Lib.hasPrefix (S.sumL (allOf [⟨#[97]⟩, ⟨#[98, 99]⟩])) [186, 120, 22, 191] = true := by decide +kernel

theorem awakeX_any (w : World) : Calls Try.prog 26 #[] w fun e w' => e = .returned (.bool true) ∧ Below w.heap.size w w' := by
  go_enter Try.func26, Try.ntmps26
  go_wp2_with fail
  refine (awake_any _).mono ?_
  rintro e w1 ⟨rfl, b1⟩
  go_wp2
  go_ret
  exact ⟨rfl, b1⟩

theorem sum_size (l : List UInt8) : (⟨(S.sumL l).toArray⟩ : ByteArray).size = 32 := by simp [ByteArray.size, S.sumL_length]

set_option maxHeartbeats 1000000 in
theorem awake3_any (w : World) : Calls Try.prog 99 #[] w fun e w' => e = .returned (.bool true) ∧ Below w.heap.size w w' := by
  go_enter Try.func99, Try.ntmps99
  go_wp2_with fail
  refine (awakeX_any _).mono ?_
  rintro e w1 ⟨rfl, b1⟩
  go_wp2_with fail
  refine (text_any _ [⟨#[97]⟩, ⟨#[98, 99]⟩] _ (isStrs_new _ _ _ _ rfl 2 rfl) (by decide) (by decide)).mono ?_
  rintro e w2 ⟨rfl, b2⟩
  have b2' := (b1.alloc b1.size _).trans (b2.mono (by have := b1.size; simp; omega))
  clear b1 b2
  go_wp2_with fail
  refine (Try.strings_HasPrefix _ _ _).mono ?_
  rintro e w3 ⟨rfl, rfl⟩
  rw [abc_is]
  go_wp2_with fail
  refine (text_any _ [] _ (.inl ⟨rfl, rfl⟩) (by decide) (by decide)).mono ?_
  rintro e w4 ⟨rfl, b4⟩
  have b4' := b2'.trans (b4.mono b2'.size)
  have hz := sum_size (allOf [])
  generalize (⟨(S.sumL (allOf [])).toArray⟩ : ByteArray) = t at hz
  clear b2' b4
  go_wp2
  go_ret
  exact ⟨rfl, b4'⟩

theorem awake3X_any (w : World) : Calls Try.prog 82 #[] w fun e w' => e = .returned (.bool true) ∧ Below w.heap.size w w' := by
  go_enter Try.func82, Try.ntmps82
  go_wp2_with fail
  refine (awake3_any _).mono ?_
  rintro e w1 ⟨rfl, b1⟩
  go_wp2
  go_ret
  exact ⟨rfl, b1⟩

end Go.Proofs.Ytbkeodgiflfakaa

/-
  Layer 4: a key's block; one byte laid over each of its bytes.
-/
namespace Go.Proofs.Ytbkeodgiflfakaa
open Go.RowKit
set_option linter.unusedVariables false
set_option maxRecDepth 20000

/-- copy(dst, s), in a region in the text's order. -/
theorem wpList_copy_text {P : Program} {w : World} {ops : Array Oper} {rest : List Oper} {o : Oper} {a : Act} {Q : Exit → Act → World → Prop} (hgd : o.guard = none) (d x : Operand) (dT sT : TypeId)
    (ho : o.op = .call { callee := .builtin .copy, args := #[d, x], argTypes := #[dT, sT] }) (elem : TypeId) (hu : P.underlying dT = some (.slice elem)) (hs : (P.info? elem).map (·.size) = some 1)
    (g off dLen dCap k : Nat) (hd : a.eval d = .slice (some ⟨g, off, none⟩) dLen dCap) (s : ByteArray) (hx : a.eval x = .string s) (cur : List Value) (t : TypeId) (hg : Row w g t cur) (hk : Nat.min s.size dLen = k) (hfit : off + k ≤ cur.length)
    (h : ∀ w', Hid (Row w' g t (splice cur off (W.cellsOf (s.data.toList.take k)))) → Below g w w' → wpList P ops Q rest (a.put o.dst (goInt k)) w') : wpList P ops Q (o :: rest) a w := by
  refine wpList_plain hgd fun K hK => ?_
  have hrun := run_copy_text (P := P) w dT sT o.type elem g off dLen dCap k s cur t hu hs hg hk hfit
  unfold Oper.wp
  simp [execOp, ho, resolve, invoke, builtin, hd, hx, hrun, Result.andThen]
  exact hK _ _ (h _ (hg.setRow _) (below_row (Below.refl _ _) (Nat.le_refl _) _))

theorem splice_key (k : List UInt8) (h : k.length ≤ 64) : splice (W.cellsOf (List.replicate 64 0)) 0 (W.cellsOf k) = W.cellsOf (k ++ List.replicate (64 - k.length) 0) := by
  have e : W.cellsOf (List.replicate 64 0) = List.replicate 64 (Value.int .u8 0) := rfl
  have e2 : ∀ n, W.cellsOf (List.replicate n 0) = List.replicate n (Value.int .u8 0) := fun n => by unfold W.cellsOf; rw [List.map_replicate]; rfl
  have e3 : W.cellsOf (k ++ List.replicate (64 - k.length) 0) = W.cellsOf k ++ W.cellsOf (List.replicate (64 - k.length) 0) := by unfold W.cellsOf; rw [List.map_append]
  rw [e3, e2, e2]
  unfold splice
  rw [List.take_zero, List.nil_append, Nat.zero_add, List.drop_replicate, cellsOf_len]

theorem isStrs_at (w : World) (t : TypeId) (xs : List ByteArray) (A : Array Value) (hA : A = (xs.map Value.string).toArray) (n : Nat) (hn : n = xs.length) (g : Nat) (hg : g = w.heap.size) : IsStrs (w.alloc (.cells A t (0, 0))) (.slice (some ⟨g, 0, none⟩) n n) xs := by
  subst hg; exact isStrs_new w t xs A hA n hn

set_option maxHeartbeats 1000000 in
/-- The block of a key of at most 64 bytes. -/
theorem keyBlock_short (key : ByteArray) (hk : key.size ≤ 64) (w : World) :
    Calls Try.prog 66 #[.string key] w fun e w' => e = .returned (.agg (W.cellsOf (H.keyL key.data.toList)).toArray) ∧ Below w.heap.size w w' := by
  have hlen : key.data.toList.length = key.size := by simp
  have hK : H.keyL key.data.toList = key.data.toList ++ List.replicate (64 - key.data.toList.length) 0 := by
    unfold H.keyL H.short; rw [if_neg (by omega)]
  have hi : (Try.prog.info? 110).map (·.size) = some (W.cellsOf (H.keyL key.data.toList)).toArray.size := by rw [List.size_toArray, cellsOf_len, H.keyL_length]; kernel_rfl
  have HM : Hid (Nat.min key.size 64 = key.size) := Nat.min_eq_left hk
  have HE : Hid (key.data.toList.take key.size = key.data.toList) := List.take_of_length_le (by omega)
  have HK := Lib.hid hK
  have HLN := Lib.hid hlen
  clear hK hlen
  go_enter Try.func66, Try.ntmps66
  go_wp2_with (refine wpList_copy_text rfl (.tmp 10) (.tmp 11) 78 9 rfl 5 Try.underlying78 (by kernel_rfl) (w.heap.size + 1) 0 64 64 key.size rfl key rfl _ _ (Row.new' (l := W.cellsOf (List.replicate 64 0)) rfl (by simp)) HM.out ?hf ?_)
  case hf => rw [cellsOf_len, List.length_replicate]; omega
  intro w1 h1 b1
  have r1 : Row w1 (w.heap.size + 1) 110 (W.cellsOf (H.keyL key.data.toList)) := by
    have := h1.out
    rw [HE.out] at this
    have e := splice_key key.data.toList (by rw [HLN.out]; exact hk)
    rw [← HK.out] at e
    exact (congrArg (Row w1 (w.heap.size + 1) 110) e).mp this
  have r0 : Row w1 w.heap.size 110 (W.cellsOf (List.replicate 64 0)) := ((Row.new' rfl rfl).alloc _).below b1 (by omega)
  have b2 : Below w.heap.size w w1 := ((((Below.refl _ _).alloc (Nat.le_refl _) _).alloc (by simp) _)).trans (b1.mono (by omega))
  clear h1 b1
  go_wp2_with (first | refine wpList_load_row rfl 110 _ rfl (w.heap.size + 1) rfl _ _ _ _ r1 Try.underlying110 rfl hi ?_ | refine wpList_store_row rfl 110 (.tmp 2) (.tmp 13) rfl w.heap.size _ rfl rfl _ _ r0 hi (by simp [cellsOf_len, H.keyL_length]) (cellsOf_all _) ?_)
  exact bodyPost_ret (results_cell_row rfl _ _ w.heap.size _ _ _ _ rfl (r0.setRow (W.cellsOf (H.keyL key.data.toList))) Try.underlying110 rfl hi) rfl ⟨rfl, below_row b2 (Nat.le_refl _) _⟩

set_option maxHeartbeats 1000000 in
/-- The block of a longer key. -/
theorem keyBlock_long (key : ByteArray) (hk : 64 < key.size) (hm : key.size ≤ 1000000) (w : World) :
    Calls Try.prog 66 #[.string key] w fun e w' => e = .returned (.agg (W.cellsOf (H.keyL key.data.toList)).toArray) ∧ Below w.heap.size w w' := by
  have hlen : key.data.toList.length = key.size := by simp
  have hK : H.keyL key.data.toList = S.sumL key.data.toList ++ List.replicate (64 - (S.sumL key.data.toList).length) 0 := by
    unfold H.keyL H.short; rw [if_pos (by omega)]
  have hi : (Try.prog.info? 110).map (·.size) = some (W.cellsOf (H.keyL key.data.toList)).toArray.size := by rw [List.size_toArray, cellsOf_len, H.keyL_length]; kernel_rfl
  have HK := Lib.hid hK
  clear hK
  go_enter Try.func66, Try.ntmps66
  go_wp2_with fail
  refine (text_any _ [key] _ (isStrs_at _ _ [key] _ rfl 1 rfl _ (by simp)) (by simp) (by rw [show allOf [key] = key.data.toList from by simp [allOf]]; omega)).mono ?_
  rintro e w1 ⟨rfl, b1⟩
  have hall : allOf [key] = key.data.toList := by simp [allOf]
  rw [hall]
  have r0 : Row w1 w.heap.size 110 (W.cellsOf (List.replicate 64 0)) := ((Row.new' rfl rfl).alloc _).below b1 (by simp; omega)
  have b1' : Below w.heap.size w w1 := (((Below.refl _ _).alloc (Nat.le_refl _) _).alloc (by simp) _).trans (b1.mono (by simp; omega))
  have z1 := r0.lt
  obtain ⟨t, ht⟩ : ∃ t : ByteArray, t = ⟨(S.sumL key.data.toList).toArray⟩ := ⟨_, rfl⟩
  have hts : t.size = 32 := by rw [ht]; exact sum_size _
  have htd : t.data.toList = S.sumL key.data.toList := by rw [ht]
  rw [← ht]
  have HM : Hid (Nat.min t.size 64 = 32) := by show Nat.min t.size 64 = 32; rw [hts]; rfl
  have HE : Hid (t.data.toList.take 32 = S.sumL key.data.toList) := by show List.take 32 _ = _; rw [htd, List.take_of_length_le (by rw [S.sumL_length]; exact Nat.le_refl _)]
  clear ht hts htd b1 hall
  go_wp2_with (refine wpList_copy_text rfl (.tmp 10) (.tmp 11) 78 9 rfl 5 Try.underlying78 (by kernel_rfl) w1.heap.size 0 64 64 32 rfl t rfl _ _ (Row.new' (l := W.cellsOf (List.replicate 64 0)) rfl rfl) HM.out (by simp [cellsOf_len]) ?_)
  intro w2 h2 b2
  have r1 : Row w2 w1.heap.size 110 (W.cellsOf (H.keyL key.data.toList)) := by
    have := h2.out
    rw [HE.out] at this
    have e := splice_key (S.sumL key.data.toList) (by rw [S.sumL_length]; decide)
    rw [← HK.out] at e
    exact (congrArg (Row w2 w1.heap.size 110) e).mp this
  have r0' : Row w2 w.heap.size 110 (W.cellsOf (List.replicate 64 0)) := (r0.alloc _).below b2 z1
  have b3 : Below w.heap.size w w2 := (b1'.alloc b1'.size _).trans (b2.mono b1'.size)
  clear h2 b2 r0 b1'
  obtain ⟨g, hg⟩ : ∃ g, g = w1.heap.size := ⟨_, rfl⟩
  rw [← hg] at r1 ⊢
  clear hg
  go_wp2_with (first | refine wpList_load_row rfl 110 _ rfl g rfl _ _ _ _ r1 Try.underlying110 rfl hi ?_ | refine wpList_store_row rfl 110 (.tmp 2) (.tmp 13) rfl w.heap.size _ rfl rfl _ _ r0' hi (by simp [cellsOf_len, H.keyL_length]) (cellsOf_all _) ?_)
  exact bodyPost_ret (results_cell_row rfl _ _ w.heap.size _ _ _ _ rfl (r0'.setRow (W.cellsOf (H.keyL key.data.toList))) Try.underlying110 rfl hi) rfl ⟨rfl, below_row b3 (Nat.le_refl _) _⟩

theorem keyBlock_any (key : ByteArray) (hm : key.size ≤ 1000000) (w : World) :
    Calls Try.prog 66 #[.string key] w fun e w' => e = .returned (.agg (W.cellsOf (H.keyL key.data.toList)).toArray) ∧ Below w.heap.size w w' := by
  by_cases hk : key.size ≤ 64
  · exact keyBlock_short key hk w
  · exact keyBlock_long key (by omega) hm w

/-- What lies in the row behind k bytes. -/
def overRow (b : List UInt8) (p : UInt8) (k : Nat) : List UInt8 := H.over (b.take k) p ++ b.drop k
theorem overRow_step (b : List UInt8) (p : UInt8) (k : Nat) (h : k < b.length) : (overRow b p k).set k (b[k] ^^^ p) = overRow b p (k + 1) := by
  have hl : (H.over (b.take k) p).length = k := by rw [H.over_length, List.length_take]; omega
  unfold overRow
  rw [List.set_append_right _ _ (by omega), hl, Nat.sub_self, List.drop_eq_getElem_cons h, List.set_cons_zero, List.take_succ_eq_append_getElem h]
  simp only [H.over, List.map_append, List.append_assoc, List.map_cons, List.map_nil, List.cons_append, List.nil_append]
theorem overRow_at (b : List UInt8) (p : UInt8) (k : Nat) (h : k < b.length) : (overRow b p k)[k]? = some b[k] := by
  have hl : (H.over (b.take k) p).length = k := by rw [H.over_length, List.length_take]; omega
  unfold overRow
  rw [List.getElem?_append_right (by omega), hl, Nat.sub_self, List.drop_eq_getElem_cons h]
  rfl
theorem cellsOf_set (l : List UInt8) (i : Nat) (x : UInt8) : (W.cellsOf l).set i (.int .u8 (x.toNat : Int)) = W.cellsOf (l.set i x) := by simp [W.cellsOf, List.map_set]

set_option maxHeartbeats 1000000 in
theorem laidOver_any (b : List UInt8) (hb : b.length = 64) (p : UInt8) (w : World) :
    Calls Try.prog 67 #[.agg (W.cellsOf b).toArray, .int .u8 (p.toNat : Int)] w fun e w' => e = .returned (.string ⟨(H.over b p).toArray⟩) ∧ Below w.heap.size w w' := by
  have HBL := Lib.hid hb
  clear hb
  go_enter Try.func67, Try.ntmps67
  go_wp2
  go_loopw [6] (fun iv wr => ∃ k : Nat, k ≤ 64 ∧ iv = .int .i64 k ∧ Row wr w.heap.size 110 (W.cellsOf (overRow b p k)) ∧ Below w.heap.size w wr) (fun iv _ => 64 - (intOf iv).toNat)
  case atStart => exact ⟨0, Nat.zero_le _, rfl, by rw [show overRow b p 0 = b from by simp [overRow, H.over]]; exact Row.new _ _ _, (Below.refl _ _).alloc (Nat.le_refl _) _⟩
  case round =>
    obtain ⟨k, hk, rfl, r0, hbl⟩ := hrel
    by_cases hlt : k < 64
    · have hlen : k < b.length := by rw [HBL.out]; exact hlt
      have ck : wr.cell? ⟨w.heap.size, k, none⟩ = some (.int .u8 (b[k].toNat : Int)) := by
        rw [r0.cell]; simp [W.cellsOf, overRow_at b p k hlen]
      have fk := r0.frozen k
      have r0' := r0.set k (.int .u8 ((b[k] ^^^ p).toNat : Int))
      rw [cellsOf_set, overRow_step b p k hlen] at r0'
      have h1 := b[k].toNat_lt
      have h2 := p.toNat_lt
      have hx : bits .xor .u8 (b[k].toNat : Int) (p.toNat : Int) = ((b[k] ^^^ p).toNat : Int) := by
        rw [u8_xor_nat _ _ h1 h2, UInt8.toNat_xor]
      have bk : (k : Int) < 64 := by omega
      generalize b[k] ^^^ p = y at *
      go_wp2
      go_roundw
      case rel => exact ⟨k + 1, by omega, by go_num, r0', hbl.setCell (Nat.le_refl _) _⟩
      case measure => simp [intOf]; omega
    · obtain rfl : k = 64 := by omega
      have e : overRow b p 64 = H.over b p := by unfold overRow; rw [List.take_of_length_le (by rw [HBL.out]; exact Nat.le_refl _), List.drop_eq_nil_of_le (by rw [HBL.out]; exact Nat.le_refl _), List.append_nil]
      rw [e] at r0
      have hcv := run_convert_bytes_back (P := Try.prog) wr 78 9 5 ⟨w.heap.size, 0, none⟩ 64 (H.over b p) Try.underlying78 Try.underlying5 Try.underlying9 (fun t ht => r0.src t _ (by simp [W.cellsOf, ht]))
      rw [show (H.over b p).length = 64 from by rw [H.over_length, HBL.out]] at hcv
      clear e
      go_wp2
      go_ret
      exact ⟨rfl, hbl⟩

end Go.Proofs.Ytbkeodgiflfakaa

/-
  Layer 4: the sum of parts by a key; the chapter's example.
-/
namespace Go.Proofs.Ytbkeodgiflfakaa
open Go.RowKit
set_option linter.unusedVariables false
set_option maxRecDepth 20000

theorem infoStr : (Try.prog.info? 9).map (fun i => (i.zero, i.size, i.bytes)) = some (some (.string ⟨#[]⟩), 1, 16) := by kernel_rfl

theorem owns_one (w : World) (x : ByteArray) : (w.alloc (.cells #[.string x] 9 (0, 0))).ownsRow w.heap.size 9 1 (.slice (some ⟨w.heap.size, 0, none⟩) 1 1) 1 [.string x] :=
  ⟨rfl, .inr ⟨w.heap.size, 1, #[.string x], rfl, Nat.le_refl _, by show (w.heap.push _)[w.heap.size]? = _; simp, Nat.le_refl _, by unfold maxLen; omega, rfl, rfl⟩⟩

theorem strs_of_owns {w : World} {B n : Nat} {v : Value} {xs : List ByteArray} (h : w.ownsRow B 9 1 v n (xs.map Value.string)) (hn : xs.length = n) (h0 : 0 < n) : IsStrs w v xs := by
  subst hn
  rcases h.2 with ⟨_, h1⟩ | ⟨g, cap, cur, rfl, hb, hg, hc, hm, hs, ht⟩
  · omega
  · have hlt : g < w.heap.size := by
      by_cases hl : g < w.heap.size
      · exact hl
      · rw [Array.getElem?_eq_none (by omega)] at hg; cases hg
    refine .inr ⟨g, 0, cap, rfl, hc, hlt, fun j x hj => ?_⟩
    have := h.cells (g := g) rfl j (.string x) (by rw [List.getElem?_map, hj]; rfl)
    have e : (⟨g, 0, none⟩ : Addr).add j = ⟨g, 0 + j, none⟩ := by unfold Addr.add; split <;> simp_all
    rw [e] at this
    exact this

theorem add_at (bk o j : Nat) : (⟨bk, o, none⟩ : Addr).add j = ⟨bk, o + j, none⟩ := by unfold Addr.add; split <;> simp_all

theorem allOf_cons (x : ByteArray) (xs : List ByteArray) : allOf (x :: xs) = x.data.toList ++ allOf xs := by simp [allOf]

set_option maxHeartbeats 2000000 in
theorem hSum_any (key : ByteArray) (bk o c : Nat) (xs : List ByteArray) (w : World) (hk : key.size ≤ 1000000) (hc : xs.length ≤ c) (hb : bk < w.heap.size)
    (hcell : ∀ (j : Nat) x, xs[j]? = some x → w.cell? ⟨bk, o + j, none⟩ = some (.string x)) (h0 : 0 < xs.length) (hn : xs.length ≤ 100) (hl : (allOf xs).length ≤ 900000) :
    Calls Try.prog 57 #[.string key, .slice (some ⟨bk, o, none⟩) xs.length c] w fun e w' => e = .returned (.string ⟨(H.hmacL key.data.toList (allOf xs)).toArray⟩) ∧ Below w.heap.size w w' := by
  obtain ⟨i0, hi, hz0, hz1, hz2⟩ := info_parts infoStr
  obtain ⟨b, hbk⟩ : ∃ b, b = H.keyL key.data.toList := ⟨_, rfl⟩
  have hb64 : b.length = 64 := by rw [hbk]; exact H.keyL_length _
  have hi64 : (Try.prog.info? 110).map (·.size) = some (W.cellsOf b).toArray.size := by rw [List.size_toArray, cellsOf_len, hb64]; kernel_rfl
  have HH : Hid (H.hmacL key.data.toList (allOf xs) = S.sumL (H.over b 92 ++ S.sumL (H.over b 54 ++ allOf xs))) := by rw [hbk]; rfl
  have CK := keyBlock_any key hk w
  rw [← hbk] at CK
  have CK' : Hid (Calls Try.prog 66 #[.string key] w fun e w' => e = .returned (.agg (W.cellsOf b).toArray) ∧ Below w.heap.size w w') := CK
  have HB64 := Lib.hid hb64
  have HC : Hid (∀ (j : Nat) x, xs[j]? = some x → w.cell? ⟨bk, o + j, none⟩ = some (.string x)) := hcell
  clear CK hbk hb64 hcell
  go_enter Try.func57, Try.ntmps57
  go_wp2_with fail
  refine (Hid.out CK').mono ?_
  rintro e w1 ⟨rfl, b1⟩
  clear CK'
  have z1 := b1.size
  obtain ⟨g, hg⟩ : ∃ g, g = w1.heap.size := ⟨_, rfl⟩
  go_wp2_with (first | refine wpList_store_new rfl 110 (.tmp 5) (.tmp 8) rfl w1 _ _ _ _ rfl rfl rfl hi64 (by simp [cellsOf_len, HB64.out]) (cellsOf_all _) ?_ | refine wpList_load_row rfl 110 (.tmp 5) rfl w1.heap.size rfl _ _ _ _ (Row.new w1 _ _) Try.underlying110 rfl hi64 ?_)
  refine (laidOver_any b HB64.out 54 _).mono ?_
  rintro e w2 ⟨rfl, b2⟩
  have r2 : Row w2 g 110 (W.cellsOf b) := by rw [hg]; exact (Row.new w1 _ _).below b2 (by simp)
  have b2' : Below w.heap.size w w2 := (b1.alloc z1 _).trans (b2.mono (by simp; omega))
  have z2 := r2.lt
  have hwg : w.heap.size ≤ g := by rw [hg]; exact z1
  rw [← hg]
  obtain ⟨x, hx⟩ : ∃ x : ByteArray, x = ⟨(H.over b 54).toArray⟩ := ⟨_, rfl⟩
  have hxd : x.data.toList = H.over b 54 := by rw [hx]
  rw [← hx]
  have HXD := Lib.hid hxd
  clear b1 b2 hg hx hxd z1
  go_wp2_with (at_builtin; refine wpList_append_own _ rfl _ _ 69 rfl w2.heap.size 9 i0 (.string ⟨#[]⟩) 1 16 Try.underlying69 hi hz0 hz1 hz2 rfl (by decide) _ _ _ rfl (owns_one w2 x) ⟨bk, o, none⟩ xs.length c (xs.map Value.string) rfl (by simp) ?hn ?h1 (by unfold maxLen; omega) (by omega) (by simp) ?_)
  case hn =>
    intro j u hj
    rw [List.getElem?_map] at hj
    obtain ⟨y, hy, rfl⟩ := Option.map_eq_some_iff.1 hj
    rw [add_at]
    have e1 : (w2.alloc (.cells #[.string x] 9 (0, 0))).cell? ⟨bk, o + j, none⟩ = w.cell? ⟨bk, o + j, none⟩ := (b2'.alloc b2'.size _).cell (p := ⟨bk, o + j, none⟩) hb
    rw [e1]
    exact HC.out j y hy
  case h1 =>
    intro u hu
    obtain ⟨y, _, rfl⟩ := List.mem_map.1 hu
    rfl
  intro v3 w3 ho3 hgrow _
  have hS3 : IsStrs w3 v3 (x :: xs) := strs_of_owns (n := 1 + xs.length) ho3 (by simp; omega) (by omega)
  have b3' : Below w.heap.size w w3 := (b2'.alloc b2'.size _).grown hgrow (by have := b2'.size; simp; omega) (fun k hk => by simp [Value.ownBlock] at hk; have := b2'.size; omega)
  have r3 : Row w3 g 110 (W.cellsOf b) := by
    unfold Row
    rw [hgrow.block g (by simp; omega) (by simp [Value.ownBlock]; omega)]
    exact r2.alloc _
  have HS3 : Hid (IsStrs w3 v3 (x :: xs)) := hS3
  clear ho3 hgrow r2 b2' hS3
  go_wp2_with (refine wpList_load_row rfl 110 (.tmp 5) rfl g rfl _ _ _ _ r3 Try.underlying110 rfl hi64 ?_)
  refine (laidOver_any b HB64.out 92 _).mono ?_
  rintro e w4 ⟨rfl, b4⟩
  have HS4 : Hid (IsStrs w4 v3 (x :: xs)) := HS3.out.grown b4.size (fun k hk => b4.block k hk)
  have b4' : Below w.heap.size w w4 := b3'.trans (b4.mono b3'.size)
  clear b4 b3' r3 HS3
  go_wp2_with fail
  refine (text_any _ _ _ HS4.out (by simp; omega) (by rw [allOf_cons, HXD.out, List.length_append, H.over_length, HB64.out]; omega)).mono ?_
  rintro e w5 ⟨rfl, b5⟩
  have b5' : Below w.heap.size w w5 := b4'.trans (b5.mono b4'.size)
  rw [allOf_cons, HXD.out]
  clear b5 b4' HS4
  go_wp2_with fail
  refine (text_any _ [⟨(H.over b 92).toArray⟩, ⟨(S.sumL (H.over b 54 ++ allOf xs)).toArray⟩] _ (isStrs_new _ _ _ _ rfl 2 rfl) (by simp) ?hl).mono ?_
  case hl => simp [allOf, H.over_length, S.sumL_length, HB64.out]
  rintro e w6 ⟨rfl, b6⟩
  have b6' : Below w.heap.size w w6 := (b5'.alloc b5'.size _).trans (b6.mono (by have := b5'.size; simp; omega))
  have ha : allOf [⟨(H.over b 92).toArray⟩, ⟨(S.sumL (H.over b 54 ++ allOf xs)).toArray⟩] = H.over b 92 ++ S.sumL (H.over b 54 ++ allOf xs) := by simp [allOf]
  rw [ha, ← HH.out]
  clear b6 b5' ha
  go_wp2
  go_ret
  exact ⟨rfl, b6'⟩

end Go.Proofs.Ytbkeodgiflfakaa

/-
  Layer 4: the chapter's example holds; a sum of parts that were just laid; bytes that are derived.
-/
namespace Go.Proofs.Ytbkeodgiflfakaa
open Go.RowKit
set_option linter.unusedVariables false
set_option maxRecDepth 20000

theorem hSum_new (key : ByteArray) (xs : List ByteArray) (w : World) (A : Array Value) (hA : A = (xs.map Value.string).toArray) (n g : Nat) (hn' : n = xs.length) (hg : g = w.heap.size) (hk : key.size ≤ 1000000) (h0 : 0 < xs.length) (hn : xs.length ≤ 100) (hl : (allOf xs).length ≤ 900000) :
    Calls Try.prog 57 #[.string key, .slice (some ⟨g, 0, none⟩) n n] (w.alloc (.cells A 9 (0, 0))) fun e w' => e = .returned (.string ⟨(H.hmacL key.data.toList (allOf xs)).toArray⟩) ∧ Below w.heap.size w w' := by
  subst hA; subst hn'; subst hg
  refine (hSum_any key w.heap.size 0 xs.length xs _ hk (Nat.le_refl _) (by simp) (fun j x hj => ?_) h0 hn hl).mono ?_
  · have r := Row.new w 9 (xs.map Value.string)
    rw [Nat.zero_add, r.cell]
    simp [hj]
  · rintro e w' ⟨rfl, b⟩
    exact ⟨rfl, ((Below.refl _ _).alloc (Nat.le_refl _) _).trans (b.mono (by simp))⟩

theorem jefe_is : Lib.hasPrefix (H.hmacL (⟨#[74, 101, 102, 101]⟩ : ByteArray).data.toList (allOf [⟨#[119, 104, 97, 116, 32, 100, 111, 32, 121, 97, 32, 119, 97, 110, 116, 32]⟩, ⟨#[102, 111, 114, 32, 110, 111, 116, 104, 105, 110, 103, 63]⟩])) [91, 220, 193, 70] = true := by decide +kernel

set_option maxHeartbeats 1000000 in
theorem awake4_any (w : World) : Calls Try.prog 69 #[] w fun e w' => e = .returned (.bool true) ∧ Below w.heap.size w w' := by
  go_enter Try.func69, Try.ntmps69
  go_wp2_with fail
  refine (awake3X_any _).mono ?_
  rintro e w1 ⟨rfl, b1⟩
  go_wp2_with fail
  refine (hSum_new _ [⟨#[119, 104, 97, 116, 32, 100, 111, 32, 121, 97, 32, 119, 97, 110, 116, 32]⟩, ⟨#[102, 111, 114, 32, 110, 111, 116, 104, 105, 110, 103, 63]⟩] w1 _ rfl 2 _ rfl rfl (by decide) (by decide) (by decide) (by decide)).mono ?_
  rintro e w2 ⟨rfl, b2⟩
  have b2' := b1.trans (b2.mono b1.size)
  clear b1 b2
  go_wp2_with fail
  refine (Try.strings_HasPrefix _ _ _).mono ?_
  rintro e w3 ⟨rfl, rfl⟩
  rw [jefe_is]
  go_wp2
  go_ret
  exact ⟨rfl, b2'⟩

end Go.Proofs.Ytbkeodgiflfakaa

/-
  Layer 4: bytes that are derived.
-/
namespace Go.Proofs.Ytbkeodgiflfakaa
open Go.RowKit
set_option linter.unusedVariables false
set_option maxRecDepth 20000

theorem derive_low (key label : ByteArray) (n : Int) (h : n < 0) (w : World) :
    Calls Try.prog 54 #[.string key, .string label, .int .i64 n] w fun e w' => e = .returned (.tuple #[.string ⟨#[]⟩, .int .i64 7]) ∧ w' = w := by
  go_enter Try.func54, Try.ntmps54
  go_wp2
  go_ret2
  exact ⟨rfl, rfl⟩
theorem derive_high (key label : ByteArray) (n : Int) (h : 8160 < n) (w : World) :
    Calls Try.prog 54 #[.string key, .string label, .int .i64 n] w fun e w' => e = .returned (.tuple #[.string ⟨#[]⟩, .int .i64 7]) ∧ w' = w := by
  have h' : ¬ n < 0 := by omega
  go_enter Try.func54, Try.ntmps54
  go_wp2
  go_ret2
  exact ⟨rfl, rfl⟩

theorem conv_one (wr : World) (x : Int) (b : UInt8) (hx : x = (b.toNat : Int)) : (convert 78 9 (.slice (some ⟨wr.heap.size, 0, none⟩) 1 1)).run Try.prog (wr.alloc (.cells #[.int .u8 x] 5)) = .ok (.string ⟨#[b]⟩) (wr.alloc (.cells #[.int .u8 x] 5)) := by
  have := run_convert_bytes_back (P := Try.prog) (wr.alloc (.cells #[.int .u8 x] 5)) 78 9 5 ⟨wr.heap.size, 0, none⟩ 1 [b] Try.underlying78 Try.underlying5 Try.underlying9 (fun t ht => by
    obtain rfl : t = 0 := by simpa using ht
    simp [Addr.add, hx])
  exact this

theorem all_three (a b c : ByteArray) : allOf [a, b, c] = a.data.toList ++ (b.data.toList ++ c.data.toList) := by simp [allOf]

set_option maxHeartbeats 2000000 in
theorem derive_mid (key label : ByteArray) (n : Nat) (hn : n ≤ 8160) (hk : key.size ≤ 1000000) (hl : label.size ≤ 800000) (w : World) :
    Calls Try.prog 54 #[.string key, .string label, .int .i64 (n : Int)] w fun e w' => ∃ x : ByteArray, e = .returned (.tuple #[.string x, .int .i64 0]) ∧ x.data.toList = H.deriveL key.data.toList label.data.toList n ∧ Below w.heap.size w w' := by
  have hn0 : ¬ (n : Int) < 0 := by omega
  have hn1 : ¬ (8160 : Int) < (n : Int) := by omega
  go_enter Try.func54, Try.ntmps54
  go_wp2
  go_loopw [9, 10] (fun lv iv wx => ∃ (i : Nat) (t : ByteArray), (i = 0 ∨ 32 * (i - 1) < n) ∧ lv = .string t ∧ iv = .int .i64 ((i + 1 : Nat) : Int) ∧ Hid (t.data.toList = H.tt key.data.toList label.data.toList i) ∧
      Lib.IsBuilder 80 5 w.heap.size w.heap.size (Lib.byteCells (H.cat key.data.toList label.data.toList i)) wx ∧ Below w.heap.size w wx) (fun _ iv _ => 300 - (intOf iv).toNat)
  case atStart =>
    refine ⟨0, ⟨#[]⟩, .inl rfl, rfl, rfl, rfl, .inl ⟨Nat.le_refl _, _, by show (w.heap.push _)[w.heap.size]? = _; simp, World.ownsRow_nil _ _ _ _, by simp [Value.ownBlock]⟩, (Below.refl _ _).alloc (Nat.le_refl _) _⟩
  case round =>
    obtain ⟨i, t, hi, rfl, rfl, HT, hI, hbl⟩ := hrel
    have hz : w.heap.size < wr.heap.size := isBuilder_lt hI
    have hib : i ≤ 256 := by omega
    have hln : (Lib.byteCells (H.cat key.data.toList label.data.toList i)).length = 32 * i := by rw [byteCells_length, H.cat_length]
    have hts : t.size ≤ 32 := by
      have h1 := H.tt_le key.data.toList label.data.toList i
      rw [← HT.out] at h1
      simpa using h1
    have CL := Try.Builder_Len w.heap.size w.heap.size _ wr hI
    rw [hln] at CL
    have CL' : Hid (Calls Try.prog 38 #[.pointer (some ⟨w.heap.size, 0, none⟩)] wr fun e w' => e = .returned (.int .i64 ((32 * i : Nat) : Int)) ∧ w' = wr) := CL
    have HLN := Lib.hid hln
    clear CL hln
    go_wp2_with fail
    refine (Hid.out CL').mono ?_
    rintro e w1 ⟨rfl, rfl⟩
    clear CL'
    by_cases hlt : 32 * i < n
    · obtain ⟨bb, hbb⟩ : ∃ bb, bb = UInt8.ofNat (i + 1) := ⟨_, rfl⟩
      have hcv := conv_one w1 ((i : Int) + 1) bb (by rw [hbb, UInt8.toNat_ofNat']; omega)
      have hTT : H.tt key.data.toList label.data.toList (i + 1) = H.hmacL key.data.toList (t.data.toList ++ (label.data.toList ++ [bb])) := by rw [hbb, HT.out]; rfl
      have HTT := Lib.hid hTT
      have hib2 : i ≤ 254 := by omega
      clear hTT hbb
      go_wp2_with fail
      refine (hSum_new key [t, label, ⟨#[bb]⟩] (w1.alloc (.cells #[.int .u8 ((i : Int) + 1)] 5 (0, 0))) _ rfl 3 (w1.heap.size + 1) rfl (by simp) hk (by simp) (by simp) ?hl1).mono ?_
      case hl1 =>
        rw [all_three, List.length_append, List.length_append]
        have h1 : t.data.toList.length = t.size := by simp
        have h2 : label.data.toList.length = label.size := by simp
        rw [h1, h2]
        show _ + (_ + 1) ≤ _
        omega
      rintro e w2 ⟨rfl, b2⟩
      have b2' : Below w1.heap.size w1 w2 := ((Below.refl _ _).alloc (Nat.le_refl _) _).trans (b2.mono (by simp))
      rw [all_three, show (⟨#[bb]⟩ : ByteArray).data.toList = [bb] from rfl, ← HTT.out]
      have hI2 := isBuilder_below hI b2'
      have hb2 := hbl.trans (b2'.mono hbl.size)
      have hz2 := b2'.size
      clear b2 b2' hI hbl HT hcv
      obtain ⟨u, hu⟩ : ∃ u : ByteArray, u = ⟨(H.tt key.data.toList label.data.toList (i + 1)).toArray⟩ := ⟨_, rfl⟩
      have hud : u.data.toList = H.tt key.data.toList label.data.toList (i + 1) := by rw [hu]
      have hus : u.size = 32 := by
        have h1 : u.size = u.data.toList.length := by simp
        rw [h1, hud, H.tt_length]
      rw [← hu]
      have HUD := Lib.hid hud
      have HUS := Lib.hid hus
      clear hu hud hus HTT
      go_wp2_with fail
      refine (writeString_any w.heap.size w.heap.size _ u _ hI2 (by rw [HLN.out, HUS.out]; omega) (by omega)).mono ?_
      rintro e w3 ⟨rfl, h3, b3⟩
      have hb3 := hb2.trans b3
      have h3' : Lib.IsBuilder 80 5 w.heap.size w.heap.size (Lib.byteCells (H.cat key.data.toList label.data.toList (i + 1))) w3 := by
        show Lib.IsBuilder _ _ _ _ (Lib.byteCells (H.cat key.data.toList label.data.toList i ++ H.tt key.data.toList label.data.toList (i + 1))) _
        rw [byteCells_append, ← HUD.out]; exact .inr h3
      clear hI2 hb2 b3 h3
      go_wp2
      go_roundw
      case rel => exact ⟨i + 1, u, .inr (by simpa using hlt), rfl, by go_num, HUD, h3', hb3⟩
      case measure => simp [intOf]; omega
    · have hge : ¬ (32 * (i : Int)) < (n : Int) := by omega
      go_wp2_with fail
      refine (Try.Builder_String_any w.heap.size w.heap.size _ _ hI (by omega)).mono ?_
      rintro e w2 ⟨rfl, b2⟩
      have hb2 := hbl.trans b2
      obtain ⟨u, hu⟩ : ∃ u : ByteArray, u = ⟨(H.cat key.data.toList label.data.toList i).toArray⟩ := ⟨_, rfl⟩
      have hud : u.data.toList = H.cat key.data.toList label.data.toList i := by rw [hu]
      have hus : n ≤ u.size := by
        have h1 : u.size = u.data.toList.length := by simp
        rw [h1, hud, H.cat_length]; omega
      rw [← hu]
      have HUD := Lib.hid hud
      have hus' : (n : Int) ≤ (u.size : Int) := by omega
      clear hI hbl b2 hu hud
      go_wp2
      go_ret2
      refine ⟨_, rfl, ?_, hb2⟩
      rw [ByteArray.data_extract]
      simp only [Array.toList_extract, List.extract_eq_take_drop, List.drop_zero, Nat.sub_zero]
      rw [HUD.out]
      exact H.deriveL_of _ _ (by omega)

end Go.Proofs.Ytbkeodgiflfakaa

/-
  Layer 4: hmac.Same.
-/
namespace Go.Proofs.Ytbkeodgiflfakaa
open Go.RowKit
set_option linter.unusedVariables false
set_option maxRecDepth 20000

theorem size_is (s : ByteArray) : s.size = s.data.toList.length := by simp

theorem unlike_iff (u x y : UInt8) : (u ||| (x ^^^ y) = 0) ↔ (u = 0 ∧ x = y) := by
  rw [UInt8.or_eq_zero_iff, UInt8.xor_eq_zero_iff]
theorem take_snoc_iff {l m : List UInt8} {i : Nat} (hl : i < l.length) (hm : i < m.length) : (l.take (i + 1) = m.take (i + 1)) ↔ (l.take i = m.take i ∧ l[i] = m[i]) := by
  rw [List.take_succ_eq_append_getElem hl, List.take_succ_eq_append_getElem hm]
  constructor
  · intro h
    have h2 := List.append_inj' h rfl
    exact ⟨h2.1, by simpa using h2.2⟩
  · rintro ⟨h1, h2⟩; rw [h1, h2]

set_option maxHeartbeats 1000000 in
theorem same_any (a b : ByteArray) (ha : a.size ≤ 1000000) (hb : b.size ≤ 1000000) (w : World) :
    Calls Try.prog 45 #[.string a, .string b] w fun e w' => e = .returned (.bool (a.toList == b.toList)) ∧ Below w.heap.size w w' := by
  by_cases he : a.size = b.size
  · have he' : ((a.size : Int) != (b.size : Int)) = false := by rw [bne_eq_false_iff_eq]; omega
    go_enter Try.func45, Try.ntmps45
    have HE := Lib.hid he
    clear he
    go_wp2
    go_loopw [5, 6, 14] (fun uv _ iv wx => ∃ (i : Nat) (u : UInt8), i ≤ a.size ∧ iv = .int .i64 i ∧ uv = .int .u8 (u.toNat : Int) ∧ Hid ((u = 0) ↔ (a.data.toList.take i = b.data.toList.take i)) ∧ Below w.heap.size w wx) (fun _ _ iv _ => a.size - (intOf iv).toNat)
    case atStart => exact ⟨0, 0, Nat.zero_le _, rfl, rfl, by show (_ ↔ _); simp, Below.refl _ _⟩
    case round =>
      obtain ⟨i, u, hi, rfl, rfl, hu, hbl⟩ := hrel
      have hab : (a.size : Int) = (b.size : Int) := by rw [HE.out]
      by_cases hlt : i < a.size
      · have hlb : i < b.size := by rw [← HE.out]; exact hlt
        have hst := take_snoc_iff (l := a.data.toList) (m := b.data.toList) (i := i) (by rw [← size_is]; exact hlt) (by rw [← size_is]; exact hlb)
        have hla : (i : Int) < (b.size : Int) := by omega
        have hx : bits .xor .u8 (a[i].toNat : Int) (b[i].toNat : Int) = ((a[i] ^^^ b[i]).toNat : Int) := by
          rw [u8_xor_nat _ _ a[i].toNat_lt b[i].toNat_lt, UInt8.toNat_xor]
        have hy : bits .or .u8 (u.toNat : Int) ((a[i] ^^^ b[i]).toNat : Int) = ((u ||| (a[i] ^^^ b[i])).toNat : Int) := by
          rw [u8_or_nat _ _ u.toNat_lt (a[i] ^^^ b[i]).toNat_lt, UInt8.toNat_or]
        have HY : Hid (bits .or .u8 (u.toNat : Int) ((a[i].toNat ^^^ b[i].toNat : Nat) : Int) = ((u ||| (a[i] ^^^ b[i])).toNat : Int)) := by
          rw [UInt8.toNat_xor] at hy; exact hy
        have hn : Hid ((u ||| (a[i] ^^^ b[i]) = 0) ↔ (a.data.toList.take (i + 1) = b.data.toList.take (i + 1))) := by
          show (_ ↔ _)
          rw [unlike_iff, hst, hu.out]; exact Iff.rfl
        generalize u ||| (a[i] ^^^ b[i]) = v at *
        clear hst hu hy
        go_wp2
        go_region
        go_wp2
        go_roundw
        case rel => exact ⟨i + 1, v, by omega, by go_num, by rw [HY.out], hn, by first | exact hbl | exact hbl.drew⟩
        case measure => simp [intOf]; omega
      · obtain rfl : i = a.size := by omega
        have hfin : (((u.toNat : Int)) == 0) = (a.toList == b.toList) := by
          rw [ByteArray.toList_eq, ByteArray.toList_eq, Bool.eq_iff_iff, beq_iff_eq, beq_iff_eq]
          have h1 := hu.out
          rw [List.take_of_length_le (by rw [← size_is]; exact Nat.le_refl _), List.take_of_length_le (by rw [← size_is, ← HE.out]; exact Nat.le_refl _)] at h1
          rw [← h1, ← UInt8.toNat_inj]
          show _ ↔ u.toNat = 0
          omega
        have hge : ¬ (b.size : Int) < (b.size : Int) := by omega
        go_wp2
        go_ret
        exact ⟨by first | rfl | rw [← hfin], hbl⟩
  · have hne : (a.toList == b.toList) = false := by
      rw [beq_eq_false_iff_ne]; intro h; apply he; rw [size_is, size_is, ← ByteArray.toList_eq, ← ByteArray.toList_eq, h]
    have he' : ((a.size : Int) != (b.size : Int)) = true := by rw [bne_iff_ne]; omega
    rw [hne]
    go_enter Try.func45, Try.ntmps45
    go_wp2
    go_ret
    exact ⟨rfl, Below.refl _ _⟩

end Go.Proofs.Ytbkeodgiflfakaa
