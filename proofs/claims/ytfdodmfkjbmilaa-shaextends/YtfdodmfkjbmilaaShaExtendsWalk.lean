/-
  Layer 3: the walk of ShaExtends: it answers true at every two texts.
-/
import Derived.Test.YtfdodmfkjbmilaaSAwake
import Derived.Test.YtfdodmfkjbmilaaSLaws
import Derived.Test.YtfdodmfkjbmilaaSStepX
import Derived.Test.YtfdodmfkjbmilaaSPadLaws
import Derived.Test.YtfdodmfkjbmilaaSExtLaws
import Derived.Test.YtfdodmfkjbmilaaSTake
import Derived.OpenShut
namespace Go.Proofs.Ytfdodmfkjbmilaa.ShaExtendsW
open Go.RowKit
set_option linter.unusedVariables false

theorem size_of (s : ByteArray) : s.size = s.data.toList.length := by simp
theorem add_data (a b : ByteArray) : (a ++ b).data.toList = a.data.toList ++ b.data.toList := by simp
theorem all_one (s : ByteArray) : allOf [s] = s.data.toList := by simp [allOf]
theorem all_two (s t : ByteArray) : allOf [s, t] = s.data.toList ++ t.data.toList := by simp [allOf]
theorem below_step {w wc wn : World} (h : Below w.heap.size w wc) (b : Below wc.heap.size wc wn) : Below w.heap.size w wn := h.trans (b.mono h.size)

theorem whole_is (s : ByteArray) (hs : s.size ≤ 1000000) (w : World) :
    Calls Try.prog 13 #[.string s] w fun e w' => ∃ x : ByteArray, e = .returned (.string x) ∧ x.data.toList = S.padL s.data.toList ∧ Below w.heap.size w w' :=
  (whole_any s hs w).mono fun e w' h => ⟨_, h.1, by simp, h.2⟩
theorem isStrs_at' (w : World) (t : TypeId) (xs : List ByteArray) (A : Array Value) (hA : A = (xs.map Value.string).toArray) (n : Nat) (hn : n = xs.length) (g : Nat) (hg : g = w.heap.size) : IsStrs (w.alloc (.cells A t (0, 0))) (.slice (some ⟨g, 0, none⟩) n n) xs := by
  subst hg
  exact isStrs_new w t xs A hA n hn

theorem info8 (l : List Nat) (hl : l.length = 8) : (Try.prog.info? 23).map (·.size) = some (u32s l).toArray.size := by rw [List.size_toArray, u32s_length, hl]; kernel_rfl

/-- A text's length. -/
def strLen : Value → Nat
  | .string s => s.size
  | _ => 0

set_option maxRecDepth 20000 in
set_option maxHeartbeats 8000000 in
theorem core (a0 a1 : ByteArray) (w : World) (w0 : a0.size ≤ maxLen) (w1 : a1.size ≤ maxLen) :
    Calls Try.prog 4 #[.string a0, .string a1] w fun e w' => e = .returned (.bool true) ∧ Below w.heap.size w w' := by
  unfold maxLen at w0 w1
  go_enter Try.func4, Try.ntmps4
  go_wp2_with fail
  refine (awake3_any _).mono ?_
  rintro e w1 ⟨rfl, hb1⟩
  by_cases hL : a0.size ≤ 300 ∧ a1.size ≤ 300
  · obtain ⟨hs, ht⟩ := hL
    go_wp2_with fail
    refine (whole_is a0 (by omega) _).mono ?_
    rintro e w2 ⟨f, rfl, hf, b2⟩
    have hb2 := below_step hb1 b2
    have lf := S.padL_length a0.data.toList
    have mf := S.padL_mod a0.data.toList
    have nf := S.noughts_le a0.data.toList.length
    rw [← hf, ← size_of] at lf mf
    rw [← size_of] at lf nf
    have hfs : f.size ≤ 400 := by omega
    have HF := Lib.hid hf
    have hadd := fun wx => run_string_add_sum (P := Try.prog) wx f a1 (by omega)
    obtain ⟨ft, hft⟩ : ∃ ft, ft = f ++ a1 := ⟨_, rfl⟩
    have hfts : ft.size = f.size + a1.size := by rw [hft, ByteArray.size_append]
    have hftd : ft.data.toList = S.padL a0.data.toList ++ a1.data.toList := by rw [hft, add_data, hf]
    rw [← hft] at hadd
    clear hft hb1 b2 lf nf
    go_wp2_with fail
    refine (whole_is ft (by omega) _).mono ?_
    rintro e w3 ⟨al, rfl, hal, b3⟩
    have hb3 := below_step hb2 b3
    rw [hftd] at hal
    have la := S.padL_length (S.padL a0.data.toList ++ a1.data.toList)
    have ma := S.padL_mod (S.padL a0.data.toList ++ a1.data.toList)
    have na := S.noughts_le (S.padL a0.data.toList ++ a1.data.toList).length
    rw [← hal, ← size_of] at la ma
    rw [← hftd, ← size_of] at la na
    obtain ⟨N, hN⟩ : ∃ N, al.size = 64 * N := ⟨al.size / 64, by omega⟩
    obtain ⟨M, hM⟩ : ∃ M, f.size = 64 * M := ⟨f.size / 64, by omega⟩
    have hMN : M ≤ N := by omega
    have hNb : N ≤ 40 := by omega
    have t1 : ((f.size : Int) % 64 != 0) = false := by rw [bne_eq_false_iff_eq]; omega
    have hp1 : Lib.hasPrefix al.data.toList ft.data.toList = true := by
      show ft.data.toList.isPrefixOf al.data.toList = true
      rw [hal, hftd]; exact S.padL_prefix' _
    have hp2 : Lib.hasPrefix f.data.toList a0.data.toList = true := by
      show a0.data.toList.isPrefixOf f.data.toList = true
      rw [hf]; exact S.padL_prefix' _
    have hWF : S.blocks (S.padL (S.padL a0.data.toList ++ a1.data.toList)) S.start M = S.wordsOf a0.data.toList := by
      have := S.words_front a0.data.toList a1.data.toList
      rw [← hf, ← size_of, hM, show 64 * M / 64 = M from by omega] at this
      rw [← hf]; exact this
    have hWA : S.blocks (S.padL (S.padL a0.data.toList ++ a1.data.toList)) S.start N = S.wordsOf (f.data.toList ++ a1.data.toList) := by
      rw [hf]
      show _ = S.blocks _ S.start ((S.padL (S.padL a0.data.toList ++ a1.data.toList)).length / 64)
      rw [← hal, ← size_of, hN, show 64 * N / 64 = N from by omega]
    rw [← hal] at hWF hWA
    have HWF := Lib.hid hWF
    have HWA := Lib.hid hWA
    have HN := Lib.hid hN
    have HM := Lib.hid hM
    clear hb2 b3 la ma na hWF hWA hal hftd hf mf
    go_wp2_with fail
    refine (Try.strings_HasPrefix _ _ _).mono ?_
    rintro e w4 ⟨rfl, rfl⟩
    rw [hp1]
    go_wp2_with fail
    refine (Try.strings_HasPrefix _ _ _).mono ?_
    rintro e w5 ⟨rfl, rfl⟩
    rw [hp2]
    clear hp1 hp2
    go_wp2_with fail
    refine (sum_any _ [a0] _ (isStrs_at' _ _ [a0] _ rfl 1 rfl _ (by simp)) (by simp) (by rw [all_one, ← size_of]; omega)).mono ?_
    rintro e w6 ⟨rfl, b6⟩
    rw [all_one]
    have hb6 := below_step (hb3.alloc hb3.size _) b6
    clear hb3 b6
    obtain ⟨h, hh⟩ : ∃ h, h = S.wordsOf a0.data.toList := ⟨_, rfl⟩
    have hl8 : h.length = 8 := by rw [hh]; exact S.wordsOf_length _
    have oh : S.Ok h := by rw [hh]; exact S.wordsOf_ok _
    obtain ⟨b, hb⟩ : ∃ b, b = S.sumL a0.data.toList := ⟨_, rfl⟩
    have hbh : b = S.bytesOf h := by rw [hb, hh]; rfl
    have hbl : b.length = 32 := by rw [hb]; exact S.sumL_length _
    have hi : (Try.prog.info? 37).map (·.size) = some (W.cellsOf b).toArray.size := by rw [List.size_toArray, cellsOf_len, hbl]; kernel_rfl
    have HBL := Lib.hid hbl
    have HBH := Lib.hid hbh
    have HL8 := Lib.hid hl8
    rw [← hb]
    rw [← hh] at HWF
    clear hb hbl hbh hh hl8
    obtain ⟨gx, hgx⟩ : ∃ gx, gx = w6.heap.size := ⟨_, rfl⟩
    have rx0 : Row ((w6.alloc (.cells (W.cellsOf b).toArray 37 (0, 0))).alloc (.cells (u32s (List.replicate 8 0)).toArray 23 (0, 0))) gx 37 (W.cellsOf b) := (Row.new' rfl hgx).alloc _
    have rv0 : Row ((w6.alloc (.cells (W.cellsOf b).toArray 37 (0, 0))).alloc (.cells (u32s (List.replicate 8 0)).toArray 23 (0, 0))) (gx + 1) 23 (u32s (S.wordRow h 0)) := Row.new' rfl (by simp [hgx])
    have bx0 := (hb6.alloc hb6.size (.cells (W.cellsOf b).toArray 37 (0, 0))).alloc (by have := hb6.size; simp; omega) (.cells (u32s (List.replicate 8 0)).toArray 23 (0, 0))
    have zg : w.heap.size ≤ gx := by rw [hgx]; exact hb6.size
    go_wp2_with (first | (refine wpList_store_new rfl 37 (.tmp 7) (.tmp 49) rfl w6 _ _ _ _ rfl rfl rfl hi (by simp [cellsOf_len, HBL.out]) (cellsOf_all _) ?_) | fail)
    rw [← hgx]
    clear hgx hb6
    go_loopw [9, 50] (fun _ iv wx => ∃ i : Nat, i ≤ 8 ∧ iv = .int .i64 i ∧ Row wx gx 37 (W.cellsOf b) ∧ Row wx (gx + 1) 23 (u32s (S.wordRow h i)) ∧ Below w.heap.size w wx) (fun _ iv _ => 8 - (intOf iv).toNat)
    case atStart => exact ⟨0, Nat.zero_le _, rfl, rx0, rv0, bx0⟩
    case round =>
      clear rx0 rv0 bx0
      obtain ⟨i, hi8, rfl, rx, rv, hbl⟩ := hrel
      by_cases hlt : i < 8
      · obtain ⟨c0, g0⟩ : ∃ c, b[4 * i]? = some c := ⟨_, List.getElem?_eq_getElem (by rw [HBL.out]; omega)⟩
        obtain ⟨c1, g1⟩ : ∃ c, b[4 * i + 1]? = some c := ⟨_, List.getElem?_eq_getElem (by rw [HBL.out]; omega)⟩
        obtain ⟨c2, g2⟩ : ∃ c, b[4 * i + 2]? = some c := ⟨_, List.getElem?_eq_getElem (by rw [HBL.out]; omega)⟩
        obtain ⟨c3, g3⟩ : ∃ c, b[4 * i + 3]? = some c := ⟨_, List.getElem?_eq_getElem (by rw [HBL.out]; omega)⟩
        have HW := Lib.hid (S.or_word h HL8.out oh i hlt c0 c1 c2 c3 (by rw [← HBH.out]; exact g0) (by rw [← HBH.out]; exact g1) (by rw [← HBH.out]; exact g2) (by rw [← HBH.out]; exact g3))
        obtain ⟨n0, e0⟩ : ∃ n, n = 4 * i := ⟨_, rfl⟩
        obtain ⟨n1, e1⟩ : ∃ n, n = 4 * i + 1 := ⟨_, rfl⟩
        obtain ⟨n2, e2⟩ : ∃ n, n = 4 * i + 2 := ⟨_, rfl⟩
        obtain ⟨n3, e3⟩ : ∃ n, n = 4 * i + 3 := ⟨_, rfl⟩
        rw [← e0] at g0
        rw [← e1] at g1
        rw [← e2] at g2
        rw [← e3] at g3
        have x0 : wr.cell? ⟨gx, n0, none⟩ = some (.int .u8 (c0.toNat : Int)) := by rw [rx.cell]; simp [W.cellsOf, g0]
        have x1 : wr.cell? ⟨gx, n1, none⟩ = some (.int .u8 (c1.toNat : Int)) := by rw [rx.cell]; simp [W.cellsOf, g1]
        have x2 : wr.cell? ⟨gx, n2, none⟩ = some (.int .u8 (c2.toNat : Int)) := by rw [rx.cell]; simp [W.cellsOf, g2]
        have x3 : wr.cell? ⟨gx, n3, none⟩ = some (.int .u8 (c3.toNat : Int)) := by rw [rx.cell]; simp [W.cellsOf, g3]
        have xv := (rv.cell i).trans (u32s_at (by rw [S.wordRow_length h HL8.out i hi8]; exact hlt))
        have fv := rv.frozen i
        have l0 := c0.toNat_lt
        have l1 := c1.toNat_lt
        have l2 := c2.toNat_lt
        have l3 := c3.toNat_lt
        have m0 : 4 * (i : Int) = (n0 : Int) := by omega
        have m1 : (n0 : Int) + 1 = (n1 : Int) := by omega
        have m2 : (n0 : Int) + 2 = (n2 : Int) := by omega
        have m3 : (n0 : Int) + 3 = (n3 : Int) := by omega
        have k0 : IntKind.i64.wrap (n0 : Int) = (n0 : Int) := by rw [IntKind.wrap_i64]; omega
        have k1 : IntKind.i64.wrap (n1 : Int) = (n1 : Int) := by rw [IntKind.wrap_i64]; omega
        have k2 : IntKind.i64.wrap (n2 : Int) = (n2 : Int) := by rw [IntKind.wrap_i64]; omega
        have k3 : IntKind.i64.wrap (n3 : Int) = (n3 : Int) := by rw [IntKind.wrap_i64]; omega
        have u0 : (n0 : Int) < 32 := by omega
        have u1 : (n1 : Int) < 32 := by omega
        have u2 : (n2 : Int) < 32 := by omega
        have u3 : (n3 : Int) < 32 := by omega
        have ui : (i : Int) < 8 := by omega
        have hne : ¬ gx = gx + 1 ∧ ¬ gx + 1 = gx := by omega
        have HST := Lib.hid (S.wordRow_step h HL8.out i hlt)
        generalize (S.wordRow h i).getD i 0 = vv at xv
        clear e0 e1 e2 e3 g0 g1 g2 g3
        go_wp2
        go_region_held3 (fun w' => w'.cell? ⟨gx, n0, none⟩ = some (.int .u8 (c0.toNat : Int)) ∧ w'.cell? ⟨gx, n1, none⟩ = some (.int .u8 (c1.toNat : Int)) ∧ w'.cell? ⟨gx, n2, none⟩ = some (.int .u8 (c2.toNat : Int)) ∧ w'.cell? ⟨gx, n3, none⟩ = some (.int .u8 (c3.toNat : Int))) (simp [*, World.cell?_setCell_other]) (fail)
        go_wp2
        go_roundw
        case rel =>
          rw [HW.out]
          refine ⟨i + 1, by omega, by go_num, (rx.other (by omega) _).drew, ?_, (hbl.setCell (by simp; omega) _).drew⟩
          rw [← HST.out, ← u32s_set]
          exact (rv.set i _).drew
        case measure => simp [intOf]; omega
      · obtain rfl : i = 8 := by omega
        rw [S.wordRow_full h HL8.out] at rv
        clear rx
        have hxd : (al.extract (64 * M) (64 * N)).data.toList = al.data.toList.drop (64 * M) := by
          rw [ByteArray.data_extract]
          simp only [Array.toList_extract, List.extract_eq_take_drop]
          rw [List.take_of_length_le (by rw [List.length_drop, ← size_of, HN.out]; exact Nat.le_refl _)]
        have HXD := Lib.hid hxd
        have hxs : (al.extract (64 * M) (64 * N)).size = 64 * (N - M) := by rw [ByteArray.size_extract, HN.out]; omega
        have HXS : Hid ((al.extract (64 * M) (64 * N)).size = 64 * (N - M)) := hxs
        clear hxd hxs
        go_wp2
        go_loopw [10, 11, 12] (fun rv nv ev wx => ∃ (k : Nat) (r : ByteArray), M ≤ k ∧ k ≤ N ∧ rv = .string r ∧ Hid (r.size = 64 * (N - k)) ∧ Hid (r.data.toList = al.data.toList.drop (64 * k)) ∧ Row wx (gx + 1) 23 (u32s (S.blocks al.data.toList S.start k)) ∧ Below w.heap.size w wx) (fun rv _ _ _ => strLen rv)
        case atStart => exact ⟨M, _, Nat.le_refl _, hMN, rfl, HXS, HXD, by rw [HWF.out]; exact rv, hbl⟩
        case round =>
          clear rv hbl HXS HXD
          obtain ⟨k, r, hMk, hkN, rfl, HRS, HRD, rv, hbl⟩ := hrel
          by_cases hlt : k < N
          · have l8 : (S.blocks al.data.toList S.start k).length = 8 := S.blocks_length S.start_length k
            have o8 : S.Ok (S.blocks al.data.toList S.start k) := S.blocks_ok S.start_ok k
            have hex : (r.extract 0 64).data.toList = (al.data.toList.drop (64 * k)).take 64 := by
              rw [ByteArray.data_extract]
              simp only [Array.toList_extract, List.extract_eq_take_drop, List.drop_zero, Nat.sub_zero]
              rw [HRD.out]
            have hes : (r.extract 0 64).size = 64 := by rw [ByteArray.size_extract, HRS.out]; omega
            have hB : S.blocks al.data.toList S.start (k + 1) = S.stepL (S.blocks al.data.toList S.start k) (r.extract 0 64).data.toList := by rw [hex]; rfl
            have cS := fun w => stepX_yes (S.blocks al.data.toList S.start k) (r.extract 0 64) l8 o8 hes w
            rw [← hB] at cS
            obtain ⟨a0', a1', a2', a3', a4', a5', a6', a7', ha⟩ := eight (S.blocks_length (p := al.data.toList) S.start_length (k + 1))
            obtain ⟨v0, v1, v2, v3, v4, v5, v6, v7, hv⟩ := eight l8
            rw [hv, ha] at cS
            rw [hv] at rv
            have HB2 : Hid (S.blocks al.data.toList S.start (k + 1) = [a0', a1', a2', a3', a4', a5', a6', a7']) := ha
            have CS : Hid (∀ w, Calls Try.prog 11 #[.agg (row8 v0 v1 v2 v3 v4 v5 v6 v7).toArray, .string (r.extract 0 64)] w fun e w' => e = .returned (.tuple #[.agg (row8 a0' a1' a2' a3' a4' a5' a6' a7').toArray, .int .i64 0]) ∧ Below w.heap.size w w') := cS
            have hr1 : (64 : Int) ≤ (r.size : Int) := by rw [HRS.out]; omega
            have hrx : (r.extract 64 r.size).data.toList = al.data.toList.drop (64 * (k + 1)) := by
              rw [ByteArray.data_extract]
              simp only [Array.toList_extract, List.extract_eq_take_drop]
              rw [List.take_of_length_le (by rw [List.length_drop, ← size_of]; exact Nat.le_refl _), HRD.out, List.drop_drop]
              congr 1
            have HRX := Lib.hid hrx
            have hrz : (r.extract 64 r.size).size = 64 * (N - (k + 1)) := by rw [ByteArray.size_extract, HRS.out]; omega
            have HRZ : Hid ((r.extract 64 r.size).size = 64 * (N - (k + 1))) := hrz
            have hne1 : r.toList.isEmpty = false := by
              rw [ByteArray.toList_eq]
              cases hl : r.data.toList with
              | nil => exfalso; have : r.size = 0 := by { rw [size_of, hl]; rfl }; omega
              | cons _ _ => rfl
            rw [row8_of] at rv
            have hh8 : (Try.prog.info? 23).map (·.size) = some (row8 v0 v1 v2 v3 v4 v5 v6 v7).toArray.size := info8 [v0, v1, v2, v3, v4, v5, v6, v7] rfl
            have ha8 : (Try.prog.info? 23).map (·.size) = some (row8 a0' a1' a2' a3' a4' a5' a6' a7').toArray.size := info8 [a0', a1', a2', a3', a4', a5', a6', a7'] rfl
            have hms : r.size - 64 < r.size := by omega
            clear l8 o8 hex hes hB cS ha hv hrx hrz
            go_wp2
            refine wp_region_any (by kernel_rfl) ?_
            change wpAny _ _ _ _ _ _ _ (World.drew _)
            refine wpAny_take (i := 1) (v := .string r) rfl (by kernel_rfl) (by kernel_rfl) (by kernel_rfl) (fun _ _ _ h => h) (Or.inl ⟨by rfl, fun wx => by go_simp⟩) ?_
            refine wpAny_take (i := 2) (v := .string (r.extract 0 64)) rfl (by kernel_rfl) (by kernel_rfl) (by kernel_rfl) (fun _ _ _ h => h) (Or.inl ⟨by rfl, fun wx => by go_simp⟩) ?_
            refine wpAny_ready (rs := [0, 7]) (by kernel_rfl) (by simp) ?_
            refine AllReady.cons rfl (fun K hK => ?_) ?_
            · refine step_load_row rfl 23 (.tmp 8) rfl (gx + 1) rfl _ _ _ (show Row _ _ _ _ from rv) Try.underlying23 rfl hh8 ?_
              refine hK _ _ ?_
              clear hK K
              refine wpAny_ready (rs := [3, 7]) (by kernel_rfl) (by simp) ?_
              refine AllReady.cons rfl (fun K hK => ?_) ?_
              · go_simp
                refine (CS.out _).mono ?_
                rintro e w3 ⟨rfl, b3⟩
                have p3 := Row.under b3 rv.lt (show Row _ (gx + 1) _ _ from rv)
                have hb3 : Below w.heap.size w w3 := (hbl.drew).trans (b3.mono hbl.size)
                clear b3
                show K _ _
                refine hK _ _ ?_
                clear hK K
                refine wpAny_take (i := 4) (v := .tuple #[.agg (row8 a0' a1' a2' a3' a4' a5' a6' a7').toArray, .int .i64 0]) rfl (by kernel_rfl) (by kernel_rfl) (by kernel_rfl) (fun _ _ _ h => h) (Or.inl ⟨by rfl, fun wx => by go_simp⟩) ?_
                refine wpAny_take (i := 5) (v := .agg (row8 a0' a1' a2' a3' a4' a5' a6' a7').toArray) rfl (by kernel_rfl) (by kernel_rfl) (by kernel_rfl) (fun _ _ _ h => h) (Or.inl ⟨by rfl, fun wx => by go_simp⟩) ?_
                refine wpAny_take (i := 6) (v := .int .i64 0) rfl (by kernel_rfl) (by kernel_rfl) (by kernel_rfl) (fun _ _ _ h => h) (Or.inl ⟨by rfl, fun wx => by go_simp⟩) ?_
                refine wpAny_ready (rs := [7]) (by kernel_rfl) (by simp) ?_
                refine AllReady.cons rfl (fun K hK => ?_) AllReady.nil
                go_simp
                show K _ _
                refine hK _ _ ?_
                clear hK K
                have z3 := p3.lt
                have y3 := hb3.size
                have rn : Row (w3.alloc (.cells (row8 0 0 0 0 0 0 0 0).toArray 23 (0, 0))) w3.heap.size 23 (row8 0 0 0 0 0 0 0 0) := Row.new' rfl rfl
                have rw3 := p3.alloc (.cells (row8 0 0 0 0 0 0 0 0).toArray 23 (0, 0))
                have hbW := hb3.alloc hb3.size (.cells (row8 0 0 0 0 0 0 0 0).toArray 23 (0, 0))
                refine wpAny_ready (rs := [8]) (by kernel_rfl) (by simp) ?_
                refine AllReady.cons rfl (fun K hK => ?_) AllReady.nil
                refine step_store_row rfl 23 (.tmp 11) (.tmp 98) rfl w3.heap.size (row8 a0' a1' a2' a3' a4' a5' a6' a7') rfl rfl _ _ rn ha8 rfl (u32s_one [a0', a1', a2', a3', a4', a5', a6', a7']) ?_
                refine hK _ _ ?_
                clear hK K
                refine wpAny_take (i := 9) (v := .int .i64 0) rfl (by kernel_rfl) (by kernel_rfl) (by kernel_rfl) (fun _ _ _ h => h) (Or.inl ⟨by rfl, fun wx => by go_simp⟩) ?_
                refine wpAny_done (by kernel_rfl) ?_ _
                have rn' := rn.setRow (row8 a0' a1' a2' a3' a4' a5' a6' a7')
                have rv' := rw3.setRow_other (k := w3.heap.size) (by omega) (row8 a0' a1' a2' a3' a4' a5' a6' a7').toArray
                have hb' := below_row hbW (g := w3.heap.size) (by omega) (row8 a0' a1' a2' a3' a4' a5' a6' a7').toArray
                clear rn rw3 hbW
                obtain ⟨gn, hgn⟩ : ∃ gn, gn = w3.heap.size := ⟨_, rfl⟩
                rw [← hgn] at rn' rv' hb' ⊢
                clear hgn
                go_wp2_with (first | refine wpList_load_row rfl 23 (.tmp 11) rfl gn rfl _ _ _ _ rn' Try.underlying23 rfl ha8 ?_ | refine wpList_store_row rfl 23 (.tmp 8) (.tmp 100) rfl (gx + 1) (row8 a0' a1' a2' a3' a4' a5' a6' a7').toArray rfl rfl _ _ rv' ha8 rfl (u32s_one [a0', a1', a2', a3', a4', a5', a6', a7']) ?_)
                go_roundw
                case rel => refine ⟨_, _, _, _, _, _, _, _, _, _, _, _, _, _, _, _, _, _, ?_, rfl⟩; exact ⟨k + 1, _, by omega, by omega, rfl, HRZ, HRX, by rw [HB2.out]; exact rv'.setRow (row8 a0' a1' a2' a3' a4' a5' a6' a7'), below_row hb' (by omega) _⟩
                case measure => simp [strLen]; omega
              · refine AllReady.cons rfl (fun K hK => ?_) AllReady.nil
                go_simp
                show K _ _
                refine hK _ _ ?_
                clear hK K
                refine wpAny_ready (rs := [3]) (by kernel_rfl) (by simp) ?_
                refine AllReady.cons rfl (fun K hK => ?_) AllReady.nil
                go_simp
                refine (CS.out _).mono ?_
                rintro e w3 ⟨rfl, b3⟩
                have z3 := rv.lt
                have y3 := hbl.size
                have zz : ((wr.alloc (.cells (row8 0 0 0 0 0 0 0 0).toArray 23 (0, 0))).drew).heap.size = wr.heap.size + 1 := by show (wr.heap.push _).size = _; simp
                have rn0 : Row ((wr.alloc (.cells (row8 0 0 0 0 0 0 0 0).toArray 23 (0, 0))).drew) wr.heap.size 23 (row8 0 0 0 0 0 0 0 0) := Row.new' (w := wr) rfl rfl
                have rn : Row w3 wr.heap.size 23 (row8 0 0 0 0 0 0 0 0) := rn0.below b3 (by show _ < ((wr.alloc (.cells (row8 0 0 0 0 0 0 0 0).toArray 23 (0, 0))).drew).heap.size; omega)
                have rw3 : Row w3 (gx + 1) 23 (row8 v0 v1 v2 v3 v4 v5 v6 v7) := (rv.alloc (.cells (row8 0 0 0 0 0 0 0 0).toArray 23 (0, 0))).drew.below b3 (by show _ < ((wr.alloc (.cells (row8 0 0 0 0 0 0 0 0).toArray 23 (0, 0))).drew).heap.size; omega)
                have hbW : Below w.heap.size w w3 := ((hbl.alloc hbl.size (.cells (row8 0 0 0 0 0 0 0 0).toArray 23 (0, 0))).drew).trans (b3.mono (by show _ ≤ ((wr.alloc (.cells (row8 0 0 0 0 0 0 0 0).toArray 23 (0, 0))).drew).heap.size; omega))
                clear b3
                show K _ _
                refine hK _ _ ?_
                clear hK K
                refine wpAny_take (i := 4) (v := .tuple #[.agg (row8 a0' a1' a2' a3' a4' a5' a6' a7').toArray, .int .i64 0]) rfl (by kernel_rfl) (by kernel_rfl) (by kernel_rfl) (fun _ _ _ h => h) (Or.inl ⟨by rfl, fun wx => by go_simp⟩) ?_
                refine wpAny_take (i := 5) (v := .agg (row8 a0' a1' a2' a3' a4' a5' a6' a7').toArray) rfl (by kernel_rfl) (by kernel_rfl) (by kernel_rfl) (fun _ _ _ h => h) (Or.inl ⟨by rfl, fun wx => by go_simp⟩) ?_
                refine wpAny_take (i := 6) (v := .int .i64 0) rfl (by kernel_rfl) (by kernel_rfl) (by kernel_rfl) (fun _ _ _ h => h) (Or.inl ⟨by rfl, fun wx => by go_simp⟩) ?_
                refine wpAny_ready (rs := [8]) (by kernel_rfl) (by simp) ?_
                refine AllReady.cons rfl (fun K hK => ?_) AllReady.nil
                refine step_store_row rfl 23 (.tmp 11) (.tmp 98) rfl wr.heap.size (row8 a0' a1' a2' a3' a4' a5' a6' a7') rfl rfl _ _ rn ha8 rfl (u32s_one [a0', a1', a2', a3', a4', a5', a6', a7']) ?_
                refine hK _ _ ?_
                clear hK K
                refine wpAny_take (i := 9) (v := .int .i64 0) rfl (by kernel_rfl) (by kernel_rfl) (by kernel_rfl) (fun _ _ _ h => h) (Or.inl ⟨by rfl, fun wx => by go_simp⟩) ?_
                refine wpAny_done (by kernel_rfl) ?_ _
                have rn' := rn.setRow (row8 a0' a1' a2' a3' a4' a5' a6' a7')
                have rv' := rw3.setRow_other (k := wr.heap.size) (by omega) (row8 a0' a1' a2' a3' a4' a5' a6' a7').toArray
                have hb' := below_row hbW (g := wr.heap.size) (by omega) (row8 a0' a1' a2' a3' a4' a5' a6' a7').toArray
                clear rn rw3 hbW
                obtain ⟨gn, hgn⟩ : ∃ gn, gn = wr.heap.size := ⟨_, rfl⟩
                rw [← hgn] at rn' rv' hb' ⊢
                clear hgn
                go_wp2_with (first | refine wpList_load_row rfl 23 (.tmp 11) rfl gn rfl _ _ _ _ rn' Try.underlying23 rfl ha8 ?_ | refine wpList_store_row rfl 23 (.tmp 8) (.tmp 100) rfl (gx + 1) (row8 a0' a1' a2' a3' a4' a5' a6' a7').toArray rfl rfl _ _ rv' ha8 rfl (u32s_one [a0', a1', a2', a3', a4', a5', a6', a7']) ?_)
                go_roundw
                case rel => refine ⟨_, _, _, _, _, _, _, _, _, _, _, _, _, _, _, _, _, _, ?_, rfl⟩; exact ⟨k + 1, _, by omega, by omega, rfl, HRZ, HRX, by rw [HB2.out]; exact rv'.setRow (row8 a0' a1' a2' a3' a4' a5' a6' a7'), below_row hb' (by omega) _⟩
                case measure => simp [strLen]; omega
            · refine AllReady.cons rfl (fun K hK => ?_) AllReady.nil
              go_simp
              show K _ _
              refine hK _ _ ?_
              clear hK K
              refine wpAny_ready (rs := [0]) (by kernel_rfl) (by simp) ?_
              refine AllReady.cons rfl (fun K hK => ?_) AllReady.nil
              refine step_load_row rfl 23 (.tmp 8) rfl (gx + 1) rfl _ _ _ (show Row _ (gx + 1) _ _ from rv.alloc (.cells (row8 0 0 0 0 0 0 0 0).toArray 23 (0, 0))) Try.underlying23 rfl hh8 ?_
              refine hK _ _ ?_
              clear hK K
              refine wpAny_ready (rs := [3]) (by kernel_rfl) (by simp) ?_
              refine AllReady.cons rfl (fun K hK => ?_) AllReady.nil
              go_simp
              refine (CS.out _).mono ?_
              rintro e w3 ⟨rfl, b3⟩
              have z3 := rv.lt
              have y3 := hbl.size
              have zz : ((wr.alloc (.cells (row8 0 0 0 0 0 0 0 0).toArray 23 (0, 0))).drew).heap.size = wr.heap.size + 1 := by show (wr.heap.push _).size = _; simp
              have rn0 : Row ((wr.alloc (.cells (row8 0 0 0 0 0 0 0 0).toArray 23 (0, 0))).drew) wr.heap.size 23 (row8 0 0 0 0 0 0 0 0) := Row.new' (w := wr) rfl rfl
              have rn : Row w3 wr.heap.size 23 (row8 0 0 0 0 0 0 0 0) := rn0.below b3 (by show _ < ((wr.alloc (.cells (row8 0 0 0 0 0 0 0 0).toArray 23 (0, 0))).drew).heap.size; omega)
              have rw3 : Row w3 (gx + 1) 23 (row8 v0 v1 v2 v3 v4 v5 v6 v7) := (rv.alloc (.cells (row8 0 0 0 0 0 0 0 0).toArray 23 (0, 0))).drew.below b3 (by show _ < ((wr.alloc (.cells (row8 0 0 0 0 0 0 0 0).toArray 23 (0, 0))).drew).heap.size; omega)
              have hbW : Below w.heap.size w w3 := ((hbl.alloc hbl.size (.cells (row8 0 0 0 0 0 0 0 0).toArray 23 (0, 0))).drew).trans (b3.mono (by show _ ≤ ((wr.alloc (.cells (row8 0 0 0 0 0 0 0 0).toArray 23 (0, 0))).drew).heap.size; omega))
              clear b3
              show K _ _
              refine hK _ _ ?_
              clear hK K
              refine wpAny_take (i := 4) (v := .tuple #[.agg (row8 a0' a1' a2' a3' a4' a5' a6' a7').toArray, .int .i64 0]) rfl (by kernel_rfl) (by kernel_rfl) (by kernel_rfl) (fun _ _ _ h => h) (Or.inl ⟨by rfl, fun wx => by go_simp⟩) ?_
              refine wpAny_take (i := 5) (v := .agg (row8 a0' a1' a2' a3' a4' a5' a6' a7').toArray) rfl (by kernel_rfl) (by kernel_rfl) (by kernel_rfl) (fun _ _ _ h => h) (Or.inl ⟨by rfl, fun wx => by go_simp⟩) ?_
              refine wpAny_take (i := 6) (v := .int .i64 0) rfl (by kernel_rfl) (by kernel_rfl) (by kernel_rfl) (fun _ _ _ h => h) (Or.inl ⟨by rfl, fun wx => by go_simp⟩) ?_
              refine wpAny_ready (rs := [8]) (by kernel_rfl) (by simp) ?_
              refine AllReady.cons rfl (fun K hK => ?_) AllReady.nil
              refine step_store_row rfl 23 (.tmp 11) (.tmp 98) rfl wr.heap.size (row8 a0' a1' a2' a3' a4' a5' a6' a7') rfl rfl _ _ rn ha8 rfl (u32s_one [a0', a1', a2', a3', a4', a5', a6', a7']) ?_
              refine hK _ _ ?_
              clear hK K
              refine wpAny_take (i := 9) (v := .int .i64 0) rfl (by kernel_rfl) (by kernel_rfl) (by kernel_rfl) (fun _ _ _ h => h) (Or.inl ⟨by rfl, fun wx => by go_simp⟩) ?_
              refine wpAny_done (by kernel_rfl) ?_ _
              have rn' := rn.setRow (row8 a0' a1' a2' a3' a4' a5' a6' a7')
              have rv' := rw3.setRow_other (k := wr.heap.size) (by omega) (row8 a0' a1' a2' a3' a4' a5' a6' a7').toArray
              have hb' := below_row hbW (g := wr.heap.size) (by omega) (row8 a0' a1' a2' a3' a4' a5' a6' a7').toArray
              clear rn rw3 hbW
              obtain ⟨gn, hgn⟩ : ∃ gn, gn = wr.heap.size := ⟨_, rfl⟩
              rw [← hgn] at rn' rv' hb' ⊢
              clear hgn
              go_wp2_with (first | refine wpList_load_row rfl 23 (.tmp 11) rfl gn rfl _ _ _ _ rn' Try.underlying23 rfl ha8 ?_ | refine wpList_store_row rfl 23 (.tmp 8) (.tmp 100) rfl (gx + 1) (row8 a0' a1' a2' a3' a4' a5' a6' a7').toArray rfl rfl _ _ rv' ha8 rfl (u32s_one [a0', a1', a2', a3', a4', a5', a6', a7']) ?_)
              go_roundw
              case rel => refine ⟨_, _, _, _, _, _, _, _, _, _, _, _, _, _, _, _, _, _, ?_, rfl⟩; exact ⟨k + 1, _, by omega, by omega, rfl, HRZ, HRX, by rw [HB2.out]; exact rv'.setRow (row8 a0' a1' a2' a3' a4' a5' a6' a7'), below_row hb' (by omega) _⟩
              case measure => simp [strLen]; omega
          · obtain rfl : k = N := by omega
            have hem : r.toList.isEmpty = true := by rw [ByteArray.toList_eq, List.isEmpty_iff]; exact List.eq_nil_of_length_eq_zero (by rw [← size_of, HRS.out]; omega)
            have hMb : f.size = 64 * M := HM.out
            go_wp2_with fail
            refine (sum_any _ [f, a1] _ (isStrs_at' _ _ [f, a1] _ rfl 2 rfl _ (by simp)) (by simp) (by rw [all_two, List.length_append, ← size_of, ← size_of]; omega)).mono ?_
            rintro e w7 ⟨rfl, b7⟩
            rw [all_two]
            have hb7 := below_step (hbl.alloc hbl.size _) b7
            have rv7 := (rv.alloc _).below b7 (rv.alloc _).lt
            rw [HWA.out] at rv7
            clear hbl b7 rv
            obtain ⟨q, hq⟩ : ∃ q, q = S.wordsOf (f.data.toList ++ a1.data.toList) := ⟨_, rfl⟩
            have q8 : q.length = 8 := by rw [hq]; exact S.wordsOf_length _
            have oq : S.Ok q := by rw [hq]; exact S.wordsOf_ok _
            obtain ⟨y, hy⟩ : ∃ y, y = S.sumL (f.data.toList ++ a1.data.toList) := ⟨_, rfl⟩
            have hyq : y = S.bytesOf q := by rw [hy, hq]; rfl
            have hyl : y.length = 32 := by rw [hy]; exact S.sumL_length _
            have hiy : (Try.prog.info? 37).map (·.size) = some (W.cellsOf y).toArray.size := by rw [List.size_toArray, cellsOf_len, hyl]; kernel_rfl
            rw [← hq] at rv7
            rw [← hy]
            have HYL := Lib.hid hyl
            have HYQ := Lib.hid hyq
            have HQ8 := Lib.hid q8
            clear hq hy hyl hyq q8
            obtain ⟨gy, hgy⟩ : ∃ gy, gy = w7.heap.size := ⟨_, rfl⟩
            have ry0 : Row (w7.alloc (.cells (W.cellsOf y).toArray 37 (0, 0))) gy 37 (W.cellsOf y) := Row.new' rfl hgy
            have rv0 := rv7.alloc (.cells (W.cellsOf y).toArray 37 (0, 0))
            have by0 := hb7.alloc hb7.size (.cells (W.cellsOf y).toArray 37 (0, 0))
            go_wp2_with (first | (refine wpList_store_row rfl 37 (.tmp 13) (.tmp 106) rfl w7.heap.size _ rfl rfl _ _ (Row.new' (l := W.cellsOf (List.replicate 32 0)) rfl rfl) hiy (by simp [cellsOf_len, HYL.out]) (cellsOf_all _) ?_; rw [setRow_last]) | fail)
            rw [← hgy]
            clear hgy hb7 rv7
            go_loopw [14, 107] (fun _ iv wx => ∃ i : Nat, i ≤ 8 ∧ iv = .int .i64 i ∧ Row wx gy 37 (W.cellsOf y) ∧ Row wx (gx + 1) 23 (u32s q) ∧ Below w.heap.size w wx) (fun _ iv _ => 8 - (intOf iv).toNat)
            case atStart => exact ⟨0, Nat.zero_le _, rfl, ry0, rv0, by0⟩
            case round =>
              clear ry0 rv0 by0
              obtain ⟨i, hi8, rfl, ry, rv, hbl⟩ := hrel
              by_cases hlt : i < 8
              · obtain ⟨c0, g0⟩ : ∃ c, y[4 * i]? = some c := ⟨_, List.getElem?_eq_getElem (by rw [HYL.out]; omega)⟩
                obtain ⟨c1, g1⟩ : ∃ c, y[4 * i + 1]? = some c := ⟨_, List.getElem?_eq_getElem (by rw [HYL.out]; omega)⟩
                obtain ⟨c2, g2⟩ : ∃ c, y[4 * i + 2]? = some c := ⟨_, List.getElem?_eq_getElem (by rw [HYL.out]; omega)⟩
                obtain ⟨c3, g3⟩ : ∃ c, y[4 * i + 3]? = some c := ⟨_, List.getElem?_eq_getElem (by rw [HYL.out]; omega)⟩
                have HW := Lib.hid <| S.or_word q HQ8.out oq i hlt c0 c1 c2 c3 (by rw [← HYQ.out]; exact g0) (by rw [← HYQ.out]; exact g1) (by rw [← HYQ.out]; exact g2) (by rw [← HYQ.out]; exact g3)
                obtain ⟨n0, e0⟩ : ∃ n, n = 4 * i := ⟨_, rfl⟩
                obtain ⟨n1, e1⟩ : ∃ n, n = 4 * i + 1 := ⟨_, rfl⟩
                obtain ⟨n2, e2⟩ : ∃ n, n = 4 * i + 2 := ⟨_, rfl⟩
                obtain ⟨n3, e3⟩ : ∃ n, n = 4 * i + 3 := ⟨_, rfl⟩
                rw [← e0] at g0
                rw [← e1] at g1
                rw [← e2] at g2
                rw [← e3] at g3
                have x0 : wr.cell? ⟨gy, n0, none⟩ = some (.int .u8 (c0.toNat : Int)) := by rw [ry.cell]; simp [W.cellsOf, g0]
                have x1 : wr.cell? ⟨gy, n1, none⟩ = some (.int .u8 (c1.toNat : Int)) := by rw [ry.cell]; simp [W.cellsOf, g1]
                have x2 : wr.cell? ⟨gy, n2, none⟩ = some (.int .u8 (c2.toNat : Int)) := by rw [ry.cell]; simp [W.cellsOf, g2]
                have x3 : wr.cell? ⟨gy, n3, none⟩ = some (.int .u8 (c3.toNat : Int)) := by rw [ry.cell]; simp [W.cellsOf, g3]
                have xv := (rv.cell i).trans (u32s_at (by rw [HQ8.out]; exact hlt))
                generalize q.getD i 0 = vv at xv HW
                have l0 := c0.toNat_lt
                have l1 := c1.toNat_lt
                have l2 := c2.toNat_lt
                have l3 := c3.toNat_lt
                have m0 : 4 * (i : Int) = (n0 : Int) := by omega
                have m1 : (n0 : Int) + 1 = (n1 : Int) := by omega
                have m2 : (n0 : Int) + 2 = (n2 : Int) := by omega
                have m3 : (n0 : Int) + 3 = (n3 : Int) := by omega
                have k0 : IntKind.i64.wrap (n0 : Int) = (n0 : Int) := by rw [IntKind.wrap_i64]; omega
                have k1 : IntKind.i64.wrap (n1 : Int) = (n1 : Int) := by rw [IntKind.wrap_i64]; omega
                have k2 : IntKind.i64.wrap (n2 : Int) = (n2 : Int) := by rw [IntKind.wrap_i64]; omega
                have k3 : IntKind.i64.wrap (n3 : Int) = (n3 : Int) := by rw [IntKind.wrap_i64]; omega
                have u0 : (n0 : Int) < 32 := by omega
                have u1 : (n1 : Int) < 32 := by omega
                have u2 : (n2 : Int) < 32 := by omega
                have u3 : (n3 : Int) < 32 := by omega
                have ui : (i : Int) < 8 := by omega
                clear e0 e1 e2 e3 g0 g1 g2 g3
                obtain ⟨o1, ho1⟩ : ∃ o, bits .or .u32 ((c0.toNat : Int) * 16777216) ((c1.toNat : Int) * 65536) = o := ⟨_, rfl⟩
                obtain ⟨o2, ho2⟩ : ∃ o, bits .or .u32 o1 ((c2.toNat : Int) * 256) = o := ⟨_, rfl⟩
                have ho3 : bits .or .u32 o2 (c3.toNat : Int) = (vv : Int) := by rw [← ho2, ← ho1]; exact HW.out
                clear HW
                have wq0 : IntKind.u32.wrap (c0.toNat : Int) = (c0.toNat : Int) := by rw [IntKind.wrap_u32]; omega
                have wq1 : IntKind.u32.wrap (c1.toNat : Int) = (c1.toNat : Int) := by rw [IntKind.wrap_u32]; omega
                have wq2 : IntKind.u32.wrap (c2.toNat : Int) = (c2.toNat : Int) := by rw [IntKind.wrap_u32]; omega
                have wq3 : IntKind.u32.wrap (c3.toNat : Int) = (c3.toNat : Int) := by rw [IntKind.wrap_u32]; omega
                have ws0 : IntKind.u32.wrap ((c0.toNat : Int) * 16777216) = (c0.toNat : Int) * 16777216 := by rw [IntKind.wrap_u32]; omega
                have ws1 : IntKind.u32.wrap ((c1.toNat : Int) * 65536) = (c1.toNat : Int) * 65536 := by rw [IntKind.wrap_u32]; omega
                have ws2 : IntKind.u32.wrap ((c2.toNat : Int) * 256) = (c2.toNat : Int) * 256 := by rw [IntKind.wrap_u32]; omega
                go_wp2_with fail
                refine wp_region_held_drew (S := fun w' => w'.cell? ⟨gx + 1, i, none⟩ = some (.int .u32 (vv : Int)) ∧ w'.cell? ⟨gy, n0, none⟩ = some (.int .u8 (c0.toNat : Int)) ∧ w'.cell? ⟨gy, n1, none⟩ = some (.int .u8 (c1.toNat : Int)) ∧ w'.cell? ⟨gy, n2, none⟩ = some (.int .u8 (c2.toNat : Int)) ∧ w'.cell? ⟨gy, n3, none⟩ = some (.int .u8 (c3.toNat : Int))) (by kernel_rfl) ⟨xv, x0, x1, x2, x3⟩ (fun hHeld => ?_)
                refine take_d 0 (some 110) (.int .i64 (i : Int)) rfl (by kernel_rfl) (by kernel_rfl) (by kernel_rfl) (fun _ _ _ h => h) (fun oi h => by cases h; exact Or.inl ⟨by rfl, fun w' hS' => by go_simp⟩) hHeld ?_
                try simp only [Act.put, List.setIfInBounds_toArray, List.set_cons_zero, List.set_cons_succ]
                refine take_d 1 (some 111) (.pointer (some ⟨gx + 1, i, none⟩)) rfl (by kernel_rfl) (by kernel_rfl) (by kernel_rfl) (fun _ _ _ h => h) (fun oi h => by cases h; exact Or.inl ⟨by rfl, fun w' hS' => by go_simp⟩) hHeld ?_
                try simp only [Act.put, List.setIfInBounds_toArray, List.set_cons_zero, List.set_cons_succ]
                refine take_d 2 (some 112) (.int .u32 (vv : Int)) rfl (by kernel_rfl) (by kernel_rfl) (by kernel_rfl) (fun _ _ _ h => h) (fun oi h => by cases h; exact Or.inl ⟨by rfl, fun w' hS' => by have c := hS'.1; go_simp⟩) hHeld ?_
                try simp only [Act.put, List.setIfInBounds_toArray, List.set_cons_zero, List.set_cons_succ]
                refine take_d 3 (some 113) (.int .i64 (i : Int)) rfl (by kernel_rfl) (by kernel_rfl) (by kernel_rfl) (fun _ _ _ h => h) (fun oi h => by cases h; exact Or.inl ⟨by rfl, fun w' hS' => by go_simp⟩) hHeld ?_
                try simp only [Act.put, List.setIfInBounds_toArray, List.set_cons_zero, List.set_cons_succ]
                refine take_d 4 (some 114) (.int .i64 (n0 : Int)) rfl (by kernel_rfl) (by kernel_rfl) (by kernel_rfl) (fun _ _ _ h => h) (fun oi h => by cases h; exact Or.inl ⟨by rfl, fun w' hS' => by go_simp⟩) hHeld ?_
                try simp only [Act.put, List.setIfInBounds_toArray, List.set_cons_zero, List.set_cons_succ]
                refine take_d 5 (some 115) (.pointer (some ⟨gy, n0, none⟩)) rfl (by kernel_rfl) (by kernel_rfl) (by kernel_rfl) (fun _ _ _ h => h) (fun oi h => by cases h; exact Or.inl ⟨by rfl, fun w' hS' => by go_simp⟩) hHeld ?_
                try simp only [Act.put, List.setIfInBounds_toArray, List.set_cons_zero, List.set_cons_succ]
                refine take_d 6 (some 116) (.int .u8 (c0.toNat : Int)) rfl (by kernel_rfl) (by kernel_rfl) (by kernel_rfl) (fun _ _ _ h => h) (fun oi h => by cases h; exact Or.inl ⟨by rfl, fun w' hS' => by have c := hS'.2.1; go_simp⟩) hHeld ?_
                try simp only [Act.put, List.setIfInBounds_toArray, List.set_cons_zero, List.set_cons_succ]
                refine take_d 7 (some 117) (.int .u32 (c0.toNat : Int)) rfl (by kernel_rfl) (by kernel_rfl) (by kernel_rfl) (fun _ _ _ h => h) (fun oi h => by cases h; exact Or.inl ⟨by rfl, fun w' hS' => by go_simp⟩) hHeld ?_
                try simp only [Act.put, List.setIfInBounds_toArray, List.set_cons_zero, List.set_cons_succ]
                refine take_d 8 (some 118) (.int .u32 ((c0.toNat : Int) * 16777216)) rfl (by kernel_rfl) (by kernel_rfl) (by kernel_rfl) (fun _ _ _ h => h) (fun oi h => by cases h; exact Or.inl ⟨by rfl, fun w' hS' => by go_simp⟩) hHeld ?_
                try simp only [Act.put, List.setIfInBounds_toArray, List.set_cons_zero, List.set_cons_succ]
                refine take_d 9 (some 119) (.int .i64 (i : Int)) rfl (by kernel_rfl) (by kernel_rfl) (by kernel_rfl) (fun _ _ _ h => h) (fun oi h => by cases h; exact Or.inl ⟨by rfl, fun w' hS' => by go_simp⟩) hHeld ?_
                try simp only [Act.put, List.setIfInBounds_toArray, List.set_cons_zero, List.set_cons_succ]
                refine take_d 10 (some 120) (.int .i64 (n0 : Int)) rfl (by kernel_rfl) (by kernel_rfl) (by kernel_rfl) (fun _ _ _ h => h) (fun oi h => by cases h; exact Or.inl ⟨by rfl, fun w' hS' => by go_simp⟩) hHeld ?_
                try simp only [Act.put, List.setIfInBounds_toArray, List.set_cons_zero, List.set_cons_succ]
                refine take_d 11 (some 121) (.int .i64 (n1 : Int)) rfl (by kernel_rfl) (by kernel_rfl) (by kernel_rfl) (fun _ _ _ h => h) (fun oi h => by cases h; exact Or.inl ⟨by rfl, fun w' hS' => by go_simp⟩) hHeld ?_
                try simp only [Act.put, List.setIfInBounds_toArray, List.set_cons_zero, List.set_cons_succ]
                refine take_d 12 (some 122) (.pointer (some ⟨gy, n1, none⟩)) rfl (by kernel_rfl) (by kernel_rfl) (by kernel_rfl) (fun _ _ _ h => h) (fun oi h => by cases h; exact Or.inl ⟨by rfl, fun w' hS' => by go_simp⟩) hHeld ?_
                try simp only [Act.put, List.setIfInBounds_toArray, List.set_cons_zero, List.set_cons_succ]
                refine take_d 13 (some 123) (.int .u8 (c1.toNat : Int)) rfl (by kernel_rfl) (by kernel_rfl) (by kernel_rfl) (fun _ _ _ h => h) (fun oi h => by cases h; exact Or.inl ⟨by rfl, fun w' hS' => by have c := hS'.2.2.1; go_simp⟩) hHeld ?_
                try simp only [Act.put, List.setIfInBounds_toArray, List.set_cons_zero, List.set_cons_succ]
                refine take_d 14 (some 124) (.int .u32 (c1.toNat : Int)) rfl (by kernel_rfl) (by kernel_rfl) (by kernel_rfl) (fun _ _ _ h => h) (fun oi h => by cases h; exact Or.inl ⟨by rfl, fun w' hS' => by go_simp⟩) hHeld ?_
                try simp only [Act.put, List.setIfInBounds_toArray, List.set_cons_zero, List.set_cons_succ]
                refine take_d 15 (some 125) (.int .u32 ((c1.toNat : Int) * 65536)) rfl (by kernel_rfl) (by kernel_rfl) (by kernel_rfl) (fun _ _ _ h => h) (fun oi h => by cases h; exact Or.inl ⟨by rfl, fun w' hS' => by go_simp⟩) hHeld ?_
                try simp only [Act.put, List.setIfInBounds_toArray, List.set_cons_zero, List.set_cons_succ]
                refine take_d 16 (some 126) (.int .u32 o1) rfl (by kernel_rfl) (by kernel_rfl) (by kernel_rfl) (fun _ _ _ h => h) (fun oi h => by cases h; exact Or.inl ⟨by rfl, fun w' hS' => by go_simp⟩) hHeld ?_
                try simp only [Act.put, List.setIfInBounds_toArray, List.set_cons_zero, List.set_cons_succ]
                refine take_d 17 (some 127) (.int .i64 (i : Int)) rfl (by kernel_rfl) (by kernel_rfl) (by kernel_rfl) (fun _ _ _ h => h) (fun oi h => by cases h; exact Or.inl ⟨by rfl, fun w' hS' => by go_simp⟩) hHeld ?_
                try simp only [Act.put, List.setIfInBounds_toArray, List.set_cons_zero, List.set_cons_succ]
                refine take_d 18 (some 128) (.int .i64 (n0 : Int)) rfl (by kernel_rfl) (by kernel_rfl) (by kernel_rfl) (fun _ _ _ h => h) (fun oi h => by cases h; exact Or.inl ⟨by rfl, fun w' hS' => by go_simp⟩) hHeld ?_
                try simp only [Act.put, List.setIfInBounds_toArray, List.set_cons_zero, List.set_cons_succ]
                refine take_d 19 (some 129) (.int .i64 (n2 : Int)) rfl (by kernel_rfl) (by kernel_rfl) (by kernel_rfl) (fun _ _ _ h => h) (fun oi h => by cases h; exact Or.inl ⟨by rfl, fun w' hS' => by go_simp⟩) hHeld ?_
                try simp only [Act.put, List.setIfInBounds_toArray, List.set_cons_zero, List.set_cons_succ]
                refine take_d 20 (some 130) (.pointer (some ⟨gy, n2, none⟩)) rfl (by kernel_rfl) (by kernel_rfl) (by kernel_rfl) (fun _ _ _ h => h) (fun oi h => by cases h; exact Or.inl ⟨by rfl, fun w' hS' => by go_simp⟩) hHeld ?_
                try simp only [Act.put, List.setIfInBounds_toArray, List.set_cons_zero, List.set_cons_succ]
                refine take_d 21 (some 131) (.int .u8 (c2.toNat : Int)) rfl (by kernel_rfl) (by kernel_rfl) (by kernel_rfl) (fun _ _ _ h => h) (fun oi h => by cases h; exact Or.inl ⟨by rfl, fun w' hS' => by have c := hS'.2.2.2.1; go_simp⟩) hHeld ?_
                try simp only [Act.put, List.setIfInBounds_toArray, List.set_cons_zero, List.set_cons_succ]
                refine take_d 22 (some 132) (.int .u32 (c2.toNat : Int)) rfl (by kernel_rfl) (by kernel_rfl) (by kernel_rfl) (fun _ _ _ h => h) (fun oi h => by cases h; exact Or.inl ⟨by rfl, fun w' hS' => by go_simp⟩) hHeld ?_
                try simp only [Act.put, List.setIfInBounds_toArray, List.set_cons_zero, List.set_cons_succ]
                refine take_d 23 (some 133) (.int .u32 ((c2.toNat : Int) * 256)) rfl (by kernel_rfl) (by kernel_rfl) (by kernel_rfl) (fun _ _ _ h => h) (fun oi h => by cases h; exact Or.inl ⟨by rfl, fun w' hS' => by go_simp⟩) hHeld ?_
                try simp only [Act.put, List.setIfInBounds_toArray, List.set_cons_zero, List.set_cons_succ]
                refine take_d 24 (some 134) (.int .u32 o2) rfl (by kernel_rfl) (by kernel_rfl) (by kernel_rfl) (fun _ _ _ h => h) (fun oi h => by cases h; exact Or.inl ⟨by rfl, fun w' hS' => by go_simp⟩) hHeld ?_
                try simp only [Act.put, List.setIfInBounds_toArray, List.set_cons_zero, List.set_cons_succ]
                refine take_d 25 (some 135) (.int .i64 (i : Int)) rfl (by kernel_rfl) (by kernel_rfl) (by kernel_rfl) (fun _ _ _ h => h) (fun oi h => by cases h; exact Or.inl ⟨by rfl, fun w' hS' => by go_simp⟩) hHeld ?_
                try simp only [Act.put, List.setIfInBounds_toArray, List.set_cons_zero, List.set_cons_succ]
                refine take_d 26 (some 136) (.int .i64 (n0 : Int)) rfl (by kernel_rfl) (by kernel_rfl) (by kernel_rfl) (fun _ _ _ h => h) (fun oi h => by cases h; exact Or.inl ⟨by rfl, fun w' hS' => by go_simp⟩) hHeld ?_
                try simp only [Act.put, List.setIfInBounds_toArray, List.set_cons_zero, List.set_cons_succ]
                refine take_d 27 (some 137) (.int .i64 (n3 : Int)) rfl (by kernel_rfl) (by kernel_rfl) (by kernel_rfl) (fun _ _ _ h => h) (fun oi h => by cases h; exact Or.inl ⟨by rfl, fun w' hS' => by go_simp⟩) hHeld ?_
                try simp only [Act.put, List.setIfInBounds_toArray, List.set_cons_zero, List.set_cons_succ]
                refine take_d 28 (some 138) (.pointer (some ⟨gy, n3, none⟩)) rfl (by kernel_rfl) (by kernel_rfl) (by kernel_rfl) (fun _ _ _ h => h) (fun oi h => by cases h; exact Or.inl ⟨by rfl, fun w' hS' => by go_simp⟩) hHeld ?_
                try simp only [Act.put, List.setIfInBounds_toArray, List.set_cons_zero, List.set_cons_succ]
                refine take_d 29 (some 139) (.int .u8 (c3.toNat : Int)) rfl (by kernel_rfl) (by kernel_rfl) (by kernel_rfl) (fun _ _ _ h => h) (fun oi h => by cases h; exact Or.inl ⟨by rfl, fun w' hS' => by have c := hS'.2.2.2.2; go_simp⟩) hHeld ?_
                try simp only [Act.put, List.setIfInBounds_toArray, List.set_cons_zero, List.set_cons_succ]
                refine take_d 30 (some 140) (.int .u32 (c3.toNat : Int)) rfl (by kernel_rfl) (by kernel_rfl) (by kernel_rfl) (fun _ _ _ h => h) (fun oi h => by cases h; exact Or.inl ⟨by rfl, fun w' hS' => by go_simp⟩) hHeld ?_
                try simp only [Act.put, List.setIfInBounds_toArray, List.set_cons_zero, List.set_cons_succ]
                refine take_d 31 (some 141) (.int .u32 (vv : Int)) rfl (by kernel_rfl) (by kernel_rfl) (by kernel_rfl) (fun _ _ _ h => h) (fun oi h => by cases h; exact Or.inl ⟨by rfl, fun w' hS' => by go_simp⟩) hHeld ?_
                try simp only [Act.put, List.setIfInBounds_toArray, List.set_cons_zero, List.set_cons_succ]
                refine take_d 32 (some 142) (.bool false) rfl (by kernel_rfl) (by kernel_rfl) (by kernel_rfl) (fun _ _ _ h => h) (fun oi h => by cases h; exact Or.inl ⟨by rfl, fun w' hS' => by go_simp⟩) hHeld ?_
                try simp only [Act.put, List.setIfInBounds_toArray, List.set_cons_zero, List.set_cons_succ]
                clear hHeld
                refine wpAnyH_done (by kernel_rfl) ?_ _
                try simp only [Act.put]
                go_wp2
                go_roundw
                case rel => exact ⟨i + 1, by omega, by go_num, ry.drew, rv.drew, hbl.drew⟩
                case measure => simp [intOf]; omega
              · obtain rfl : i = 8 := by omega
                go_wp2
                go_ret
                exact ⟨rfl, hbl⟩
  · have hg : (300 : Int) < max (a0.size : Int) (a1.size : Int) := by omega
    go_wp2
    go_ret
    exact ⟨rfl, hb1⟩

theorem walk (a0 : ByteArray) (a1 : ByteArray) (w : World) (w0 : a0.size ≤ maxLen) (w1 : a1.size ≤ maxLen) :
    Calls Try.prog 4 #[.string a0, .string a1] w fun e w' => e = .returned (.bool true) ∧ Below w.heap.size w w' := core a0 a1 w w0 w1

end Go.Proofs.Ytfdodmfkjbmilaa.ShaExtendsW
