/-
  Layer 6: the document's Stream.
-/
import Derived.Test.YtpkehhbjagmodaaCPlain
import Derived.Test.YtpkehhbjagmodaaCTurn
import Derived.Test.YtpkehhbjagmodaaARefEnc
import Derived.Test.YtpkehhbjagmodaaRefPut
namespace Go.Proofs.Ytpkehhbjagmodaa
open Go.RowKit
set_option linter.unusedVariables false

theorem streamL_snoc (k : List UInt8) (m j c : Nat) (hc : c < 16) : C.streamL k m (16 * j + c + 1) = C.streamL k m (16 * j + c) ++ [(E.enc k (C.blk m j)).getD c 0] := by
  rw [← C.streamL_of k m (16 * j + c + 1) (j + 1) (by omega), ← C.streamL_of k m (16 * j + c) (j + 1) (by omega)]
  have hl : 16 * j + c < (C.str k m (j + 1)).length := by rw [C.str_length]; omega
  rw [List.take_succ_eq_append_getElem hl]
  congr 2
  have : (C.str k m j ++ E.enc k (C.blk m j))[16 * j + c]? = (E.enc k (C.blk m j))[c]? := by
    rw [List.getElem?_append_right (by rw [C.str_length]; omega), C.str_length, show 16 * j + c - 16 * j = c from by omega]
  rw [List.getD_eq_getElem?_getD, ← this]
  show (C.str k m (j + 1))[16 * j + c] = ((C.str k m (j + 1))[16 * j + c]?).getD 0
  rw [List.getElem?_eq_getElem hl]; rfl
theorem mkSize (l : List UInt8) : (⟨l.toArray⟩ : ByteArray).size = l.length := by simp [ByteArray.size]

set_option maxRecDepth 20000 in
set_option maxHeartbeats 4000000 in
theorem refStream_any (s : ByteArray) (hs : s.size = 16) (m n : Nat) (hm : m ≤ 18446744073709551615) (hn : n ≤ 100) (w : World) :
    Calls Try.prog 27 #[.string s, .int .u64 (m : Int), .int .i64 (n : Int)] w fun e w' => e = .returned (.string ⟨(C.streamL s.data.toList m n).toArray⟩) ∧ Below w.heap.size w w' := by
  have hk : s.data.toList.length = 16 := by simpa using hs
  have CW : Hid (∀ gb capb wx, gb < wx.heap.size → 256 ≤ capb → (∀ x : UInt8, wx.cell? ⟨gb, x.toNat, none⟩ = some (.int .u8 ((E.sub x).toNat : Int))) → Calls Try.prog 13 #[.string s, .slice (some ⟨gb, 0, none⟩) 256 capb] wx fun e w' => ∃ gw cap, e = .returned (.slice (some ⟨gw, 0, none⟩) 44 cap) ∧ wx.heap.size ≤ gw ∧ gw < w'.heap.size ∧ (∀ j, j < 176 → w'.cell? ⟨gw, j, none⟩ = some (.int .u8 (((E.rks s.data.toList 11).getD j 0).toNat : Int))) ∧ Below wx.heap.size wx w') := fun gb capb wx h1 h2 h3 => wordsC_any s hs gb capb wx h1 h2 h3
  have CBY : Hid (∀ b : List UInt8, b.length = 16 → ∀ gb capb gw capw wx, gb < wx.heap.size → gw < wx.heap.size → (∀ x : UInt8, wx.cell? ⟨gb, x.toNat, none⟩ = some (.int .u8 ((E.sub x).toNat : Int))) → (∀ j, j < 176 → wx.cell? ⟨gw, j, none⟩ = some (.int .u8 (((E.rks s.data.toList 11).getD j 0).toNat : Int))) → Calls Try.prog 36 #[.slice (some ⟨gb, 0, none⟩) 256 capb, .slice (some ⟨gw, 0, none⟩) 44 capw, .agg (W.cellsOf b).toArray] wx fun e w' => e = .returned (.agg (W.cellsOf (E.enc s.data.toList b)).toArray) ∧ Below wx.heap.size wx w') := fun b hb gb capb gw capw wx h1 h2 h3 h4 => by_any s.data.toList b hk hb gb capb gw capw wx h1 h2 h3 h4
  clear hs hk
  generalize s.data.toList = k at *
  go_enter Try.func27, Try.ntmps27
  go_wp2_with fail
  refine (refBoxC_any _).mono ?_
  rintro e w1 ⟨gb, capb, rfl, hg1, hg2, hcap, hbx, b1⟩
  have HBX1 := Lib.hid hbx
  clear hbx
  go_wp2_with fail
  refine (CW.out gb capb _ hg2 hcap HBX1.out).mono ?_
  rintro e w2 ⟨gw, capw, rfl, hg3, hg4, hkw, b2⟩
  have hw2 : Below w.heap.size w w2 := b1.trans (b2.mono b1.size)
  have HBX : Hid (∀ wx, Below w2.heap.size w2 wx → ∀ x : UInt8, wx.cell? ⟨gb, x.toNat, none⟩ = some (.int .u8 ((E.sub x).toNat : Int))) := fun wx h x => by rw [h.cell (p := ⟨gb, _, none⟩) (Nat.lt_of_lt_of_le hg2 b2.size), b2.cell (p := ⟨gb, _, none⟩) hg2]; exact HBX1.out x
  have HKW : Hid (∀ wx, Below w2.heap.size w2 wx → ∀ j, j < 176 → wx.cell? ⟨gw, j, none⟩ = some (.int .u8 (((E.rks k 11).getD j 0).toNat : Int))) := fun wx h j hj => by rw [h.cell (p := ⟨gw, _, none⟩) hg4]; exact hkw j hj
  have hgb2 : gb < w2.heap.size := Nat.lt_of_lt_of_le hg2 b2.size
  clear b1 b2 HBX1 hkw CW hg1 hg2 hg3
  go_wp2
  go_loopw [7, 10, 11, 12, 13, 14, 15] (fun sv iv _ _ _ _ _ wq => ∃ j p : Nat, j ≤ 7 ∧ p ≤ n ∧ (p < n → p = 16 * j) ∧ iv = .int .u64 (j : Int) ∧ sv = .string ⟨(C.streamL k m p).toArray⟩ ∧ Below w2.heap.size w2 wq) (fun _ iv _ _ _ _ _ _ => 8 - (intOf iv).toNat)
  case atStart => exact ⟨0, 0, Nat.zero_le _, Nat.zero_le _, fun _ => rfl, rfl, rfl, Below.refl _ _⟩
  case round =>
    obtain ⟨j, p, hj, hp, hpj, rfl, rfl, hb⟩ := hrel
    have hsz := mkSize (C.streamL k m p)
    rw [C.streamL_length] at hsz
    by_cases hlt : p < n
    · obtain rfl : p = 16 * j := hpj hlt
      have hlt' : ((16 * j : Nat) : Int) < (n : Int) := by omega
      have C1 : Hid (∀ wx, Calls Try.prog 25 #[.int .u64 (m : Int), .int .i64 8] wx fun e w' => e = .returned (.string ⟨(W.putL m 8).toArray⟩) ∧ Below wx.heap.size wx w') := fun wx => by
        have := refPut_any (m : Int) 8 (by omega) (by omega) wx; exact this
      have C2 : Hid (∀ wx, Calls Try.prog 25 #[.int .u64 (j : Int), .int .i64 8] wx fun e w' => e = .returned (.string ⟨(W.putL j 8).toArray⟩) ∧ Below wx.heap.size wx w') := fun wx => by
        have := refPut_any (j : Int) 8 (by omega) (by omega) wx; exact this
      have HBL := Lib.hid (C.blk_length m j)
      have hadd := fun wx => run_string_add_sum (P := Try.prog) wx (⟨(W.putL m 8).toArray⟩ : ByteArray) ⟨(W.putL j 8).toArray⟩ (by rw [mkSize, mkSize, W.putL_length, W.putL_length]; decide)
      obtain ⟨T, hT⟩ : ∃ T : ByteArray, T = (⟨(W.putL m 8).toArray⟩ : ByteArray) ++ ⟨(W.putL j 8).toArray⟩ := ⟨_, rfl⟩
      rw [← hT] at hadd
      have HTL : Hid (T.data.toList = C.blk m j) := by show T.data.toList = _; rw [hT, ByteArray.data_append, Array.toList_append]; rfl
      have HTS : Hid (T.size = 16) := by
        have h1 : T.size = T.data.toList.length := (Array.length_toList).symm
        show T.size = 16
        rw [h1, HTL.out, HBL.out]
      have HIX : Hid (∀ (i : Nat) (wx : World), i < 16 → (Instr.index 9 (.string T) (.int .i64 (i : Int))).run Try.prog wx = .ok (.int .u8 (((C.blk m j).getD i 0).toNat : Int)) wx) := fun i wx hi => by
        rw [str_at T i _ rfl (by rw [HTS.out]; exact hi) wx, HTL.out]
      clear hT hpj
      go_wp2_with fail
      refine (C1.out _).mono ?_
      rintro e w3 ⟨rfl, b3⟩
      have hb3 := hb.trans (b3.mono hb.size)
      clear b3 hb
      go_wp2_with fail
      refine (C2.out _).mono ?_
      rintro e w4 ⟨rfl, b4⟩
      have hb4 := hb3.trans (b4.mono hb3.size)
      clear b4 hb3
      have rB0 := Row.new' (w := w4) (t := 23) (l := W.cellsOf (List.replicate 16 0)) rfl rfl
      have hbB := hb4.alloc hb4.size (.cells (W.cellsOf (List.replicate 16 0)).toArray 23 (0, 0))
      have hgB : w2.heap.size ≤ w4.heap.size := hb4.size
      have hE := Lib.hid (E.enc_length k (C.blk m j))
      have CE := Lib.hid (CBY.out (C.blk m j) HBL.out)
      have hSN := Lib.hid (streamL_snoc k m j)
      generalize C.blk m j = B at *
      go_wp2
      clear hadd C1 C2 hb4
      go_loopw [13] (fun kv wq => ∃ c : Nat, c ≤ 16 ∧ kv = .int .i64 c ∧ Row wq w4.heap.size 23 (W.cellsOf (E.fill B (List.replicate 16 0) c)) ∧ Below w2.heap.size w2 wq) (fun kv _ => 16 - (intOf kv).toNat)
      case atStart => exact ⟨0, Nat.zero_le _, rfl, by rw [E.fill_zero]; exact rB0, hbB⟩
      case round =>
        clear rB0 hbB
        obtain ⟨c, hc, rfl, rB, hbB⟩ := hrel
        have hF : B.length = (List.replicate 16 (0 : UInt8)).length := by rw [HBL.out]; simp
        by_cases hc16 : c < 16
        · have hsc : (c : Int) < 16 := by omega
          have hsc0 : (0 : Int) ≤ (c : Int) := by omega
          have hix := fun wx => HIX.out c wx hc16
          have cb := (rB.cell c).trans (c8_at (by rw [E.fill_length hF]; simp; omega))
          have fb := rB.frozen c
          have rB' := rB.set c (.int .u8 ((B.getD c 0).toNat : Int))
          rw [c8_set, E.fill_step hF (by simp; omega)] at rB'
          generalize B.getD c 0 = z at *
          clear hF
          go_wp2
          go_roundw
          case rel => exact ⟨c + 1, by omega, by go_num, rB', hbB.setCell (by simp; omega) _⟩
          case measure => simp [intOf]; omega
        · have hsc : ¬ (c : Int) < 16 := by omega
          have hc' : c = 16 := by omega
          rw [hc', E.fill_full (n := 16) HBL.out (by simp)] at rB
          have hiB := info16 HBL.out
          have hiE := info16 hE.out
          clear hc hc16 hc' HIX HTL HTS hF
          go_wp2_with (first | refine wpList_load_row rfl 23 (.tmp 12) rfl w4.heap.size rfl _ _ _ _ rB Try.underlying23 rfl hiB ?_)
          refine (CE.out gb capb gw capw _ (Nat.lt_of_lt_of_le hgb2 hbB.size) (Nat.lt_of_lt_of_le hg4 hbB.size) (HBX.out _ hbB) (HKW.out _ hbB)).mono ?_
          rintro e w5 ⟨rfl, b5⟩
          have hb5 := hbB.trans (b5.mono hbB.size)
          clear b5 hbB rB CE hiB
          have hzE : ∀ z : Array Value, z = (W.cellsOf (List.replicate 16 0)).toArray → z.size = (W.cellsOf (E.enc k B)).toArray.size := fun z hz => by rw [hz, List.size_toArray, List.size_toArray, c8_len, c8_len, hE.out]; rfl
          generalize E.enc k B = X at *
          have rX0 := Row.new' (w := w5) (t := 23) (l := W.cellsOf X) rfl rfl
          have hbX0 := hb5.alloc hb5.size (.cells (W.cellsOf X).toArray 23 (0, 0))
          have hgX : w2.heap.size ≤ w5.heap.size := hb5.size
          go_wp2_with (first | refine wpList_store_new rfl 23 (.tmp 14) (.tmp 43) rfl w5 _ _ _ _ rfl rfl rfl hiE (hzE _ rfl) (c8_all _) ?_)
          clear hzE hiE hb5
          go_loopw [7, 15] (fun sv kv wq => ∃ c : Nat, c ≤ 16 ∧ 16 * j + c ≤ n ∧ kv = .int .i64 c ∧ sv = .string ⟨(C.streamL k m (16 * j + c)).toArray⟩ ∧ Row wq w5.heap.size 23 (W.cellsOf X) ∧ Below w2.heap.size w2 wq) (fun _ kv _ => 16 - (intOf kv).toNat)
          case atStart => exact ⟨0, Nat.zero_le _, by omega, rfl, rfl, rX0, hbX0⟩
          case round =>
            clear rX0 hbX0
            obtain ⟨c, hc, hcn, rfl, rfl, rX, hbX⟩ := hrel
            have hs1 := mkSize (C.streamL k m (16 * j + c))
            rw [C.streamL_length] at hs1
            by_cases hc16 : c < 16
            · have hsc : (c : Int) < 16 := by omega
              have hsc0 : (0 : Int) ≤ (c : Int) := by omega
              by_cases hcl : 16 * j + c < n
              · have hsl : ((16 * j + c : Nat) : Int) < (n : Int) := by omega
                have cx := (rX.cell c).trans (c8_at (by rw [hE.out]; exact hc16))
                have HS1 := Lib.hid (hSN.out c hc16)
                have hcv := conv1 wr ((X.getD c 0).toNat : Int) (X.getD c 0) rfl
                have ha2 := fun wx => run_string_add_sum (P := Try.prog) wx (⟨(C.streamL k m (16 * j + c)).toArray⟩ : ByteArray) ⟨#[X.getD c 0]⟩ (by rw [hs1]; show 16 * j + c + 1 ≤ maxLen; unfold maxLen; omega)
                have e2 : (⟨(C.streamL k m (16 * j + c)).toArray⟩ : ByteArray) ++ ⟨#[X.getD c 0]⟩ = ⟨(C.streamL k m (16 * j + (c + 1))).toArray⟩ := by
                  rw [show 16 * j + (c + 1) = 16 * j + c + 1 from by omega, HS1.out]
                  apply ByteArray.ext
                  simp [ByteArray.data_append]
                rw [e2] at ha2
                clear e2 HS1
                generalize X.getD c 0 = z at *
                have hsl' : 16 * (j : Int) + (c : Int) < (n : Int) := by omega
                go_wp2
                go_roundw
                case rel => exact ⟨c + 1, by omega, by omega, by go_num, rfl, rX.alloc _, hbX.alloc hbX.size _⟩
                case measure => simp [intOf]; omega
              · have hsl : ¬ ((16 * j + c : Nat) : Int) < (n : Int) := by omega
                have hsl' : ¬ 16 * (j : Int) + (c : Int) < (n : Int) := by omega
                go_wp2
                go_roundw
                case rel => exact ⟨j + 1, 16 * j + c, by omega, by omega, fun h => by omega, by go_num, rfl, hbX⟩
                case measure => simp [intOf]; omega
            · have hsc : ¬ (c : Int) < 16 := by omega
              go_wp2
              go_roundw
              case rel => exact ⟨j + 1, 16 * j + c, by omega, by omega, fun h => by omega, by go_num, rfl, hbX⟩
              case measure => simp [intOf]; omega
    · have hlt' : ¬ ((p : Int) < (n : Int)) := by omega
      obtain rfl : p = n := by omega
      go_wp2
      go_ret
      exact ⟨rfl, hw2.trans (hb.mono hw2.size)⟩

end Go.Proofs.Ytpkehhbjagmodaa
