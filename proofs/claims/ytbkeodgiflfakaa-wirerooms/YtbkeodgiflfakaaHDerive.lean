/-
  Layer 4: bytes that are derived.
-/
import Derived.Test.YtbkeodgiflfakaaHAwake
namespace Go.Proofs.Ytbkeodgiflfakaa
open Go.RowKit
set_option linter.unusedVariables false
set_option maxRecDepth 20000

theorem derive_low (key label : ByteArray) (n : Int) (h : n < 0) (w : World) :
    Calls Try.prog 54 #[.string key, .string label, .int .i64 n] w fun e w' => e = .returned (.tuple #[.string ⟨#[]⟩, .int .i64 7]) ∧ w' = w := by
  go_enter Try.func54, Try.ntmps54
  go_wp2
  go_ret2
  exact ⟨rfl, rfl⟩
theorem derive_high (key label : ByteArray) (n : Int) (h : 8160 < n) (w : World) :
    Calls Try.prog 54 #[.string key, .string label, .int .i64 n] w fun e w' => e = .returned (.tuple #[.string ⟨#[]⟩, .int .i64 7]) ∧ w' = w := by
  have h' : ¬ n < 0 := by omega
  go_enter Try.func54, Try.ntmps54
  go_wp2
  go_ret2
  exact ⟨rfl, rfl⟩

theorem conv_one (wr : World) (x : Int) (b : UInt8) (hx : x = (b.toNat : Int)) : (convert 78 9 (.slice (some ⟨wr.heap.size, 0, none⟩) 1 1)).run Try.prog (wr.alloc (.cells #[.int .u8 x] 5)) = .ok (.string ⟨#[b]⟩) (wr.alloc (.cells #[.int .u8 x] 5)) := by
  have := run_convert_bytes_back (P := Try.prog) (wr.alloc (.cells #[.int .u8 x] 5)) 78 9 5 ⟨wr.heap.size, 0, none⟩ 1 [b] Try.underlying78 Try.underlying5 Try.underlying9 (fun t ht => by
    obtain rfl : t = 0 := by simpa using ht
    simp [Addr.add, hx])
  exact this

theorem all_three (a b c : ByteArray) : allOf [a, b, c] = a.data.toList ++ (b.data.toList ++ c.data.toList) := by simp [allOf]

set_option maxHeartbeats 2000000 in
theorem derive_mid (key label : ByteArray) (n : Nat) (hn : n ≤ 8160) (hk : key.size ≤ 1000000) (hl : label.size ≤ 800000) (w : World) :
    Calls Try.prog 54 #[.string key, .string label, .int .i64 (n : Int)] w fun e w' => ∃ x : ByteArray, e = .returned (.tuple #[.string x, .int .i64 0]) ∧ x.data.toList = H.deriveL key.data.toList label.data.toList n ∧ Below w.heap.size w w' := by
  have hn0 : ¬ (n : Int) < 0 := by omega
  have hn1 : ¬ (8160 : Int) < (n : Int) := by omega
  go_enter Try.func54, Try.ntmps54
  go_wp2
  go_loopw [9, 10] (fun lv iv wx => ∃ (i : Nat) (t : ByteArray), (i = 0 ∨ 32 * (i - 1) < n) ∧ lv = .string t ∧ iv = .int .i64 ((i + 1 : Nat) : Int) ∧ Hid (t.data.toList = H.tt key.data.toList label.data.toList i) ∧
      Lib.IsBuilder 80 5 w.heap.size w.heap.size (Lib.byteCells (H.cat key.data.toList label.data.toList i)) wx ∧ Below w.heap.size w wx) (fun _ iv _ => 300 - (intOf iv).toNat)
  case atStart =>
    refine ⟨0, ⟨#[]⟩, .inl rfl, rfl, rfl, rfl, .inl ⟨Nat.le_refl _, _, by show (w.heap.push _)[w.heap.size]? = _; simp, World.ownsRow_nil _ _ _ _, by simp [Value.ownBlock]⟩, (Below.refl _ _).alloc (Nat.le_refl _) _⟩
  case round =>
    obtain ⟨i, t, hi, rfl, rfl, HT, hI, hbl⟩ := hrel
    have hz : w.heap.size < wr.heap.size := isBuilder_lt hI
    have hib : i ≤ 256 := by omega
    have hln : (Lib.byteCells (H.cat key.data.toList label.data.toList i)).length = 32 * i := by rw [byteCells_length, H.cat_length]
    have hts : t.size ≤ 32 := by
      have h1 := H.tt_le key.data.toList label.data.toList i
      rw [← HT.out] at h1
      simpa using h1
    have CL := Try.Builder_Len w.heap.size w.heap.size _ wr hI
    rw [hln] at CL
    have CL' : Hid (Calls Try.prog 38 #[.pointer (some ⟨w.heap.size, 0, none⟩)] wr fun e w' => e = .returned (.int .i64 ((32 * i : Nat) : Int)) ∧ w' = wr) := CL
    have HLN := Lib.hid hln
    clear CL hln
    go_wp2_with fail
    refine (Hid.out CL').mono ?_
    rintro e w1 ⟨rfl, rfl⟩
    clear CL'
    by_cases hlt : 32 * i < n
    · obtain ⟨bb, hbb⟩ : ∃ bb, bb = UInt8.ofNat (i + 1) := ⟨_, rfl⟩
      have hcv := conv_one w1 ((i : Int) + 1) bb (by rw [hbb, UInt8.toNat_ofNat']; omega)
      have hTT : H.tt key.data.toList label.data.toList (i + 1) = H.hmacL key.data.toList (t.data.toList ++ (label.data.toList ++ [bb])) := by rw [hbb, HT.out]; rfl
      have HTT := Lib.hid hTT
      have hib2 : i ≤ 254 := by omega
      clear hTT hbb
      go_wp2_with fail
      refine (hSum_new key [t, label, ⟨#[bb]⟩] (w1.alloc (.cells #[.int .u8 ((i : Int) + 1)] 5 (0, 0))) _ rfl 3 (w1.heap.size + 1) rfl (by simp) hk (by simp) (by simp) ?hl1).mono ?_
      case hl1 =>
        rw [all_three, List.length_append, List.length_append]
        have h1 : t.data.toList.length = t.size := by simp
        have h2 : label.data.toList.length = label.size := by simp
        rw [h1, h2]
        show _ + (_ + 1) ≤ _
        omega
      rintro e w2 ⟨rfl, b2⟩
      have b2' : Below w1.heap.size w1 w2 := ((Below.refl _ _).alloc (Nat.le_refl _) _).trans (b2.mono (by simp))
      rw [all_three, show (⟨#[bb]⟩ : ByteArray).data.toList = [bb] from rfl, ← HTT.out]
      have hI2 := isBuilder_below hI b2'
      have hb2 := hbl.trans (b2'.mono hbl.size)
      have hz2 := b2'.size
      clear b2 b2' hI hbl HT hcv
      obtain ⟨u, hu⟩ : ∃ u : ByteArray, u = ⟨(H.tt key.data.toList label.data.toList (i + 1)).toArray⟩ := ⟨_, rfl⟩
      have hud : u.data.toList = H.tt key.data.toList label.data.toList (i + 1) := by rw [hu]
      have hus : u.size = 32 := by
        have h1 : u.size = u.data.toList.length := by simp
        rw [h1, hud, H.tt_length]
      rw [← hu]
      have HUD := Lib.hid hud
      have HUS := Lib.hid hus
      clear hu hud hus HTT
      go_wp2_with fail
      refine (writeString_any w.heap.size w.heap.size _ u _ hI2 (by rw [HLN.out, HUS.out]; omega) (by omega)).mono ?_
      rintro e w3 ⟨rfl, h3, b3⟩
      have hb3 := hb2.trans b3
      have h3' : Lib.IsBuilder 80 5 w.heap.size w.heap.size (Lib.byteCells (H.cat key.data.toList label.data.toList (i + 1))) w3 := by
        show Lib.IsBuilder _ _ _ _ (Lib.byteCells (H.cat key.data.toList label.data.toList i ++ H.tt key.data.toList label.data.toList (i + 1))) _
        rw [byteCells_append, ← HUD.out]; exact .inr h3
      clear hI2 hb2 b3 h3
      go_wp2
      go_roundw
      case rel => exact ⟨i + 1, u, .inr (by simpa using hlt), rfl, by go_num, HUD, h3', hb3⟩
      case measure => simp [intOf]; omega
    · have hge : ¬ (32 * (i : Int)) < (n : Int) := by omega
      go_wp2_with fail
      refine (Try.Builder_String_any w.heap.size w.heap.size _ _ hI (by omega)).mono ?_
      rintro e w2 ⟨rfl, b2⟩
      have hb2 := hbl.trans b2
      obtain ⟨u, hu⟩ : ∃ u : ByteArray, u = ⟨(H.cat key.data.toList label.data.toList i).toArray⟩ := ⟨_, rfl⟩
      have hud : u.data.toList = H.cat key.data.toList label.data.toList i := by rw [hu]
      have hus : n ≤ u.size := by
        have h1 : u.size = u.data.toList.length := by simp
        rw [h1, hud, H.cat_length]; omega
      rw [← hu]
      have HUD := Lib.hid hud
      have hus' : (n : Int) ≤ (u.size : Int) := by omega
      clear hI hbl b2 hu hud
      go_wp2
      go_ret2
      refine ⟨_, rfl, ?_, hb2⟩
      rw [ByteArray.data_extract]
      simp only [Array.toList_extract, List.extract_eq_take_drop, List.drop_zero, Nat.sub_zero]
      rw [HUD.out]
      exact H.deriveL_of _ _ (by omega)

end Go.Proofs.Ytbkeodgiflfakaa
