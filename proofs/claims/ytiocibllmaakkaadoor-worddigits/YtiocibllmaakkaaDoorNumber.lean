/-
  Layer 1: what word.isDecimal, word.Number and the document's own Number come to, at every text of at most 1,000 bytes.
-/
import Derived.Test.YtiocibllmaakkaaDoorRows
import Derived.Test.YtiocibllmaakkaaDoorDigPlain
import Derived.WalkKit
import Derived.WalkSpells
import Derived.WalkLawsBesides
import Derived.Below
import Derived.Lib.Hide
namespace Go.Proofs.YtiocibllmaakkaaDoor
open Go.RowKit
set_option linter.unusedVariables false

theorem ret_bool {a b : Bool} (h : a = b) : Ending.returned (.bool a) = .returned (.bool b) := by rw [h]
theorem len_data (s : ByteArray) : s.data.toList.length = s.size := by simp
theorem empty_iff (s : ByteArray) : s.toList.isEmpty = decide (s.size = 0) := by
  rw [ByteArray.toList_eq]
  cases hl : s.data.toList with
  | nil => have := len_data s; rw [hl] at this; simp at this; simp [← this]
  | cons c r =>
    have := len_data s
    rw [hl] at this
    have hne : ¬ s.size = 0 := by simp at this; omega
    rw [decide_eq_false hne]; rfl
theorem head_data (s : ByteArray) (h : 0 < s.size) : s.data.toList.head? = some s[0] := by
  have : 0 < s.data.toList.length := by rw [len_data]; exact h
  cases hl : s.data.toList with
  | nil => rw [hl] at this; simp at this
  | cons c r =>
    have e : s[0] = s.data.toList[0]'this := rfl
    simp only [List.head?_cons, e, hl, List.getElem_cons_zero]
theorem take_snoc' (s : ByteArray) (k : Nat) (h : k < s.size) : s.data.toList.take (k + 1) = s.data.toList.take k ++ [s[k]] := by
  rw [List.take_succ_eq_append_getElem (by simpa using h)]; rfl

theorem isDec_no0 (s : ByteArray) (h : s.size = 0) : W.isDec s.data.toList = false := by
  have : s.data.toList = [] := by rw [← List.length_eq_zero_iff, len_data]; exact h
  rw [this]; rfl
theorem isDec_lead (s : ByteArray) (h : 1 < s.size) (h0 : s[0].toNat = 48) : W.isDec s.data.toList = false := by
  unfold W.isDec
  have e : s[0] = (48 : UInt8) := by rw [← UInt8.toNat_inj]; exact h0
  rw [head_data s (by omega), e, len_data]
  simp [h]
theorem isDec_rest (s : ByteArray) (h : 0 < s.size) (h0 : ¬ (1 < s.size ∧ s[0].toNat = 48)) : W.isDec s.data.toList = s.data.toList.all W.isDig := by
  unfold W.isDec
  have h1 : s.data.toList.isEmpty = false := by
    cases hl : s.data.toList with
    | nil => have := len_data s; rw [hl] at this; simp at this; omega
    | cons => rfl
  rw [h1, head_data s h, len_data]
  have h2 : (decide (1 < s.size) && (some s[0] == some (48 : UInt8))) = false := by
    rw [Bool.and_eq_false_imp]
    intro hl
    rw [beq_eq_false_iff_ne]
    intro e
    rw [Option.some.injEq] at e
    exact h0 ⟨by simpa using hl, by rw [e]; rfl⟩
  rw [h2]
  simp
theorem all_not (s : ByteArray) (k : Nat) (h : k < s.size) (hd : W.isDig s[k] = false) : s.data.toList.all W.isDig = false := by
  rw [List.all_eq_false]
  exact ⟨s[k], by have : s[k] = s.data.toList[k]'(by rw [len_data]; exact h) := rfl
                  rw [this]; exact List.getElem_mem _, by simp [hd]⟩

set_option maxHeartbeats 1000000 in
/-- word.isDecimal. -/
theorem isDecimal_any (s : ByteArray) (hs : s.size ≤ 1000) (w : World) :
    Calls Tryd.prog 17 #[.string s] w fun e w' => e = .returned (.bool (W.isDec s.data.toList)) ∧ w' = w := by
  by_cases h0 : s.size = 0
  · rw [isDec_no0 s h0]
    have t1 : s.toList.isEmpty = true := by rw [empty_iff]; simp [h0]
    clear h0
    go_enter Tryd.func17, Tryd.ntmps17
    go_wp2
    go_ret
    exact ⟨rfl, rfl⟩
  · have hp : 0 < s.size := by omega
    have t1 : s.toList.isEmpty = false := by rw [empty_iff]; simp [h0]
    by_cases h1 : 1 < s.size ∧ s[0].toNat = 48
    · rw [isDec_lead s h1.1 h1.2]
      have hl := h1.1
      have t2 : ((s[0].toNat : Int) == 48) = true := by rw [beq_iff_eq]; have := h1.2; omega
      clear h1
      go_enter Tryd.func17, Tryd.ntmps17
      go_wp2
      go_ret
      exact ⟨rfl, rfl⟩
    · have HR := Lib.hid (isDec_rest s hp h1)
      by_cases h2 : 1 < s.size
      · have t2 : ((s[0].toNat : Int) == 48) = false := by rw [beq_eq_false_iff_ne]; intro e; exact h1 ⟨h2, by omega⟩
        clear h1
        go_enter Tryd.func17, Tryd.ntmps17
        go_wp2
        go_loop [3, 18] (fun _ i => ∃ k : Nat, k ≤ s.size ∧ i = .int .i64 k ∧ Hid ((s.data.toList.take k).all W.isDig = true)) (fun _ i => s.size - (intOf i).toNat)
        case atStart => exact ⟨0, Nat.zero_le _, rfl, rfl⟩
        case round =>
          obtain ⟨k, hk, rfl, HA⟩ := hrel
          by_cases hlt : k < s.size
          · have hu := s[k].toNat_lt
            by_cases c1 : s[k].toNat < 48
            · have HF := Lib.hid (all_not s k hlt (by simp [W.isDig]; omega))
              go_wp2
              go_ret
              exact ⟨ret_bool (by rw [HR.out, HF.out]), rfl⟩
            · by_cases c2 : 57 < s[k].toNat
              · have HF := Lib.hid (all_not s k hlt (by simp [W.isDig]; omega))
                go_wp2
                go_ret
                exact ⟨ret_bool (by rw [HR.out, HF.out]), rfl⟩
              · have HB : Hid ((s.data.toList.take (k + 1)).all W.isDig = true) := by
                  show _ = _
                  rw [take_snoc' s k hlt, List.all_append, HA.out]
                  simp [W.isDig]; omega
                go_wp2
                go_round
                case rel => exact ⟨k + 1, by omega, by go_num, HB⟩
                case measure => simp [intOf]; omega
          · have HF : Hid (s.data.toList.all W.isDig = true) := by
              have := HA.out
              rw [List.take_of_length_le (by rw [len_data]; omega)] at this
              exact this
            go_wp2
            go_ret
            exact ⟨ret_bool (by rw [HR.out, HF.out]), rfl⟩
      · clear h1
        go_enter Tryd.func17, Tryd.ntmps17
        go_wp2
        go_loop [3, 18] (fun _ i => ∃ k : Nat, k ≤ s.size ∧ i = .int .i64 k ∧ Hid ((s.data.toList.take k).all W.isDig = true)) (fun _ i => s.size - (intOf i).toNat)
        case atStart => exact ⟨0, Nat.zero_le _, rfl, rfl⟩
        case round =>
          obtain ⟨k, hk, rfl, HA⟩ := hrel
          by_cases hlt : k < s.size
          · have hu := s[k].toNat_lt
            by_cases c1 : s[k].toNat < 48
            · have HF := Lib.hid (all_not s k hlt (by simp [W.isDig]; omega))
              go_wp2
              go_ret
              exact ⟨ret_bool (by rw [HR.out, HF.out]), rfl⟩
            · by_cases c2 : 57 < s[k].toNat
              · have HF := Lib.hid (all_not s k hlt (by simp [W.isDig]; omega))
                go_wp2
                go_ret
                exact ⟨ret_bool (by rw [HR.out, HF.out]), rfl⟩
              · have HB : Hid ((s.data.toList.take (k + 1)).all W.isDig = true) := by
                  show _ = _
                  rw [take_snoc' s k hlt, List.all_append, HA.out]
                  simp [W.isDig]; omega
                go_wp2
                go_round
                case rel => exact ⟨k + 1, by omega, by go_num, HB⟩
                case measure => simp [intOf]; omega
          · have HF : Hid (s.data.toList.all W.isDig = true) := by
              have := HA.out
              rw [List.take_of_length_le (by rw [len_data]; omega)] at this
              exact this
            go_wp2
            go_ret
            exact ⟨ret_bool (by rw [HR.out, HF.out]), rfl⟩

/-- What Number answers: the number, and the error. -/
def numV (l : List UInt8) : Int := if W.isDec l = true ∧ W.val l ≤ 18446744073709551615 then (W.val l : Int) else 0
def numE (l : List UInt8) : Int := if W.isDec l = true then (if W.val l ≤ 18446744073709551615 then 0 else 7) else 4

theorem dig_bd (s : ByteArray) (k : Nat) (h : k < s.size) (ha : s.data.toList.all W.isDig = true) : 48 ≤ s[k].toNat ∧ s[k].toNat ≤ 57 := by
  have := List.all_eq_true.1 ha s[k] (by have : s[k] = s.data.toList[k]'(by rw [len_data]; exact h) := rfl
                                         rw [this]; exact List.getElem_mem _)
  simpa [W.isDig] using this
theorem val_step (s : ByteArray) (k : Nat) (h : k < s.size) : W.val (s.data.toList.take (k + 1)) = W.val (s.data.toList.take k) * 10 + (s[k].toNat - 48) := by
  rw [take_snoc' s k h, W.val_snoc]
theorem val_le (s : ByteArray) (k : Nat) : W.val (s.data.toList.take k) ≤ W.val s.data.toList := by
  have h := W.val_mono s.data.toList k (max k s.data.toList.length) (by omega)
  rwa [List.take_of_length_le (show s.data.toList.length ≤ max k s.data.toList.length by omega)] at h
theorem ret_iv' {k : IntKind} {a b : Int} {v : Value} (h : a = b) : Ending.returned (.tuple #[.int k a, v]) = .returned (.tuple #[.int k b, v]) := by rw [h]

set_option maxHeartbeats 1000000 in
/-- word.Number. -/
theorem number_any (s : ByteArray) (hs : s.size ≤ 1000) (w : World) :
    Calls Tryd.prog 6 #[.string s] w fun e w' => e = .returned (.tuple #[.int .u64 (numV s.data.toList), .int .i64 (numE s.data.toList)]) ∧ w' = w := by
  by_cases hd : W.isDec s.data.toList = true
  · have HV : Hid (numV s.data.toList = if W.val s.data.toList ≤ 18446744073709551615 then (W.val s.data.toList : Int) else 0) := by show _ = _; simp [numV, hd]
    have HE : Hid (numE s.data.toList = if W.val s.data.toList ≤ 18446744073709551615 then 0 else 7) := by show _ = _; simp [numE, hd]
    have HA : Hid (s.data.toList.all W.isDig = true) := by have := hd; simp only [W.isDec, Bool.and_eq_true] at this; exact this.2
    go_enter Tryd.func6, Tryd.ntmps6
    go_wp2_with fail
    refine (isDecimal_any s hs _).mono ?_
    rintro e w1 ⟨rfl, rfl⟩
    rw [hd]
    clear hd
    go_wp2
    go_loop [4, 5, 6, 12] (fun n _ _ i => ∃ k : Nat, k ≤ s.size ∧ i = .int .i64 k ∧ n = .int .u64 (W.val (s.data.toList.take k)) ∧ W.val (s.data.toList.take k) ≤ 18446744073709551615) (fun _ _ _ i => s.size - (intOf i).toNat)
    case atStart => exact ⟨0, Nat.zero_le _, rfl, rfl, by simp [W.val]⟩
    case round =>
      obtain ⟨k, hk, rfl, rfl, hle⟩ := hrel
      by_cases hlt : k < s.size
      · obtain ⟨d0, d1⟩ := dig_bd s k hlt HA.out
        have HS := Lib.hid (val_step s k hlt)
        have HL := Lib.hid (val_le s (k + 1))
        generalize W.val (s.data.toList.take k) = v at *
        by_cases c : v * 10 + (s[k].toNat - 48) ≤ 18446744073709551615
        · go_wp2
          go_round
          case rel => exact ⟨k + 1, by omega, by go_num, by rw [HS.out]; go_num, by rw [HS.out]; exact c⟩
          case measure => simp [intOf]; omega
        · have hv : ¬ W.val s.data.toList ≤ 18446744073709551615 := by have := HL.out; rw [HS.out] at this; omega
          go_wp2
          go_ret2
          exact ⟨by rw [HV.out, HE.out, if_neg hv, if_neg hv]; rfl, rfl⟩
      · have ht : s.data.toList.take k = s.data.toList := List.take_of_length_le (by rw [len_data]; omega)
        rw [ht] at hle
        have HT := Lib.hid ht
        clear ht
        go_wp2
        go_ret2
        exact ⟨by rw [HV.out, HE.out, if_pos hle, if_pos hle]; exact ret_iv' (by rw [HT.out]), rfl⟩
  · have HV : Hid (numV s.data.toList = 0) := by show _ = _; simp [numV, hd]
    have HE : Hid (numE s.data.toList = 4) := by show _ = _; simp [numE, hd]
    have hf : W.isDec s.data.toList = false := by simpa using hd
    go_enter Tryd.func6, Tryd.ntmps6
    go_wp2_with fail
    refine (isDecimal_any s hs _).mono ?_
    rintro e w1 ⟨rfl, rfl⟩
    rw [hf]
    clear hd hf
    go_wp2
    go_ret2
    exact ⟨by rw [HV.out, HE.out]; rfl, rfl⟩

end Go.Proofs.YtiocibllmaakkaaDoor
