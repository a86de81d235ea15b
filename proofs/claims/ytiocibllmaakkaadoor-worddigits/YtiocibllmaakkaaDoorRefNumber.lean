/-
  Layer 1: what the document's own Number comes to, at every text of at most 1,000 bytes.
-/
import Derived.Test.YtiocibllmaakkaaDoorNumber
namespace Go.Proofs.YtiocibllmaakkaaDoor
open Go.RowKit
set_option linter.unusedVariables false

/-- What the document's loop knows behind k bytes: digits alone; whether the number is too great; else the number. -/
def Seen (s : ByteArray) (k : Nat) (n : Int) (g : Bool) : Prop :=
  (s.data.toList.take k).all W.isDig = true ∧ g = decide (18446744073709551615 < W.val (s.data.toList.take k)) ∧ (g = false → n = (W.val (s.data.toList.take k) : Int))

theorem Seen.start (s : ByteArray) : Seen s 0 0 false := ⟨by simp, by simp [W.val], fun _ => by simp [W.val]⟩
theorem Seen.on {s : ByteArray} {k : Nat} {n n' : Int} {g g' : Bool} (h : Seen s k n g) (hk : k < s.size) (hd : 48 ≤ s[k].toNat ∧ s[k].toNat ≤ 57)
    (hg : g' = (g || decide (18446744073709551615 < W.val (s.data.toList.take k) * 10 + (s[k].toNat - 48)))) (hn : g' = false → n' = W.val (s.data.toList.take k) * 10 + (s[k].toNat - 48 : Nat)) : Seen s (k + 1) n' g' := by
  obtain ⟨h1, h2, h3⟩ := h
  have hs := val_step s k hk
  refine ⟨?_, ?_, ?_⟩
  · rw [take_snoc' s k hk, List.all_append, h1]; simp [W.isDig]; omega
  · rw [hg, h2, hs, Bool.eq_iff_iff]; simp; omega
  · intro e; rw [hn e, hs]; omega

theorem Seen.big {s : ByteArray} {k : Nat} {n : Int} (h : Seen s k n true) : 18446744073709551615 < W.val (s.data.toList.take k) := by have := h.2.1; simpa using this.symm
theorem Seen.not {s : ByteArray} {k : Nat} {n : Int} (h : Seen s k n false) : W.val (s.data.toList.take k) ≤ 18446744073709551615 ∧ n = (W.val (s.data.toList.take k) : Int) := by
  have := h.2.1
  refine ⟨?_, h.2.2 rfl⟩
  have h2 := this.symm
  rw [decide_eq_false_iff_not] at h2
  omega

theorem numV_not (l : List UInt8) (h : W.isDec l = false) : numV l = 0 := by simp [numV, h]
theorem numE_not (l : List UInt8) (h : W.isDec l = false) : numE l = 4 := by simp [numE, h]

set_option maxHeartbeats 2000000 in
theorem refNumber_any (s : ByteArray) (hs : s.size ≤ 1000) (w : World) :
    Calls Tryd.prog 7 #[.string s] w fun e w' => e = .returned (.tuple #[.int .u64 (numV s.data.toList), .int .i64 (numE s.data.toList)]) ∧ w' = w := by
  by_cases h0 : s.size = 0
  · rw [numV_not _ (isDec_no0 s h0), numE_not _ (isDec_no0 s h0)]
    have t1 : ((s.size : Int) == 0) = true := by rw [beq_iff_eq]; omega
    clear h0
    go_enter Tryd.func7, Tryd.ntmps7
    go_wp2
    go_ret2
    exact ⟨rfl, rfl⟩
  · have hp : 0 < s.size := by omega
    have t1 : ((s.size : Int) == 0) = false := by rw [beq_eq_false_iff_ne]; omega
    by_cases h1 : 1 < s.size ∧ s[0].toNat = 48
    · have hf := isDec_lead s h1.1 h1.2
      rw [numV_not _ hf, numE_not _ hf]
      have hl := h1.1
      have t2 : ((s[0].toNat : Int) == 48) = true := by rw [beq_iff_eq]; have := h1.2; omega
      clear h1 hf
      go_enter Tryd.func7, Tryd.ntmps7
      go_wp2
      go_ret2
      exact ⟨rfl, rfl⟩
    · have HR := Lib.hid (isDec_rest s hp h1)
      by_cases h2 : 1 < s.size
      · have t2 : ((s[0].toNat : Int) == 48) = false := by rw [beq_eq_false_iff_ne]; intro e; exact h1 ⟨h2, by omega⟩
        clear h1 h0
        go_enter Tryd.func7, Tryd.ntmps7
        go_wp2
        go_loop [4, 5, 6, 7] (fun n g i _ => ∃ (k : Nat) (nv : Int) (gb : Bool), k ≤ s.size ∧ n = .int .u64 nv ∧ g = .bool gb ∧ i = .int .i64 k ∧ Hid (Seen s k nv gb)) (fun _ _ i _ => s.size - (intOf i).toNat)
        case atStart => exact ⟨0, 0, false, Nat.zero_le _, rfl, rfl, rfl, Seen.start s⟩
        case round =>
          obtain ⟨k, nv, gb, hk, rfl, rfl, rfl, HA⟩ := hrel
          by_cases hlt : k < s.size
          · have hu := s[k].toNat_lt
            by_cases c1 : s[k].toNat < 48
            · have hf : W.isDec s.data.toList = false := by rw [HR.out]; exact all_not s k hlt (by simp [W.isDig]; omega)
              have HV := Lib.hid (numV_not _ hf)
              have HE := Lib.hid (numE_not _ hf)
              clear hf
              go_wp2
              go_ret2
              exact ⟨by rw [HV.out, HE.out]; rfl, rfl⟩
            · by_cases c2 : 57 < s[k].toNat
              · have hf : W.isDec s.data.toList = false := by rw [HR.out]; exact all_not s k hlt (by simp [W.isDig]; omega)
                have HV := Lib.hid (numV_not _ hf)
                have HE := Lib.hid (numE_not _ hf)
                clear hf
                go_wp2
                go_ret2
                exact ⟨by rw [HV.out, HE.out]; rfl, rfl⟩
              · cases gb with
                | true =>
                  have HN : Hid (∀ n', Seen s (k + 1) n' true) := fun n' => HA.out.on hlt ⟨by omega, by omega⟩ (by simp) (by simp)
                  by_cases c3 : (18446744073709551615 - ((s[k].toNat : Int) - 48)) / 10 < nv
                  · go_wp2
                    go_round
                    case rel => exact ⟨k + 1, _, true, by omega, rfl, rfl, by go_num, HN.out _⟩
                    case measure => simp [intOf]; omega
                  · go_wp2
                    go_round
                    case rel => exact ⟨k + 1, _, true, by omega, rfl, rfl, by go_num, HN.out _⟩
                    case measure => simp [intOf]; omega
                | false =>
                  obtain ⟨b1, b2⟩ := HA.out.not
                  have HN : Hid (∀ (n' : Int) (g' : Bool), g' = decide (18446744073709551615 < W.val (s.data.toList.take k) * 10 + (s[k].toNat - 48)) → (g' = false → n' = W.val (s.data.toList.take k) * 10 + (s[k].toNat - 48 : Nat)) → Seen s (k + 1) n' g') := fun n' g' e1 e2 => HA.out.on hlt ⟨by omega, by omega⟩ (by simpa using e1) e2
                  clear HA
                  subst b2
                  generalize W.val (s.data.toList.take k) = v at *
                  by_cases c3 : 18446744073709551615 < v * 10 + (s[k].toNat - 48)
                  · go_wp2
                    go_round
                    case rel => exact ⟨k + 1, _, true, by omega, rfl, rfl, by go_num, HN.out _ true (by simp [c3]) (by simp)⟩
                    case measure => simp [intOf]; omega
                  · go_wp2
                    go_round
                    case rel => exact ⟨k + 1, _, false, by omega, rfl, rfl, by go_num, HN.out _ false (by simp; omega) (fun _ => by omega)⟩
                    case measure => simp [intOf]; omega
          · have ht : s.data.toList.take k = s.data.toList := List.take_of_length_le (by rw [len_data]; omega)
            have hall : s.data.toList.all W.isDig = true := by have := HA.out.1; rwa [ht] at this
            have hd : W.isDec s.data.toList = true := by rw [HR.out]; exact hall
            clear hall
            cases gb with
            | true =>
              have hb := HA.out.big
              rw [ht] at hb
              have HV : Hid (numV s.data.toList = 0) := by show _ = _; unfold numV; rw [if_neg (by omega)]
              have HE : Hid (numE s.data.toList = 7) := by show _ = _; unfold numE; rw [if_pos hd, if_neg (by omega)]
              clear hd ht hb
              go_wp2
              go_ret2
              exact ⟨by rw [HV.out, HE.out]; rfl, rfl⟩
            | false =>
              obtain ⟨b1, b2⟩ := HA.out.not
              rw [ht] at b1 b2
              have HV : Hid (numV s.data.toList = nv) := by show _ = _; unfold numV; rw [if_pos ⟨hd, b1⟩, b2]
              have HE : Hid (numE s.data.toList = 0) := by show _ = _; unfold numE; rw [if_pos hd, if_pos b1]
              clear hd ht b1 b2
              go_wp2
              go_ret2
              exact ⟨by rw [HV.out, HE.out]; rfl, rfl⟩
      · clear h1 h0
        go_enter Tryd.func7, Tryd.ntmps7
        go_wp2
        go_loop [4, 5, 6, 7] (fun n g i _ => ∃ (k : Nat) (nv : Int) (gb : Bool), k ≤ s.size ∧ n = .int .u64 nv ∧ g = .bool gb ∧ i = .int .i64 k ∧ Hid (Seen s k nv gb)) (fun _ _ i _ => s.size - (intOf i).toNat)
        case atStart => exact ⟨0, 0, false, Nat.zero_le _, rfl, rfl, rfl, Seen.start s⟩
        case round =>
          obtain ⟨k, nv, gb, hk, rfl, rfl, rfl, HA⟩ := hrel
          by_cases hlt : k < s.size
          · have hu := s[k].toNat_lt
            by_cases c1 : s[k].toNat < 48
            · have hf : W.isDec s.data.toList = false := by rw [HR.out]; exact all_not s k hlt (by simp [W.isDig]; omega)
              have HV := Lib.hid (numV_not _ hf)
              have HE := Lib.hid (numE_not _ hf)
              clear hf
              go_wp2
              go_ret2
              exact ⟨by rw [HV.out, HE.out]; rfl, rfl⟩
            · by_cases c2 : 57 < s[k].toNat
              · have hf : W.isDec s.data.toList = false := by rw [HR.out]; exact all_not s k hlt (by simp [W.isDig]; omega)
                have HV := Lib.hid (numV_not _ hf)
                have HE := Lib.hid (numE_not _ hf)
                clear hf
                go_wp2
                go_ret2
                exact ⟨by rw [HV.out, HE.out]; rfl, rfl⟩
              · cases gb with
                | true =>
                  have HN : Hid (∀ n', Seen s (k + 1) n' true) := fun n' => HA.out.on hlt ⟨by omega, by omega⟩ (by simp) (by simp)
                  by_cases c3 : (18446744073709551615 - ((s[k].toNat : Int) - 48)) / 10 < nv
                  · go_wp2
                    go_round
                    case rel => exact ⟨k + 1, _, true, by omega, rfl, rfl, by go_num, HN.out _⟩
                    case measure => simp [intOf]; omega
                  · go_wp2
                    go_round
                    case rel => exact ⟨k + 1, _, true, by omega, rfl, rfl, by go_num, HN.out _⟩
                    case measure => simp [intOf]; omega
                | false =>
                  obtain ⟨b1, b2⟩ := HA.out.not
                  have HN : Hid (∀ (n' : Int) (g' : Bool), g' = decide (18446744073709551615 < W.val (s.data.toList.take k) * 10 + (s[k].toNat - 48)) → (g' = false → n' = W.val (s.data.toList.take k) * 10 + (s[k].toNat - 48 : Nat)) → Seen s (k + 1) n' g') := fun n' g' e1 e2 => HA.out.on hlt ⟨by omega, by omega⟩ (by simpa using e1) e2
                  clear HA
                  subst b2
                  generalize W.val (s.data.toList.take k) = v at *
                  by_cases c3 : 18446744073709551615 < v * 10 + (s[k].toNat - 48)
                  · go_wp2
                    go_round
                    case rel => exact ⟨k + 1, _, true, by omega, rfl, rfl, by go_num, HN.out _ true (by simp [c3]) (by simp)⟩
                    case measure => simp [intOf]; omega
                  · go_wp2
                    go_round
                    case rel => exact ⟨k + 1, _, false, by omega, rfl, rfl, by go_num, HN.out _ false (by simp; omega) (fun _ => by omega)⟩
                    case measure => simp [intOf]; omega
          · have ht : s.data.toList.take k = s.data.toList := List.take_of_length_le (by rw [len_data]; omega)
            have hall : s.data.toList.all W.isDig = true := by have := HA.out.1; rwa [ht] at this
            have hd : W.isDec s.data.toList = true := by rw [HR.out]; exact hall
            clear hall
            cases gb with
            | true =>
              have hb := HA.out.big
              rw [ht] at hb
              have HV : Hid (numV s.data.toList = 0) := by show _ = _; unfold numV; rw [if_neg (by omega)]
              have HE : Hid (numE s.data.toList = 7) := by show _ = _; unfold numE; rw [if_pos hd, if_neg (by omega)]
              clear hd ht hb
              go_wp2
              go_ret2
              exact ⟨by rw [HV.out, HE.out]; rfl, rfl⟩
            | false =>
              obtain ⟨b1, b2⟩ := HA.out.not
              rw [ht] at b1 b2
              have HV : Hid (numV s.data.toList = nv) := by show _ = _; unfold numV; rw [if_pos ⟨hd, b1⟩, b2]
              have HE : Hid (numE s.data.toList = 0) := by show _ = _; unfold numE; rw [if_pos hd, if_pos b1]
              clear hd ht b1 b2
              go_wp2
              go_ret2
              exact ⟨by rw [HV.out, HE.out]; rfl, rfl⟩

end Go.Proofs.YtiocibllmaakkaaDoor
