/-
  Layer 7: SealKeys, the walk.
-/
import Derived.Test.YtjkaignfomlflaaGreatMod23
import Derived.OpenShut
namespace Go.Proofs.YtjkaignfomlflaaGreat.SealKeysW
open Go.RowKit
set_option linter.unusedVariables false
set_option maxRecDepth 20000

/-- What the walk asks of two keys, a body, two nonces. -/
structure Two (ka kb : ByteArray) (m n : Nat) (body : ByteArray) (Y1 Y2 : List Value) (Sm Sn OL : ByteArray) (E : Int) : Prop where
  CN1 : ∀ wx, Calls Tryz.prog 9 #[.string ka] wx fun e w' => e = .returned (.tuple #[.agg Y1.toArray, .int .i64 0]) ∧ Below wx.heap.size wx w'
  CN2 : ∀ wx, Calls Tryz.prog 9 #[.string kb] wx fun e w' => e = .returned (.tuple #[.agg Y2.toArray, .int .i64 0]) ∧ Below wx.heap.size wx w'
  CSm : ∀ wx, Calls Tryz.prog 10 #[.agg Y1.toArray, .int .u64 1, .int .u64 (m : Int), .string body] wx fun e w' => e = .returned (.string Sm) ∧ Below wx.heap.size wx w'
  CSn : ∀ wx, Calls Tryz.prog 10 #[.agg Y1.toArray, .int .u64 1, .int .u64 (n : Int), .string body] wx fun e w' => e = .returned (.string Sn) ∧ Below wx.heap.size wx w'
  RO : ∀ wx, Calls Tryz.prog 12 #[.string kb, .int .u64 1, .int .u64 (m : Int), .string Sm] wx fun e w' => e = .returned (.tuple #[.string OL, .int .i64 E]) ∧ Below wx.heap.size wx w'
  CO : ∀ wx, Calls Tryz.prog 11 #[.agg Y2.toArray, .int .u64 1, .int .u64 (m : Int), .string Sm] wx fun e w' => e = .returned (.tuple #[.string OL, .int .i64 E]) ∧ Below wx.heap.size wx w'
  RSm : ∀ wx, Calls Tryz.prog 13 #[.string ka, .int .u64 1, .int .u64 (m : Int), .string body] wx fun e w' => e = .returned (.string Sm) ∧ Below wx.heap.size wx w'
  RSn : ∀ wx, Calls Tryz.prog 13 #[.string ka, .int .u64 1, .int .u64 (n : Int), .string body] wx fun e w' => e = .returned (.string Sn) ∧ Below wx.heap.size wx w'
  len1 : Y1.length = 17
  len2 : Y2.length = 17
  all1 : Y1.toArray.all (·.oneCell') = true
  all2 : Y2.toArray.all (·.oneCell') = true
  same : ka = kb → E = 0
  once : m = n → Sn = Sm

theorem two_of (ka kb : ByteArray) (m n : Nat) (body : ByteArray) (h1 : 1 ≤ ka.size) (h2 : ka.size ≤ 60) (h3 : 1 ≤ kb.size) (h4 : kb.size ≤ 60) (hm : m ≤ 18446744073709551615) (hn : n ≤ 18446744073709551615) (hb : body.size ≤ 100) :
    ∃ Y1 Y2 Sm Sn OL E, Two ka kb m n body Y1 Y2 Sm Sn OL E := by
  have hs : (⟨(Z7.sealL ka.data.toList 1 m body.data.toList).toArray⟩ : ByteArray).size ≤ 116 := by rw [size_ofL, Z7.sealL_length, size_toL]; omega
  refine ⟨keyBox ka.data.toList, keyBox kb.data.toList, ⟨(Z7.sealL ka.data.toList 1 m body.data.toList).toArray⟩, ⟨(Z7.sealL ka.data.toList 1 n body.data.toList).toArray⟩, ⟨(Z7.openL kb.data.toList 1 m (Z7.sealL ka.data.toList 1 m body.data.toList)).toArray⟩, ((Z7.openE kb.data.toList 1 m (Z7.sealL ka.data.toList 1 m body.data.toList) : Nat) : Int),
    fun wx => sealNew_yes ka h1 (by omega) wx, fun wx => sealNew_yes kb h3 (by omega) wx, fun wx => seal_any _ _ (.inl rfl) 1 m body (by decide) hm (by omega) wx, fun wx => seal_any _ _ (.inl rfl) 1 n body (by decide) hn (by omega) wx,
    fun wx => refOpen_any kb (by omega) 1 m _ (by decide) hm hs wx, fun wx => open_any _ _ (.inl rfl) 1 m _ (by decide) hm (by omega) wx,
    fun wx => refSeal_any ka (by omega) 1 m body (by decide) hm hb wx, fun wx => refSeal_any ka (by omega) 1 n body (by decide) hn hb wx, keyBox_length _, keyBox_length _, keyBox_all _, keyBox_all _, fun e => ?_, fun e => ?_⟩
  · subst e; rw [Z7.openE_seal]; rfl
  · subst e; rfl

set_option maxRecDepth 20000 in
set_option maxHeartbeats 8000000 in
theorem core (a0 a1 : ByteArray) (m n : Nat) (a4 : ByteArray) (w : World) (h1 : 1 ≤ a0.size) (h2 : a0.size ≤ 60) (h3 : 1 ≤ a1.size) (h4 : a1.size ≤ 60) (hm : m ≤ 18446744073709551615) (hn : n ≤ 18446744073709551615) (hb : a4.size ≤ 100) :
    Calls Tryz.prog 5 #[.string a0, .string a1, .int .u64 (m : Int), .int .u64 (n : Int), .string a4] w fun e w' => e = .returned (.bool true) ∧ Below w.heap.size w w' := by
  obtain ⟨Y1, Y2, Sm, Sn, OL, E, HT⟩ := two_of a0 a1 m n a4 h1 h2 h3 h4 hm hn hb
  have HTT := Lib.hid HT
  have hi1 := info17c HT.len1
  have hi2 := info17c HT.len2
  have HZL : Hid (zeroBox.length = 17) := zeroBox_length
  have HO1 : Hid (zeroBox.toArray.size = Y1.toArray.size) := by show _ = _; rw [List.size_toArray, List.size_toArray, HZL.out, HT.len1]
  have HO2 : Hid (zeroBox.toArray.size = Y2.toArray.size) := by show _ = _; rw [List.size_toArray, List.size_toArray, HZL.out, HT.len2]
  have C0 := Lib.hid (awake7_any w)
  have g1 : ¬ (a0.size : Int) < 1 := by omega
  have g2 : ¬ (a1.size : Int) < 1 := by omega
  have g3 : ¬ (60 : Int) < max (a0.size : Int) (a1.size : Int) := by omega
  have g4 : ¬ (100 : Int) < a4.size := by omega
  have hadd := fun wx => run_string_add_sum (P := Tryz.prog) wx a0 a1 (by omega)
  obtain ⟨v, hv⟩ : ∃ v, v = a0 ++ a1 := ⟨_, rfl⟩
  rw [← hv] at hadd
  have hvs : v.size = a0.size + a1.size := by rw [hv, ByteArray.size_append]
  have hvl : v.size ≤ 120 := by omega
  have HVS := Lib.hid hvs
  have hwr : IntKind.i64.wrap ((a0.size : Int) + (a1.size : Int)) = (v.size : Int) := by rw [IntKind.wrap_i64]; omega
  have hwr2 : (a0.size : Int) + (a1.size : Int) = (v.size : Int) := by omega
  clear hv HT hvs
  go_enter Tryz.func5, Tryz.ntmps5
  go_wp2_with fail
  refine C0.out.mono ?_
  rintro e wa ⟨rfl, ba⟩
  clear C0
  go_wp2
  go_loopw [11, 49] (fun _ iv wr => ∃ i : Nat, i ≤ v.size ∧ iv = .int .i64 i ∧ Below w.heap.size w wr) (fun _ iv _ => v.size - (intOf iv).toNat)
  case atStart => exact ⟨0, Nat.zero_le _, rfl, ba⟩
  case round =>
    clear ba
    obtain ⟨i, hi, rfl, br⟩ := hrel
    by_cases hlt : i < v.size
    · have hs : (i : Int) < v.size := by omega
      by_cases hz : ((v[i]'hlt).toNat : Int) = 0
      · go_wp2
        go_ret
        exact ⟨rfl, br⟩
      · go_wp2
        go_roundw
        case rel => exact ⟨i + 1, by omega, by go_num, br⟩
        case measure => simp [intOf]; omega
    · obtain rfl : i = v.size := by omega
      clear hadd hwr hwr2 g1 g2 g3 g4
      have hs : ¬ (v.size : Int) < v.size := by omega
      go_wp2_with fail
      refine (HTT.out.CN1 _).mono ?_
      rintro e w1 ⟨rfl, b1⟩
      have hb1 := br.trans (b1.mono br.size)
      clear b1 br
      have r1 : Row (w1.alloc (.cells Y1.toArray 35 (0, 0))) w1.heap.size 35 Y1 := Row.new' rfl rfl
      have hb1' := hb1.alloc hb1.size (.cells Y1.toArray 35 (0, 0))
      obtain ⟨g, hg⟩ : ∃ g, g = w1.heap.size := ⟨_, rfl⟩
      go_wp2_with (first
        | (refine wpList_store_new rfl 35 (.tmp 12) (.tmp 62) rfl w1 zeroBox.toArray _ _ _ rfl rfl rfl hi1 HO1.out HTT.out.all1 ?_; rw [← hg] at r1 ⊢; generalize w1.alloc (.cells Y1.toArray 35 (0, 0)) = w2 at *; clear hg hb1))
      refine (HTT.out.CN2 _).mono ?_
      rintro e w3 ⟨rfl, b3⟩
      have r3 := r1.below b3 r1.lt
      have hb3 := hb1'.trans (b3.mono hb1'.size)
      clear b3 r1 hb1'
      have r4 : Row (w3.alloc (.cells Y2.toArray 35 (0, 0))) w3.heap.size 35 Y2 := Row.new' rfl rfl
      have r5 := r3.alloc (.cells Y2.toArray 35 (0, 0))
      have hb4 := hb3.alloc hb3.size (.cells Y2.toArray 35 (0, 0))
      obtain ⟨k, hk⟩ : ∃ k, k = w3.heap.size := ⟨_, rfl⟩
      go_wp2_with (first
        | (refine wpList_store_new rfl 35 (.tmp 14) (.tmp 67) rfl w3 zeroBox.toArray _ _ _ rfl rfl rfl hi2 HO2.out HTT.out.all2 ?_; rw [← hk] at r4 ⊢; generalize w3.alloc (.cells Y2.toArray 35 (0, 0)) = w4 at *; clear hk hb3 r3)
        | refine wpList_load_row rfl 35 (.tmp 12) rfl g rfl _ _ _ _ r5 Tryz.underlying35 rfl hi1 ?_)
      refine (HTT.out.CSm _).mono ?_
      rintro e w5 ⟨rfl, b5⟩
      have q1 := r5.below b5 r5.lt
      have q2 := r4.below b5 r4.lt
      have hb5 := hb4.trans (b5.mono hb4.size)
      clear b5 r4 r5 hb4
      go_wp2_with fail
      refine (HTT.out.RO _).mono ?_
      rintro e w6 ⟨rfl, b6⟩
      have p1 := q1.below b6 q1.lt
      have p2 := q2.below b6 q2.lt
      have hb6 := hb5.trans (b6.mono hb5.size)
      clear b6 q1 q2 hb5
      by_cases hab : a0 = a1
      · have hE := HTT.out.same hab
        have hq : (a0.toList == a1.toList) = true := by rw [hab]; exact beq_self_eq_true _
        clear hab
        subst hE
        by_cases hmn : m = n
        · subst hmn
          have hS := HTT.out.once rfl
          subst hS
          go_wp2_with (first
            | refine wpList_load_row rfl 35 (.tmp 14) rfl k rfl _ _ _ _ p2 Tryz.underlying35 rfl hi2 ?_)
          refine (HTT.out.CO _).mono ?_
          rintro e w9 ⟨rfl, b9⟩
          have p9 := p1.below b9 p1.lt
          have hb9 := hb6.trans (b9.mono hb6.size)
          clear b9 p1 p2 hb6
          go_wp2_with (first
            | refine wpList_load_g rfl 35 (.tmp 12) rfl g rfl _ _ _ p9 Tryz.underlying35 rfl hi1 ?_)
          refine (HTT.out.CSn _).mono ?_
          rintro e w10 ⟨rfl, b10⟩
          have hb10 := hb9.trans (b10.mono hb9.size)
          clear b10 p9 hb9
          go_wp2
          go_ret
          exact ⟨rfl, hb10⟩
        · have hmi : ¬ (m : Int) = (n : Int) := by omega
          have hmb : ((m : Int) == (n : Int)) = false := by rw [beq_eq_false_iff_ne]; exact hmi
          clear hmn
          go_wp2_with fail
          refine (HTT.out.RSn _).mono ?_
          rintro e w7 ⟨rfl, b7⟩
          have p3 := p1.below b7 p1.lt
          have p4 := p2.below b7 p2.lt
          have hb7 := hb6.trans (b7.mono hb6.size)
          clear b7 p1 p2 hb6
          go_wp2_with fail
          refine (HTT.out.RSm _).mono ?_
          rintro e w8 ⟨rfl, b8⟩
          have p1 := p3.below b8 p3.lt
          have p2 := p4.below b8 p4.lt
          have hb6 := hb7.trans (b8.mono hb7.size)
          clear b8 p3 p4 hb7
          cases hSS : (Sn.toList == Sm.toList) with
          | true =>
            go_wp2
            go_ret
            exact ⟨rfl, hb6⟩
          | false =>
            go_wp2_with (first
              | refine wpList_load_row rfl 35 (.tmp 14) rfl k rfl _ _ _ _ p2 Tryz.underlying35 rfl hi2 ?_)
            refine (HTT.out.CO _).mono ?_
            rintro e w9 ⟨rfl, b9⟩
            have p9 := p1.below b9 p1.lt
            have hb9 := hb6.trans (b9.mono hb6.size)
            clear b9 p1 p2 hb6
            go_wp2_with (first
              | refine wpList_load_g rfl 35 (.tmp 12) rfl g rfl _ _ _ p9 Tryz.underlying35 rfl hi1 ?_)
            refine (HTT.out.CSn _).mono ?_
            rintro e w10 ⟨rfl, b10⟩
            have hb10 := hb9.trans (b10.mono hb9.size)
            clear b10 p9 hb9
            go_wp2
            go_ret
            exact ⟨rfl, hb10⟩
      · have hq : (a0.toList == a1.toList) = false := by
          rw [beq_eq_false_iff_ne]
          intro h
          rw [ByteArray.toList_eq, ByteArray.toList_eq] at h
          exact hab (Go.WideShapes.bytes_inj h)
        clear hab
        by_cases hE0 : E = 0
        · subst hE0
          go_wp2
          go_ret
          exact ⟨rfl, hb6⟩
        · have hEb : (E == 0) = false := by rw [beq_eq_false_iff_ne]; exact hE0
          by_cases hmn : m = n
          · subst hmn
            have hS := HTT.out.once rfl
            subst hS
            go_wp2_with (first
              | refine wpList_load_row rfl 35 (.tmp 14) rfl k rfl _ _ _ _ p2 Tryz.underlying35 rfl hi2 ?_)
            refine (HTT.out.CO _).mono ?_
            rintro e w9 ⟨rfl, b9⟩
            have p9 := p1.below b9 p1.lt
            have hb9 := hb6.trans (b9.mono hb6.size)
            clear b9 p1 p2 hb6
            go_wp2_with (first
              | refine wpList_load_g rfl 35 (.tmp 12) rfl g rfl _ _ _ p9 Tryz.underlying35 rfl hi1 ?_)
            refine (HTT.out.CSn _).mono ?_
            rintro e w10 ⟨rfl, b10⟩
            have hb10 := hb9.trans (b10.mono hb9.size)
            clear b10 p9 hb9
            go_wp2
            go_ret
            exact ⟨rfl, hb10⟩
          · have hmi : ¬ (m : Int) = (n : Int) := by omega
            have hmb : ((m : Int) == (n : Int)) = false := by rw [beq_eq_false_iff_ne]; exact hmi
            clear hmn
            go_wp2_with fail
            refine (HTT.out.RSn _).mono ?_
            rintro e w7 ⟨rfl, b7⟩
            have p3 := p1.below b7 p1.lt
            have p4 := p2.below b7 p2.lt
            have hb7 := hb6.trans (b7.mono hb6.size)
            clear b7 p1 p2 hb6
            go_wp2_with fail
            refine (HTT.out.RSm _).mono ?_
            rintro e w8 ⟨rfl, b8⟩
            have p1 := p3.below b8 p3.lt
            have p2 := p4.below b8 p4.lt
            have hb6 := hb7.trans (b8.mono hb7.size)
            clear b8 p3 p4 hb7
            cases hSS : (Sn.toList == Sm.toList) with
            | true =>
              go_wp2
              go_ret
              exact ⟨rfl, hb6⟩
            | false =>
              go_wp2_with (first
                | refine wpList_load_row rfl 35 (.tmp 14) rfl k rfl _ _ _ _ p2 Tryz.underlying35 rfl hi2 ?_)
              refine (HTT.out.CO _).mono ?_
              rintro e w9 ⟨rfl, b9⟩
              have p9 := p1.below b9 p1.lt
              have hb9 := hb6.trans (b9.mono hb6.size)
              clear b9 p1 p2 hb6
              go_wp2_with (first
                | refine wpList_load_g rfl 35 (.tmp 12) rfl g rfl _ _ _ p9 Tryz.underlying35 rfl hi1 ?_)
              refine (HTT.out.CSn _).mono ?_
              rintro e w10 ⟨rfl, b10⟩
              have hb10 := hb9.trans (b10.mono hb9.size)
              clear b10 p9 hb9
              go_wp2
              go_ret
              exact ⟨rfl, hb10⟩

set_option maxRecDepth 20000 in
set_option maxHeartbeats 4000000 in
theorem walk (a0 a1 : ByteArray) (a2 a3 : Int) (a4 : ByteArray) (w : World) (w0 : a0.size ≤ maxLen) (w1 : a1.size ≤ maxLen) (w2 : (Lit.int .u64 a2).wf = true) (w3 : (Lit.int .u64 a3).wf = true) (w4 : a4.size ≤ maxLen) :
    Calls Tryz.prog 5 #[.string a0, .string a1, .int .u64 a2, .int .u64 a3, .string a4] w fun e w' => e = .returned (.bool true) ∧ Below w.heap.size w w' := by
  obtain ⟨p2, q2⟩ := bounds_u64 w2
  obtain ⟨p3, q3⟩ := bounds_u64 w3
  by_cases h : 1 ≤ a0.size ∧ a0.size ≤ 60 ∧ 1 ≤ a1.size ∧ a1.size ≤ 60 ∧ a4.size ≤ 100
  · have := core a0 a1 a2.toNat a3.toNat a4 w h.1 h.2.1 h.2.2.1 h.2.2.2.1 (by omega) (by omega) h.2.2.2.2
    rw [Int.toNat_of_nonneg p2, Int.toNat_of_nonneg p3] at this
    exact this
  · have C0 := Lib.hid (awake7_any w)
    clear w0 w1 w2 w3 w4 p2 q2 p3 q3
    go_enter Tryz.func5, Tryz.ntmps5
    go_wp2_with fail
    refine C0.out.mono ?_
    rintro e wa ⟨rfl, ba⟩
    clear C0
    by_cases h1 : (a0.size : Int) < 1
    · clear h
      go_wp2
      go_ret
      exact ⟨rfl, ba⟩
    · by_cases h2 : (a1.size : Int) < 1
      · clear h
        go_wp2
        go_ret
        exact ⟨rfl, ba⟩
      · by_cases h3 : (60 : Int) < max (a0.size : Int) (a1.size : Int)
        · clear h
          go_wp2
          go_ret
          exact ⟨rfl, ba⟩
        · have h4 : (100 : Int) < a4.size := by omega
          clear h
          go_wp2
          go_ret
          exact ⟨rfl, ba⟩

end Go.Proofs.YtjkaignfomlflaaGreat.SealKeysW
