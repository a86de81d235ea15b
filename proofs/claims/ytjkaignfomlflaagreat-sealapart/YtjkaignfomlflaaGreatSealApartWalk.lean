/-
  Layer 7: SealApart, the walk.
-/
import Derived.Test.YtjkaignfomlflaaGreatSealApartA0
import Derived.Test.YtjkaignfomlflaaGreatSealApartA1
import Derived.Test.YtjkaignfomlflaaGreatSealApartB0
import Derived.Test.YtjkaignfomlflaaGreatSealApartB1
import Derived.Test.YtjkaignfomlflaaGreatSealApartC0
import Derived.Test.YtjkaignfomlflaaGreatSealApartC1
namespace Go.Proofs.YtjkaignfomlflaaGreat.SealApartW
open Go.RowKit
set_option linter.unusedVariables false
set_option maxRecDepth 20000

theorem core (a0 : ByteArray) (i j m n : Nat) (a5 : ByteArray) (A : Nat) (y : UInt8) (w : World) (h1 : 1 ≤ a0.size) (h2 : a0.size ≤ 64) (hi : i ≤ 18446744073709551615) (hj : j ≤ 18446744073709551615) (hm : m ≤ 18446744073709551615) (hn : n ≤ 18446744073709551615) (hb : a5.size ≤ 100) (hA : A ≤ 65535) :
    Calls Tryz.prog 4 #[.string a0, .int .u64 (i : Int), .int .u64 (j : Int), .int .u64 (m : Int), .int .u64 (n : Int), .string a5, .int .u16 (A : Int), .int .u8 (y.toNat : Int)] w fun e w' => e = .returned (.bool true) ∧ Below w.heap.size w w' := by
  by_cases hij : i = j
  · by_cases hmn : m = n
    · by_cases hy : y = 0
      · exact coreA0 a0 i j m n a5 A y w h1 h2 hi hj hm hn hb hA hij hmn hy
      · exact coreA1 a0 i j m n a5 A y w h1 h2 hi hj hm hn hb hA hij hmn hy
    · by_cases hy : y = 0
      · exact coreB0 a0 i j m n a5 A y w h1 h2 hi hj hm hn hb hA hij hmn hy
      · exact coreB1 a0 i j m n a5 A y w h1 h2 hi hj hm hn hb hA hij hmn hy
  · by_cases hy : y = 0
    · exact coreC0 a0 i j m n a5 A y w h1 h2 hi hj hm hn hb hA hij hy
    · exact coreC1 a0 i j m n a5 A y w h1 h2 hi hj hm hn hb hA hij hy

set_option maxRecDepth 20000 in
set_option maxHeartbeats 4000000 in
theorem walk (a0 : ByteArray) (a1 a2 a3 a4 : Int) (a5 : ByteArray) (a6 a7 : Int) (w : World) (w0 : a0.size ≤ maxLen) (w1 : (Lit.int .u64 a1).wf = true) (w2 : (Lit.int .u64 a2).wf = true) (w3 : (Lit.int .u64 a3).wf = true) (w4 : (Lit.int .u64 a4).wf = true) (w5 : a5.size ≤ maxLen) (w6 : (Lit.int .u16 a6).wf = true) (w7 : (Lit.int .u8 a7).wf = true) :
    Calls Tryz.prog 4 #[.string a0, .int .u64 a1, .int .u64 a2, .int .u64 a3, .int .u64 a4, .string a5, .int .u16 a6, .int .u8 a7] w fun e w' => e = .returned (.bool true) ∧ Below w.heap.size w w' := by
  obtain ⟨p1, q1⟩ := bounds_u64 w1
  obtain ⟨p2, q2⟩ := bounds_u64 w2
  obtain ⟨p3, q3⟩ := bounds_u64 w3
  obtain ⟨p4, q4⟩ := bounds_u64 w4
  obtain ⟨p6, q6⟩ := bounds_u16 w6
  obtain ⟨p7, q7⟩ := bounds_u8 w7
  by_cases h : 1 ≤ a0.size ∧ a0.size ≤ 64 ∧ a5.size ≤ 100
  · have := core a0 a1.toNat a2.toNat a3.toNat a4.toNat a5 a6.toNat (UInt8.ofNat a7.toNat) w h.1 h.2.1 (by omega) (by omega) (by omega) (by omega) h.2.2 (by omega)
    rw [Int.toNat_of_nonneg p1, Int.toNat_of_nonneg p2, Int.toNat_of_nonneg p3, Int.toNat_of_nonneg p4, Int.toNat_of_nonneg p6, show (((UInt8.ofNat a7.toNat).toNat : Nat) : Int) = a7 from by rw [UInt8.toNat_ofNat']; omega] at this
    exact this
  · have C0 := Lib.hid (awake7_any w)
    clear w0 w1 w2 w3 w4 w5 w6 w7 p1 q1 p2 q2 p3 q3 p4 q4 p6 q6 p7 q7
    go_enter Tryz.func4, Tryz.ntmps4
    go_wp2_with fail
    refine C0.out.mono ?_
    rintro e wa ⟨rfl, ba⟩
    clear C0
    by_cases h1 : (a0.size : Int) < 1
    · clear h
      go_wp2
      go_ret
      exact ⟨rfl, ba⟩
    · by_cases h2 : (64 : Int) < a0.size
      · clear h
        go_wp2
        go_ret
        exact ⟨rfl, ba⟩
      · have h3 : (100 : Int) < a5.size := by omega
        clear h
        go_wp2
        go_ret
        exact ⟨rfl, ba⟩

end Go.Proofs.YtjkaignfomlflaaGreat.SealApartW
