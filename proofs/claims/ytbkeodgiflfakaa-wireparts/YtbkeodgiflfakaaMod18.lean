/-
  Several texts in one module: XCut, XRead, SStepX, CAwake, XParse, XRef.
-/
import Derived.Test.YtbkeodgiflfakaaMod3
import Derived.Test.YtbkeodgiflfakaaMod8
import Derived.Test.YtbkeodgiflfakaaMod10
import Derived.Test.YtbkeodgiflfakaaMod11
import Derived.Test.YtbkeodgiflfakaaMod12
import Derived.Test.YtbkeodgiflfakaaMod14
import Derived.Test.YtbkeodgiflfakaaMod15
import Derived.Test.YtbkeodgiflfakaaMod16
import Derived.Test.YtbkeodgiflfakaaMod17
import Derived.Test.YtbkeodgiflfakaaMod9
import Derived.Test.YtbkeodgiflfakaaMod2
import Derived.Deep.RegionHeld3
/-
  Layer 9: a field's number; what a text's parts are; the datagram that a text is.
-/
namespace Go.Proofs.Ytbkeodgiflfakaa
open Go.RowKit
set_option linter.unusedVariables false
set_option maxRecDepth 20000

theorem number9_any (s : ByteArray) (h1 : 1 ≤ s.size) (h2 : s.size ≤ 8) (w : World) : Calls Try.prog 31 #[.string s] w fun e w' => e = .returned (.int .u64 (W.getN s.data.toList : Int)) ∧ w' = w := by
  go_enter Try.func31, Try.ntmps31
  go_wp2_with fail
  refine (get_mid s h1 h2 _).mono ?_
  rintro e w1 ⟨rfl, rfl⟩
  go_wp2
  go_ret
  exact ⟨rfl, rfl⟩

namespace X9
theorem szL (l : List UInt8) : (⟨l.toArray⟩ : ByteArray).size = l.length := List.size_toArray
theorem cutE_yes {s : List UInt8} {z : Nat} {zs : List Int} {r : List (List UInt8)} (hl : z ≤ s.length) (h : W.cutE (s.drop z) zs = (r, 0)) : W.cutE s ((z : Int) :: zs) = (s.take z :: r, 0) := by
  rw [W.cutE, if_neg (by omega), if_neg (by omega), Int.toNat_natCast, h]; rfl
theorem cutE_bad {s : List UInt8} {z : Nat} {zs : List Int} {e : Int} (hl : z ≤ s.length) (h : (W.cutE (s.drop z) zs).2 = e) (he : e ≠ 0) : (W.cutE s ((z : Int) :: zs)).2 = e := by
  rw [W.cutE, if_neg (by omega), if_neg (by omega), Int.toNat_natCast, if_neg (by rw [h]; exact he)]; exact h
theorem cutE_short {s : List UInt8} {z : Nat} {zs : List Int} (hl : s.length < z) : (W.cutE s ((z : Int) :: zs)).2 = 3 := by
  rw [W.cutE, if_neg (by omega), if_pos (by omega)]
theorem cutE_end (s : List UInt8) : W.cutE s [] = ([s], 0) := rfl
theorem cut2 (s : List UInt8) (h : 16 ≤ s.length) : W.cutE s [8, 8] = ([s.take 8, (s.drop 8).take 8, (s.drop 8).drop 8], 0) :=
  cutE_yes (z := 8) (by omega) (cutE_yes (z := 8) (by rw [List.length_drop]; omega) (cutE_end _))
theorem cut4 (s : List UInt8) (h : 14 ≤ s.length) : W.cutE s [2, 2, 8, 2] = ([s.take 2, (s.drop 2).take 2, ((s.drop 2).drop 2).take 8, (((s.drop 2).drop 2).drop 8).take 2, (((s.drop 2).drop 2).drop 8).drop 2], 0) :=
  cutE_yes (z := 2) (by omega) (cutE_yes (z := 2) (by simp only [List.length_drop]; omega) (cutE_yes (z := 8) (by simp only [List.length_drop]; omega) (cutE_yes (z := 2) (by simp only [List.length_drop]; omega) (cutE_end _))))
theorem cut4_short (s : List UInt8) (h : s.length < 14) : (W.cutE s [2, 2, 8, 2]).2 = 3 := by
  by_cases a : s.length < 2
  · exact cutE_short (z := 2) a
  · refine cutE_bad (z := 2) (by omega) ?_ (by decide)
    by_cases b : (s.drop 2).length < 2
    · exact cutE_short (z := 2) b
    · refine cutE_bad (z := 2) (by omega) ?_ (by decide)
      by_cases c : ((s.drop 2).drop 2).length < 8
      · exact cutE_short (z := 8) c
      · refine cutE_bad (z := 8) (by omega) ?_ (by decide)
        exact cutE_short (z := 2) (by simp only [List.length_drop]; omega)
end X9

theorem cutFour (s : ByteArray) (h : 14 ≤ s.size) (h' : s.size ≤ 281474976710656) (b : Nat) (w : World) (hb : b < w.heap.size) (h0 : w.cell? ⟨b, 0, none⟩ = some (.int .i64 2)) (h1 : w.cell? ⟨b, 1, none⟩ = some (.int .i64 2)) (h2 : w.cell? ⟨b, 2, none⟩ = some (.int .i64 8)) (h3 : w.cell? ⟨b, 3, none⟩ = some (.int .i64 2)) :
    Calls Try.prog 30 #[.string s, .slice (some ⟨b, 0, none⟩) 4 4] w fun e w' => e = .returned (.tuple #[.slice (some ⟨w.heap.size, 0, none⟩) 5 5, .int .i64 0]) ∧
      w'.ownsRow w.heap.size 9 1 (.slice (some ⟨w.heap.size, 0, none⟩) 5 5) 5 (W.strs [s.data.toList.take 2, (s.data.toList.drop 2).take 2, ((s.data.toList.drop 2).drop 2).take 8, (((s.data.toList.drop 2).drop 2).drop 8).take 2, (((s.data.toList.drop 2).drop 2).drop 8).drop 2]) ∧ Below w.heap.size w w' := by
  have hl : s.data.toList.length = s.size := by simp
  have hE := X9.cut4 s.data.toList (by omega)
  have := cut_any s.data.toList (some ⟨b, 0, none⟩) 4 [2, 2, 8, 2] w (by omega) (by decide) (fun _ => ⟨b, 0, rfl, hb, fun i hi => by
    match i, hi with
    | 0, _ => simpa using h0
    | 1, _ => simpa using h1
    | 2, _ => simpa using h2
    | 3, _ => simpa using h3⟩)
  rw [hE] at this
  refine this.mono ?_
  rintro e w' ⟨v, rfl, h | h, hbel⟩
  · obtain ⟨_, rfl, _, ho⟩ := h
    exact ⟨rfl, ho, hbel⟩
  · exact absurd rfl h.1
theorem cutFour_no (s : ByteArray) (h : s.size < 14) (b : Nat) (w : World) (hb : b < w.heap.size) (h0 : w.cell? ⟨b, 0, none⟩ = some (.int .i64 2)) (h1 : w.cell? ⟨b, 1, none⟩ = some (.int .i64 2)) (h2 : w.cell? ⟨b, 2, none⟩ = some (.int .i64 8)) (h3 : w.cell? ⟨b, 3, none⟩ = some (.int .i64 2)) :
    Calls Try.prog 30 #[.string s, .slice (some ⟨b, 0, none⟩) 4 4] w fun e w' => e = .returned (.tuple #[.slice none 0 0, .int .i64 3]) ∧ Below w.heap.size w w' := by
  have hl : s.data.toList.length = s.size := by simp
  have hE := X9.cut4_short s.data.toList (by omega)
  have := cut_any s.data.toList (some ⟨b, 0, none⟩) 4 [2, 2, 8, 2] w (by omega) (by decide) (fun _ => ⟨b, 0, rfl, hb, fun i hi => by
    match i, hi with
    | 0, _ => simpa using h0
    | 1, _ => simpa using h1
    | 2, _ => simpa using h2
    | 3, _ => simpa using h3⟩)
  rw [hE] at this
  refine this.mono ?_
  rintro e w' ⟨v, rfl, h | h, hbel⟩
  · exact absurd h.1 (by decide)
  · obtain ⟨_, rfl⟩ := h
    exact ⟨rfl, hbel⟩

structure Leaf (G : Prop) : Prop where
  out : G
theorem cut_here9 {G A : Prop} (h : Leaf G → A) (g : G) : A := h ⟨g⟩
theorem cell_alloc {w : World} {p : Addr} {v : Value} (h : w.cell? p = some v) {o : Obj} : (w.alloc o).cell? p = some v := (World.cell?_alloc_lt _ _ _ (block_lt h)).trans h
theorem cell_setRow {w : World} {g k o : Nat} {v : Value} (h : w.cell? ⟨g, o, none⟩ = some v) (hk : g ≠ k) (cs : Array Value) : (w.setRow k cs).cell? ⟨g, o, none⟩ = some v := by rw [World.cell?_of_block (Go.setRow_other w k g cs hk)]; exact h

/-- What a row of texts holds, by its places. -/
theorem ownsAt {x : World} {B g cap n : Nat} {l : List (List UInt8)} (h : x.ownsRow B 9 1 (.slice (some ⟨g, 0, none⟩) n cap) n (W.strs l)) (j : Nat) (hj : j < n) (y : List UInt8) (hy : l[j]? = some y) :
    x.cell? ⟨g, j, none⟩ = some (.string ⟨y.toArray⟩) := by
  rw [h.cellAt j (by omega)]
  simp [W.strs, hy]

end Go.Proofs.Ytbkeodgiflfakaa

/-
  Layer 9: the part that a body is.
-/
namespace Go.Proofs.Ytbkeodgiflfakaa
open Go.RowKit
set_option linter.unusedVariables false
set_option maxRecDepth 20000

set_option maxHeartbeats 2000000 in
theorem read_short (s : ByteArray) (hs : s.size < 14) (w : World) :
    Calls Try.prog 15 #[.string s] w fun e w' => e = .returned (.tuple #[.agg #[.int .u16 0, .int .u16 0, .int .u64 0, .int .i64 0, .bool false, .string ⟨#[]⟩], .int .i64 3]) ∧ Below w.heap.size w w' := by
  have CC : Hid (∀ (b : Nat) (wx : World), b < wx.heap.size → wx.cell? ⟨b, 0, none⟩ = some (.int .i64 2) → wx.cell? ⟨b, 1, none⟩ = some (.int .i64 2) → wx.cell? ⟨b, 2, none⟩ = some (.int .i64 8) → wx.cell? ⟨b, 3, none⟩ = some (.int .i64 2) → Calls Try.prog 30 #[.string s, .slice (some ⟨b, 0, none⟩) 4 4] wx fun e w' => e = .returned (.tuple #[.slice none 0 0, .int .i64 3]) ∧ Below wx.heap.size wx w') := fun b wx h h0 h1 h2 h3 => cutFour_no s hs b wx h h0 h1 h2 h3
  have r0 : Row (w.alloc (.cells #[.int .u16 0, .int .u16 0, .int .u64 0, .int .i64 0, .bool false, .string ⟨#[]⟩] 38 (0, 0))) w.heap.size 38 [.int .u16 0, .int .u16 0, .int .u64 0, .int .i64 0, .bool false, .string ⟨#[]⟩] := Row.new' rfl rfl
  have b0 : Below w.heap.size w (w.alloc (.cells #[.int .u16 0, .int .u16 0, .int .u64 0, .int .i64 0, .bool false, .string ⟨#[]⟩] 38 (0, 0))) := (Below.refl _ _).alloc (Nat.le_refl _) _
  go_enter Try.func15, Try.ntmps15
  go_wp2_with fail
  refine (CC.out _ _ ?c0 ?c1 ?c2 ?c3 ?c4).mono ?_
  case c0 => simp
  case c1 => simp
  case c2 => simp
  case c3 => simp
  case c4 => simp
  rintro e w1 ⟨rfl, hb⟩
  have r1 := (r0.alloc (.cells #[.int .i64 2, .int .i64 2, .int .i64 8, .int .i64 2] 3 (0, 0))).below hb (by simp; omega)
  have hb1 : Below w.heap.size w w1 := (b0.alloc b0.size (.cells #[.int .i64 2, .int .i64 2, .int .i64 8, .int .i64 2] 3 (0, 0))).trans (hb.mono (by simp; omega))
  clear hb r0 b0
  go_wp2_with (first
    | refine wpList_store_row rfl 38 (.tmp 2) (.tmp 17) rfl w.heap.size _ rfl rfl _ _ r1 infoPart rfl (by simp [Value.oneCell']) ?_)
  exact bodyPost_ret (results_row_tmp rfl _ _ w.heap.size 38 [.int .u16 0, .int .u16 0, .int .u64 0, .int .i64 0, .bool false, .string ⟨#[]⟩] _ rfl (r1.setRow _) Try.underlying38 rfl infoPart) rfl ⟨rfl, below_row hb1 (Nat.le_refl _) _⟩

/-- What Read answers of a body of 14 bytes or more. -/
def readC (s : List UInt8) : List Value := if pFaultE ((X9.fN s % 32768 : Nat) : Int) (X9.fT s).length ≠ 0 then [.int .u16 0, .int .u16 0, .int .u64 0, .int .i64 0, .bool false, .string ⟨#[]⟩] else
  [.int .u16 (X9.fSt s : Int), .int .u16 (X9.fRe s : Int), .int .u64 (X9.fNm s : Int), .int .i64 ((X9.fN s % 32768 : Nat) : Int), .bool (decide (32768 ≤ X9.fN s)), .string ⟨(X9.fT s).toArray⟩]

set_option maxHeartbeats 8000000 in
theorem read_long (s : ByteArray) (hs : 14 ≤ s.size) (hs' : s.size ≤ 281474976710656) (w : World) :
    Calls Try.prog 15 #[.string s] w fun e w' => e = .returned (.tuple #[.agg (readC s.data.toList).toArray, .int .i64 (pFaultE ((X9.fN s.data.toList % 32768 : Nat) : Int) (X9.fT s.data.toList).length)]) ∧ Below w.heap.size w w' := by
  have hl : s.data.toList.length = s.size := by simp
  have C0 : Hid (∀ wx, Calls Try.prog 31 #[.string ⟨(s.data.toList.take 2).toArray⟩] wx fun e w' => e = .returned (.int .u64 (X9.fSt s.data.toList : Int)) ∧ w' = wx) := fun wx => number9_any ⟨(s.data.toList.take 2).toArray⟩ (by rw [X9.szL, List.length_take]; omega) (by rw [X9.szL, List.length_take]; omega) wx
  have C1 : Hid (∀ wx, Calls Try.prog 31 #[.string ⟨((s.data.toList.drop 2).take 2).toArray⟩] wx fun e w' => e = .returned (.int .u64 (X9.fRe s.data.toList : Int)) ∧ w' = wx) := fun wx => number9_any ⟨((s.data.toList.drop 2).take 2).toArray⟩ (by rw [X9.szL]; simp only [List.length_take, List.length_drop]; omega) (by rw [X9.szL, List.length_take]; omega) wx
  have C2 : Hid (∀ wx, Calls Try.prog 31 #[.string ⟨(((s.data.toList.drop 2).drop 2).take 8).toArray⟩] wx fun e w' => e = .returned (.int .u64 (X9.fNm s.data.toList : Int)) ∧ w' = wx) := fun wx => number9_any ⟨(((s.data.toList.drop 2).drop 2).take 8).toArray⟩ (by rw [X9.szL]; simp only [List.length_take, List.length_drop]; omega) (by rw [X9.szL, List.length_take]; omega) wx
  have C3 : Hid (∀ wx, Calls Try.prog 31 #[.string ⟨((((s.data.toList.drop 2).drop 2).drop 8).take 2).toArray⟩] wx fun e w' => e = .returned (.int .u64 (X9.fN s.data.toList : Int)) ∧ w' = wx) := fun wx => number9_any ⟨((((s.data.toList.drop 2).drop 2).drop 8).take 2).toArray⟩ (by rw [X9.szL]; simp only [List.length_take, List.length_drop]; omega) (by rw [X9.szL, List.length_take]; omega) wx
  have CC : Hid (∀ (b : Nat) (wx : World), b < wx.heap.size → wx.cell? ⟨b, 0, none⟩ = some (.int .i64 2) → wx.cell? ⟨b, 1, none⟩ = some (.int .i64 2) → wx.cell? ⟨b, 2, none⟩ = some (.int .i64 8) → wx.cell? ⟨b, 3, none⟩ = some (.int .i64 2) → Calls Try.prog 30 #[.string s, .slice (some ⟨b, 0, none⟩) 4 4] wx fun e w' => e = .returned (.tuple #[.slice (some ⟨wx.heap.size, 0, none⟩) 5 5, .int .i64 0]) ∧
      (w'.cell? ⟨wx.heap.size, 0, none⟩ = some (.string ⟨(s.data.toList.take 2).toArray⟩) ∧ w'.cell? ⟨wx.heap.size, 1, none⟩ = some (.string ⟨((s.data.toList.drop 2).take 2).toArray⟩) ∧ w'.cell? ⟨wx.heap.size, 2, none⟩ = some (.string ⟨(((s.data.toList.drop 2).drop 2).take 8).toArray⟩) ∧ w'.cell? ⟨wx.heap.size, 3, none⟩ = some (.string ⟨((((s.data.toList.drop 2).drop 2).drop 8).take 2).toArray⟩) ∧ w'.cell? ⟨wx.heap.size, 4, none⟩ = some (.string ⟨(X9.fT s.data.toList).toArray⟩)) ∧ Below wx.heap.size wx w') := fun b wx h h0 h1 h2 h3 => (cutFour s (by omega) (by omega) b wx h h0 h1 h2 h3).mono fun e w' ⟨he, ho, hb⟩ => ⟨he, ⟨ownsAt ho 0 (by decide) _ rfl, ownsAt ho 1 (by decide) _ rfl, ownsAt ho 2 (by decide) _ rfl, ownsAt ho 3 (by decide) _ rfl, ownsAt ho 4 (by decide) _ rfl⟩, hb⟩
  have h1 := X9.fSt_lt s.data.toList
  have h2 := X9.fRe_lt s.data.toList
  have h3 := X9.fNm_lt s.data.toList
  have h4 := X9.fN_lt s.data.toList
  have h5 : (⟨(X9.fT s.data.toList).toArray⟩ : ByteArray).size ≤ 9223372036854775807 := by rw [X9.szL, X9.fT_length]; omega
  have CF : Hid (∀ wx, Calls Try.prog 32 #[.agg #[.int .u16 (X9.fSt s.data.toList : Int), .int .u16 (X9.fRe s.data.toList : Int), .int .u64 (X9.fNm s.data.toList : Int), .int .i64 ((X9.fN s.data.toList % 32768 : Nat) : Int), .bool (decide (32768 ≤ X9.fN s.data.toList)), .string ⟨(X9.fT s.data.toList).toArray⟩]] wx fun e w' => e = .returned (.int .i64 (pFaultE ((X9.fN s.data.toList % 32768 : Nat) : Int) (X9.fT s.data.toList).length)) ∧ Below wx.heap.size wx w') := fun wx => by
    have := pFault_any (X9.fSt s.data.toList) (X9.fRe s.data.toList) (X9.fNm s.data.toList) ((X9.fN s.data.toList % 32768 : Nat) : Int) (decide (32768 ≤ X9.fN s.data.toList)) ⟨(X9.fT s.data.toList).toArray⟩ h5 wx
    rwa [X9.szL] at this
  have hn1 := X9.ix_not (X9.fN s.data.toList) h4
  have hn2 := X9.ix_and (X9.fN s.data.toList) h4
  unfold readC
  generalize X9.fSt s.data.toList = st at *
  generalize X9.fRe s.data.toList = re at *
  generalize X9.fNm s.data.toList = nm at *
  generalize X9.fN s.data.toList = n at *
  generalize pFaultE ((n % 32768 : Nat) : Int) (X9.fT s.data.toList).length = E at *
  generalize (⟨(X9.fT s.data.toList).toArray⟩ : ByteArray) = f4 at *
  generalize (⟨(s.data.toList.take 2).toArray⟩ : ByteArray) = f0 at *
  generalize (⟨((s.data.toList.drop 2).take 2).toArray⟩ : ByteArray) = f1 at *
  generalize (⟨(((s.data.toList.drop 2).drop 2).take 8).toArray⟩ : ByteArray) = f2 at *
  generalize (⟨((((s.data.toList.drop 2).drop 2).drop 8).take 2).toArray⟩ : ByteArray) = f3 at *
  have hx1 : n % 32768 < 32768 := by omega
  obtain ⟨la, hla⟩ : ∃ la, la = decide (32768 ≤ n) := ⟨_, rfl⟩
  have hla2 : decide (¬ bits .and .u64 (n : Int) 32768 = 0) = la := by
    rw [hn2, hla]
    by_cases g : 32768 ≤ n
    · rw [if_pos g]; simp [g]
    · rw [if_neg g]; simp [g]
  have hla3 : (bits .and .u64 (n : Int) 32768 != 0) = la := by
    rw [← hla2]
    by_cases g : bits .and .u64 (n : Int) 32768 = 0
    · simp [g]
    · simp [g]
  rw [← hla] at CF
  rw [← hla]
  clear hla hl hn2
  generalize hA : bits .and .u64 (n : Int) 32768 = A at *
  generalize hB : n % 32768 = ix at *
  have r0 : Row (w.alloc (.cells #[.int .u16 0, .int .u16 0, .int .u64 0, .int .i64 0, .bool false, .string ⟨#[]⟩] 38 (0, 0))) w.heap.size 38 [.int .u16 0, .int .u16 0, .int .u64 0, .int .i64 0, .bool false, .string ⟨#[]⟩] := Row.new' rfl rfl
  have b0 : Below w.heap.size w (w.alloc (.cells #[.int .u16 0, .int .u16 0, .int .u64 0, .int .i64 0, .bool false, .string ⟨#[]⟩] 38 (0, 0))) := (Below.refl _ _).alloc (Nat.le_refl _) _
  go_enter Try.func15, Try.ntmps15
  go_wp2_with fail
  refine (CC.out _ _ ?c0 ?c1 ?c2 ?c3 ?c4).mono ?_
  case c0 => simp
  case c1 => simp
  case c2 => simp
  case c3 => simp
  case c4 => simp
  rintro e w1 ⟨rfl, hc, hb⟩
  have r1 := (r0.alloc (.cells #[.int .i64 2, .int .i64 2, .int .i64 8, .int .i64 2] 3 (0, 0))).below hb (by simp; omega)
  have hb1 : Below w.heap.size w w1 := (b0.alloc b0.size (.cells #[.int .i64 2, .int .i64 2, .int .i64 8, .int .i64 2] 3 (0, 0))).trans (hb.mono (by simp; omega))
  have hz1 : w.heap.size + 1 + 1 ≤ w1.heap.size := by have := hb.size; simpa using this
  simp only [World.size_alloc] at hc
  have k3 := hc.2.2.2.1
  clear hb r0 b0
  go_wp2_with fail
  refine (C3.out _).mono ?_
  rintro e w2 ⟨rfl, rfl⟩
  clear k3
  have hG2 := block_lt hc.1
  go_wp2_with fail
  refine wp_region_held_drew (S := fun w' => (w'.cell? ⟨(w.heap.size + 1 + 1), 0, none⟩ = some (.string f0) ∧ w'.cell? ⟨(w.heap.size + 1 + 1), 1, none⟩ = some (.string f1) ∧ w'.cell? ⟨(w.heap.size + 1 + 1), 2, none⟩ = some (.string f2) ∧ w'.cell? ⟨(w.heap.size + 1 + 1), 4, none⟩ = some (.string f4))) (by kernel_rfl) (⟨hc.1, hc.2.1, hc.2.2.1, hc.2.2.2.2⟩) (fun hHeld => ?_)
  refine take_d 0 (some 23) (.slice (some ⟨(w.heap.size + 1 + 1), 0, none⟩) 5 5) rfl (by kernel_rfl) (by kernel_rfl) (by kernel_rfl) (fun _ _ _ h => h) (fun oi h => by cases h; exact Or.inl ⟨by rfl, fun w' hS' => by go_simp⟩) hHeld ?_
  try simp only [Act.put, List.setIfInBounds_toArray, List.set_cons_zero, List.set_cons_succ]
  refine take_d 1 (some 24) (.pointer (some ⟨(w.heap.size + 1 + 1), 0, none⟩)) rfl (by kernel_rfl) (by kernel_rfl) (by kernel_rfl) (fun _ _ _ h => h) (fun oi h => by cases h; exact Or.inl ⟨by rfl, fun w' hS' => by go_simp⟩) hHeld ?_
  try simp only [Act.put, List.setIfInBounds_toArray, List.set_cons_zero, List.set_cons_succ]
  refine take_d 2 (some 25) (.string f0) rfl (by kernel_rfl) (by kernel_rfl) (by kernel_rfl) (fun _ _ _ h => h) (fun oi h => by cases h; exact Or.inl ⟨by rfl, fun w' hS' => by have c : w'.cell? ⟨(w.heap.size + 1 + 1), 0, none⟩ = some (.string f0) := hS'.1; go_simp⟩) hHeld ?_
  try simp only [Act.put, List.setIfInBounds_toArray, List.set_cons_zero, List.set_cons_succ]
  refine take_d 5 (some 28) (.slice (some ⟨(w.heap.size + 1 + 1), 0, none⟩) 5 5) rfl (by kernel_rfl) (by kernel_rfl) (by kernel_rfl) (fun _ _ _ h => h) (fun oi h => by cases h; exact Or.inl ⟨by rfl, fun w' hS' => by go_simp⟩) hHeld ?_
  try simp only [Act.put, List.setIfInBounds_toArray, List.set_cons_zero, List.set_cons_succ]
  refine take_d 6 (some 29) (.pointer (some ⟨(w.heap.size + 1 + 1), 1, none⟩)) rfl (by kernel_rfl) (by kernel_rfl) (by kernel_rfl) (fun _ _ _ h => h) (fun oi h => by cases h; exact Or.inl ⟨by rfl, fun w' hS' => by go_simp⟩) hHeld ?_
  try simp only [Act.put, List.setIfInBounds_toArray, List.set_cons_zero, List.set_cons_succ]
  refine take_d 7 (some 30) (.string f1) rfl (by kernel_rfl) (by kernel_rfl) (by kernel_rfl) (fun _ _ _ h => h) (fun oi h => by cases h; exact Or.inl ⟨by rfl, fun w' hS' => by have c : w'.cell? ⟨(w.heap.size + 1 + 1), 1, none⟩ = some (.string f1) := hS'.2.1; go_simp⟩) hHeld ?_
  try simp only [Act.put, List.setIfInBounds_toArray, List.set_cons_zero, List.set_cons_succ]
  refine take_d 10 (some 33) (.slice (some ⟨(w.heap.size + 1 + 1), 0, none⟩) 5 5) rfl (by kernel_rfl) (by kernel_rfl) (by kernel_rfl) (fun _ _ _ h => h) (fun oi h => by cases h; exact Or.inl ⟨by rfl, fun w' hS' => by go_simp⟩) hHeld ?_
  try simp only [Act.put, List.setIfInBounds_toArray, List.set_cons_zero, List.set_cons_succ]
  refine take_d 11 (some 34) (.pointer (some ⟨(w.heap.size + 1 + 1), 2, none⟩)) rfl (by kernel_rfl) (by kernel_rfl) (by kernel_rfl) (fun _ _ _ h => h) (fun oi h => by cases h; exact Or.inl ⟨by rfl, fun w' hS' => by go_simp⟩) hHeld ?_
  try simp only [Act.put, List.setIfInBounds_toArray, List.set_cons_zero, List.set_cons_succ]
  refine take_d 12 (some 35) (.string f2) rfl (by kernel_rfl) (by kernel_rfl) (by kernel_rfl) (fun _ _ _ h => h) (fun oi h => by cases h; exact Or.inl ⟨by rfl, fun w' hS' => by have c : w'.cell? ⟨(w.heap.size + 1 + 1), 2, none⟩ = some (.string f2) := hS'.2.2.1; go_simp⟩) hHeld ?_
  try simp only [Act.put, List.setIfInBounds_toArray, List.set_cons_zero, List.set_cons_succ]
  refine take_d 14 (some 37) (.int .u64 (n : Int)) rfl (by kernel_rfl) (by kernel_rfl) (by kernel_rfl) (fun _ _ _ h => h) (fun oi h => by cases h; exact Or.inl ⟨by rfl, fun w' hS' => by go_simp⟩) hHeld ?_
  try simp only [Act.put, List.setIfInBounds_toArray, List.set_cons_zero, List.set_cons_succ]
  refine take_d 15 (some 38) (.int .u64 (ix : Int)) rfl (by kernel_rfl) (by kernel_rfl) (by kernel_rfl) (fun _ _ _ h => h) (fun oi h => by cases h; exact Or.inl ⟨by rfl, fun w' hS' => by go_simp⟩) hHeld ?_
  try simp only [Act.put, List.setIfInBounds_toArray, List.set_cons_zero, List.set_cons_succ]
  refine take_d 16 (some 39) (.int .i64 (ix : Int)) rfl (by kernel_rfl) (by kernel_rfl) (by kernel_rfl) (fun _ _ _ h => h) (fun oi h => by cases h; exact Or.inl ⟨by rfl, fun w' hS' => by have hq : IntKind.i64.wrap (ix : Int) = (ix : Int) := (by rw [IntKind.wrap_i64]; omega); go_simp⟩) hHeld ?_
  try simp only [Act.put, List.setIfInBounds_toArray, List.set_cons_zero, List.set_cons_succ]
  refine take_d 17 (some 40) (.int .u64 (n : Int)) rfl (by kernel_rfl) (by kernel_rfl) (by kernel_rfl) (fun _ _ _ h => h) (fun oi h => by cases h; exact Or.inl ⟨by rfl, fun w' hS' => by go_simp⟩) hHeld ?_
  try simp only [Act.put, List.setIfInBounds_toArray, List.set_cons_zero, List.set_cons_succ]
  refine take_d 18 (some 41) (.int .u64 A) rfl (by kernel_rfl) (by kernel_rfl) (by kernel_rfl) (fun _ _ _ h => h) (fun oi h => by cases h; exact Or.inl ⟨by rfl, fun w' hS' => by go_simp⟩) hHeld ?_
  try simp only [Act.put, List.setIfInBounds_toArray, List.set_cons_zero, List.set_cons_succ]
  refine take_d 19 (some 42) (.bool la) rfl (by kernel_rfl) (by kernel_rfl) (by kernel_rfl) (fun _ _ _ h => h) (fun oi h => by cases h; exact Or.inl ⟨by rfl, fun w' hS' => by have hq := hla3; go_simp⟩) hHeld ?_
  try simp only [Act.put, List.setIfInBounds_toArray, List.set_cons_zero, List.set_cons_succ]
  refine take_d 20 (some 43) (.slice (some ⟨(w.heap.size + 1 + 1), 0, none⟩) 5 5) rfl (by kernel_rfl) (by kernel_rfl) (by kernel_rfl) (fun _ _ _ h => h) (fun oi h => by cases h; exact Or.inl ⟨by rfl, fun w' hS' => by go_simp⟩) hHeld ?_
  try simp only [Act.put, List.setIfInBounds_toArray, List.set_cons_zero, List.set_cons_succ]
  refine take_d 21 (some 44) (.pointer (some ⟨(w.heap.size + 1 + 1), 4, none⟩)) rfl (by kernel_rfl) (by kernel_rfl) (by kernel_rfl) (fun _ _ _ h => h) (fun oi h => by cases h; exact Or.inl ⟨by rfl, fun w' hS' => by go_simp⟩) hHeld ?_
  try simp only [Act.put, List.setIfInBounds_toArray, List.set_cons_zero, List.set_cons_succ]
  refine take_d 22 (some 45) (.string f4) rfl (by kernel_rfl) (by kernel_rfl) (by kernel_rfl) (fun _ _ _ h => h) (fun oi h => by cases h; exact Or.inl ⟨by rfl, fun w' hS' => by have c : w'.cell? ⟨(w.heap.size + 1 + 1), 4, none⟩ = some (.string f4) := hS'.2.2.2; go_simp⟩) hHeld ?_
  try simp only [Act.put, List.setIfInBounds_toArray, List.set_cons_zero, List.set_cons_succ]
  refine cut_here9 (G := ?G) ?tree ?lf
  case tree =>
    intro leaf
    refine two_d 3 24 rfl rfl (by kernel_rfl) ?_ ?_
    · intro K hK
      go_simp
      refine (C0.out _).mono ?_
      rintro e wq ⟨rfl, rfl⟩
      refine hK.out _ _ hHeld (fun hHeld => ?_)
      clear hK K
      try simp only [Act.put, List.setIfInBounds_toArray, List.set_cons_zero, List.set_cons_succ]
      refine take_d 4 (some 27) (.int .u16 (st : Int)) rfl (by kernel_rfl) (by kernel_rfl) (by kernel_rfl) (fun _ _ _ h => h) (fun oi h => by cases h; exact Or.inl ⟨by rfl, fun w' hS' => by have hq : IntKind.u16.wrap (st : Int) = (st : Int) := (by rw [IntKind.wrap_u16]; omega); go_simp⟩) hHeld ?_
      try simp only [Act.put, List.setIfInBounds_toArray, List.set_cons_zero, List.set_cons_succ]
      refine two_d 8 24 rfl rfl (by kernel_rfl) ?_ ?_
      · intro K hK
        go_simp
        refine (C1.out _).mono ?_
        rintro e wq ⟨rfl, rfl⟩
        refine hK.out _ _ hHeld (fun hHeld => ?_)
        clear hK K
        try simp only [Act.put, List.setIfInBounds_toArray, List.set_cons_zero, List.set_cons_succ]
        refine take_d 9 (some 32) (.int .u16 (re : Int)) rfl (by kernel_rfl) (by kernel_rfl) (by kernel_rfl) (fun _ _ _ h => h) (fun oi h => by cases h; exact Or.inl ⟨by rfl, fun w' hS' => by have hq : IntKind.u16.wrap (re : Int) = (re : Int) := (by rw [IntKind.wrap_u16]; omega); go_simp⟩) hHeld ?_
        try simp only [Act.put, List.setIfInBounds_toArray, List.set_cons_zero, List.set_cons_succ]
        refine two_d 13 24 rfl rfl (by kernel_rfl) ?_ ?_
        · intro K hK
          go_simp
          refine (C2.out _).mono ?_
          rintro e wq ⟨rfl, rfl⟩
          refine hK.out _ _ hHeld (fun hHeld => ?_)
          clear hK K
          try simp only [Act.put, List.setIfInBounds_toArray, List.set_cons_zero, List.set_cons_succ]
          refine take_d 23 (some 46) (.agg #[.int .u16 (st : Int), .int .u16 (re : Int), .int .u64 (nm : Int), .int .i64 (ix : Int), .bool la, .string f4]) rfl (by kernel_rfl) (by kernel_rfl) (by kernel_rfl) (fun _ _ _ h => h) (fun oi h => by cases h; exact Or.inl ⟨by rfl, fun w' hS' => by go_simp⟩) hHeld ?_
          try simp only [Act.put, List.setIfInBounds_toArray, List.set_cons_zero, List.set_cons_succ]
          refine one_d 24 (some 7) rfl (by kernel_rfl) ?_
          intro o ho hd
          cases ho
          clear hd
          intro K hK
          go_simp
          refine hK.out _ _ (⟨cell_alloc hHeld.1, cell_alloc hHeld.2.1, cell_alloc hHeld.2.2.1, cell_alloc hHeld.2.2.2⟩) (fun hHeld => ?_)
          clear hK K
          try simp only [Act.put, List.setIfInBounds_toArray, List.set_cons_zero, List.set_cons_succ]
          exact leaf.out
        · intro K hK
          go_simp
          refine hK.out _ _ (⟨cell_alloc hHeld.1, cell_alloc hHeld.2.1, cell_alloc hHeld.2.2.1, cell_alloc hHeld.2.2.2⟩) (fun hHeld => ?_)
          clear hK K
          try simp only [Act.put, List.setIfInBounds_toArray, List.set_cons_zero, List.set_cons_succ]
          refine one_d 13 (some 36) rfl (by kernel_rfl) ?_
          intro o ho hd
          cases ho
          clear hd
          intro K hK
          go_simp
          refine (C2.out _).mono ?_
          rintro e wq ⟨rfl, rfl⟩
          refine hK.out _ _ hHeld (fun hHeld => ?_)
          clear hK K
          try simp only [Act.put, List.setIfInBounds_toArray, List.set_cons_zero, List.set_cons_succ]
          refine take_d 23 (some 46) (.agg #[.int .u16 (st : Int), .int .u16 (re : Int), .int .u64 (nm : Int), .int .i64 (ix : Int), .bool la, .string f4]) rfl (by kernel_rfl) (by kernel_rfl) (by kernel_rfl) (fun _ _ _ h => h) (fun oi h => by cases h; exact Or.inl ⟨by rfl, fun w' hS' => by go_simp⟩) hHeld ?_
          try simp only [Act.put, List.setIfInBounds_toArray, List.set_cons_zero, List.set_cons_succ]
          exact leaf.out
      · intro K hK
        go_simp
        refine hK.out _ _ (⟨cell_alloc hHeld.1, cell_alloc hHeld.2.1, cell_alloc hHeld.2.2.1, cell_alloc hHeld.2.2.2⟩) (fun hHeld => ?_)
        clear hK K
        try simp only [Act.put, List.setIfInBounds_toArray, List.set_cons_zero, List.set_cons_succ]
        refine one_d 8 (some 31) rfl (by kernel_rfl) ?_
        intro o ho hd
        cases ho
        clear hd
        intro K hK
        go_simp
        refine (C1.out _).mono ?_
        rintro e wq ⟨rfl, rfl⟩
        refine hK.out _ _ hHeld (fun hHeld => ?_)
        clear hK K
        try simp only [Act.put, List.setIfInBounds_toArray, List.set_cons_zero, List.set_cons_succ]
        refine take_d 9 (some 32) (.int .u16 (re : Int)) rfl (by kernel_rfl) (by kernel_rfl) (by kernel_rfl) (fun _ _ _ h => h) (fun oi h => by cases h; exact Or.inl ⟨by rfl, fun w' hS' => by have hq : IntKind.u16.wrap (re : Int) = (re : Int) := (by rw [IntKind.wrap_u16]; omega); go_simp⟩) hHeld ?_
        try simp only [Act.put, List.setIfInBounds_toArray, List.set_cons_zero, List.set_cons_succ]
        refine one_d 13 (some 36) rfl (by kernel_rfl) ?_
        intro o ho hd
        cases ho
        clear hd
        intro K hK
        go_simp
        refine (C2.out _).mono ?_
        rintro e wq ⟨rfl, rfl⟩
        refine hK.out _ _ hHeld (fun hHeld => ?_)
        clear hK K
        try simp only [Act.put, List.setIfInBounds_toArray, List.set_cons_zero, List.set_cons_succ]
        refine take_d 23 (some 46) (.agg #[.int .u16 (st : Int), .int .u16 (re : Int), .int .u64 (nm : Int), .int .i64 (ix : Int), .bool la, .string f4]) rfl (by kernel_rfl) (by kernel_rfl) (by kernel_rfl) (fun _ _ _ h => h) (fun oi h => by cases h; exact Or.inl ⟨by rfl, fun w' hS' => by go_simp⟩) hHeld ?_
        try simp only [Act.put, List.setIfInBounds_toArray, List.set_cons_zero, List.set_cons_succ]
        exact leaf.out
    · intro K hK
      go_simp
      refine hK.out _ _ (⟨cell_alloc hHeld.1, cell_alloc hHeld.2.1, cell_alloc hHeld.2.2.1, cell_alloc hHeld.2.2.2⟩) (fun hHeld => ?_)
      clear hK K
      try simp only [Act.put, List.setIfInBounds_toArray, List.set_cons_zero, List.set_cons_succ]
      refine one_d 3 (some 26) rfl (by kernel_rfl) ?_
      intro o ho hd
      cases ho
      clear hd
      intro K hK
      go_simp
      refine (C0.out _).mono ?_
      rintro e wq ⟨rfl, rfl⟩
      refine hK.out _ _ hHeld (fun hHeld => ?_)
      clear hK K
      try simp only [Act.put, List.setIfInBounds_toArray, List.set_cons_zero, List.set_cons_succ]
      refine take_d 4 (some 27) (.int .u16 (st : Int)) rfl (by kernel_rfl) (by kernel_rfl) (by kernel_rfl) (fun _ _ _ h => h) (fun oi h => by cases h; exact Or.inl ⟨by rfl, fun w' hS' => by have hq : IntKind.u16.wrap (st : Int) = (st : Int) := (by rw [IntKind.wrap_u16]; omega); go_simp⟩) hHeld ?_
      try simp only [Act.put, List.setIfInBounds_toArray, List.set_cons_zero, List.set_cons_succ]
      refine one_d 8 (some 31) rfl (by kernel_rfl) ?_
      intro o ho hd
      cases ho
      clear hd
      intro K hK
      go_simp
      refine (C1.out _).mono ?_
      rintro e wq ⟨rfl, rfl⟩
      refine hK.out _ _ hHeld (fun hHeld => ?_)
      clear hK K
      try simp only [Act.put, List.setIfInBounds_toArray, List.set_cons_zero, List.set_cons_succ]
      refine take_d 9 (some 32) (.int .u16 (re : Int)) rfl (by kernel_rfl) (by kernel_rfl) (by kernel_rfl) (fun _ _ _ h => h) (fun oi h => by cases h; exact Or.inl ⟨by rfl, fun w' hS' => by have hq : IntKind.u16.wrap (re : Int) = (re : Int) := (by rw [IntKind.wrap_u16]; omega); go_simp⟩) hHeld ?_
      try simp only [Act.put, List.setIfInBounds_toArray, List.set_cons_zero, List.set_cons_succ]
      refine one_d 13 (some 36) rfl (by kernel_rfl) ?_
      intro o ho hd
      cases ho
      clear hd
      intro K hK
      go_simp
      refine (C2.out _).mono ?_
      rintro e wq ⟨rfl, rfl⟩
      refine hK.out _ _ hHeld (fun hHeld => ?_)
      clear hK K
      try simp only [Act.put, List.setIfInBounds_toArray, List.set_cons_zero, List.set_cons_succ]
      refine take_d 23 (some 46) (.agg #[.int .u16 (st : Int), .int .u16 (re : Int), .int .u64 (nm : Int), .int .i64 (ix : Int), .bool la, .string f4]) rfl (by kernel_rfl) (by kernel_rfl) (by kernel_rfl) (fun _ _ _ h => h) (fun oi h => by cases h; exact Or.inl ⟨by rfl, fun w' hS' => by go_simp⟩) hHeld ?_
      try simp only [Act.put, List.setIfInBounds_toArray, List.set_cons_zero, List.set_cons_succ]
      exact leaf.out
  case lf =>
    have ao := fun {p : Addr} {v : Value} (h : w2.drew.cell? p = some v) => cell_alloc (o := .cells #[.int .u16 0, .int .u16 0, .int .u64 0, .int .i64 0, .bool false, .string ⟨#[]⟩] 38 (0, 0)) h
    have hHeld := And.intro (ao hHeld.1) (And.intro (ao hHeld.2.1) (And.intro (ao hHeld.2.2.1) (ao hHeld.2.2.2)))
    clear ao
    refine one_d 25 none rfl (by kernel_rfl) ?_
    intro o ho hd K hK
    cases ho
    rw [if_pos (by rfl)]
    have rp0 : Row (w2.alloc (.cells #[.int .u16 0, .int .u16 0, .int .u64 0, .int .i64 0, .bool false, .string ⟨#[]⟩] 38 (0, 0))).drew w2.heap.size 38 [.int .u16 0, .int .u16 0, .int .u64 0, .int .i64 0, .bool false, .string ⟨#[]⟩] := Row.drew (Row.new' rfl rfl)
    refine wp_store_row 38 (.tmp 7) (.tmp 46) rfl w2.heap.size _ rfl rfl _ _ rp0 infoPart rfl (by simp [Value.oneCell']) ?_
    have rp := rp0.setRow [.int .u16 (st : Int), .int .u16 (re : Int), .int .u64 (nm : Int), .int .i64 (ix : Int), .bool la, .string f4]
    have hlt1 := r1.lt
    have rr := (r1.alloc (.cells #[.int .u16 0, .int .u16 0, .int .u64 0, .int .i64 0, .bool false, .string ⟨#[]⟩] 38 (0, 0))).drew.setRow_other (k := w2.heap.size) (by omega) #[.int .u16 (st : Int), .int .u16 (re : Int), .int .u64 (nm : Int), .int .i64 (ix : Int), .bool la, .string f4]
    have hbp := below_row (hb1.alloc hb1.size (.cells #[.int .u16 0, .int .u16 0, .int .u64 0, .int .i64 0, .bool false, .string ⟨#[]⟩] 38 (0, 0))).drew hb1.size #[.int .u16 (st : Int), .int .u16 (re : Int), .int .u64 (nm : Int), .int .i64 (ix : Int), .bool la, .string f4]
    refine hK.out _ _ ⟨cell_setRow hHeld.1 (by omega) _, cell_setRow hHeld.2.1 (by omega) _, cell_setRow hHeld.2.2.1 (by omega) _, cell_setRow hHeld.2.2.2 (by omega) _⟩ (fun hHeld => ?_)
    clear hK K hd hHeld rp0 hb1 r1
    generalize (w2.alloc (.cells #[.int .u16 0, .int .u16 0, .int .u64 0, .int .i64 0, .bool false, .string ⟨#[]⟩] 38 (0, 0))).drew.setRow w2.heap.size #[.int .u16 (st : Int), .int .u16 (re : Int), .int .u64 (nm : Int), .int .i64 (ix : Int), .bool la, .string f4] = w4 at *
    try simp only [Act.put]
    refine wpAnyH_done (by kernel_rfl) ?_ _
    try simp only [Act.put]
    go_wp2_with (first
      | refine wpList_load_row rfl 38 (.tmp 7) rfl w2.heap.size rfl _ _ _ _ rp Try.underlying38 rfl infoPart ?_)
    refine (CF.out _).mono ?_
    rintro e w5 ⟨rfl, b5⟩
    have rp5 := rp.below b5 rp.lt
    have rr5 := rr.below b5 rr.lt
    have hb5 := hbp.trans (b5.mono hbp.size)
    clear b5 rp rr hbp
    by_cases hE : E = 0
    · subst hE
      go_wp2_with (first
        | refine wpList_load_row rfl 38 (.tmp 7) rfl w2.heap.size rfl _ _ _ _ rp5 Try.underlying38 rfl infoPart ?_
        | refine wpList_store_row rfl 38 (.tmp 2) (.tmp 53) rfl w.heap.size _ rfl rfl _ _ rr5 infoPart rfl (by simp [Value.oneCell']) ?_)
      exact bodyPost_ret (results_row_tmp rfl _ _ w.heap.size 38 [.int .u16 (st : Int), .int .u16 (re : Int), .int .u64 (nm : Int), .int .i64 (ix : Int), .bool la, .string f4] _ rfl (rr5.setRow _) Try.underlying38 rfl infoPart) rfl ⟨rfl, below_row hb5 (Nat.le_refl _) _⟩
    · go_wp2_with (first
        | refine wpList_store_row rfl 38 (.tmp 2) (.tmp 51) rfl w.heap.size _ rfl rfl _ _ rr5 infoPart rfl (by simp [Value.oneCell']) ?_)
      exact bodyPost_ret (results_row_tmp rfl _ _ w.heap.size 38 [.int .u16 0, .int .u16 0, .int .u64 0, .int .i64 0, .bool false, .string ⟨#[]⟩] _ rfl (rr5.setRow _) Try.underlying38 rfl infoPart) rfl ⟨rfl, below_row hb5 (Nat.le_refl _) _⟩

end Go.Proofs.Ytbkeodgiflfakaa

/-
  Layer 3: sha.Step.
-/
namespace Go.Proofs.Ytbkeodgiflfakaa
open Go.RowKit
set_option linter.unusedVariables false
set_option maxRecDepth 20000

theorem stepK_keys (h : List Nat) (b : List UInt8) : stepK S.keys h b = S.stepL h b := rfl
/-- Eight words, as cells. -/
def row8 (a b c d e f g i : Nat) : List Value := [.int .u32 (a : Int), .int .u32 (b : Int), .int .u32 (c : Int), .int .u32 (d : Int), .int .u32 (e : Int), .int .u32 (f : Int), .int .u32 (g : Int), .int .u32 (i : Int)]


end Go.Proofs.Ytbkeodgiflfakaa

/-
  Layer 6's example: awake.
-/
namespace Go.Proofs.Ytbkeodgiflfakaa
open Go.RowKit
set_option linter.unusedVariables false
set_option maxRecDepth 20000

/-- A whole row, read by an operation that is guarded, and wanted. -/
theorem wpList_load_g {P : Program} {ops : Array Oper} {rest : List Oper} {o : Oper} {a : Act} {w : World} {Q : Exit → Act → World → Prop} (hw : Region.wanted o (yielded ops a.tmps) = true) (ty : TypeId) (x : Operand) (ho : o.op = .load ty x)
    (g : Nat) (hx : a.eval x = .pointer (some ⟨g, 0, none⟩)) (t : TypeId) (l : List Value) (d : TypeDesc) (hg : Row w g t l)
    (hu : P.underlying ty = some d) (hd : (match d with | .struct _ | .array _ _ => true | _ => false) = true) (hi : (P.info? ty).map (·.size) = some l.toArray.size)
    (h : wpList P ops Q rest (a.put o.dst (.agg l.toArray)) w) : wpList P ops Q (o :: rest) a w := by
  unfold wpList
  rw [if_pos hw]
  exact Or.inl (wp_load_row ty x ho g hx t _ _ d hg hu hd hi h)

theorem awake1_any (w : World) : Calls Try.prog 26 #[] w fun e w' => e = .returned (.bool true) ∧ Below w.heap.size w w' := by
  go_enter Try.func26, Try.ntmps26
  go_wp2_with fail
  refine (awake_any _).mono ?_
  rintro e w1 ⟨rfl, b1⟩
  go_wp2
  go_ret
  exact ⟨rfl, b1⟩
theorem awake5x_any (w : World) : Calls Try.prog 84 #[] w fun e w' => e = .returned (.bool true) ∧ Below w.heap.size w w' := by
  go_enter Try.func84, Try.ntmps84
  go_wp2_with fail
  refine (awake5_any _).mono ?_
  rintro e w1 ⟨rfl, b1⟩
  go_wp2
  go_ret
  exact ⟨rfl, b1⟩

def kKey : List UInt8 := List.replicate 16 107

set_option maxHeartbeats 2000000 in
theorem awake6_any (w : World) : Calls Try.prog 70 #[] w fun e w' => e = .returned (.bool true) ∧ Below w.heap.size w w' := by
  have CR : Hid (∀ wx, Calls Try.prog 18 #[.string ⟨#[107]⟩, .int .i64 16] wx fun e w' => e = .returned (.string ⟨kKey.toArray⟩) ∧ Below wx.heap.size wx w') := fun wx => Try.strings_Repeat ⟨#[107]⟩ 16 wx (by decide) (by decide)
  have CN : Hid (∀ wx, Calls Try.prog 55 #[.string ⟨kKey.toArray⟩] wx fun e w' => e = .returned (.tuple #[.agg (W.cellsOf kKey).toArray, .int .i64 0]) ∧ Below wx.heap.size wx w') := fun wx => new_yes ⟨kKey.toArray⟩ rfl wx
  have CS : Hid (∀ wx, Calls Try.prog 83 #[.agg (W.cellsOf kKey).toArray, .int .u64 1, .int .i64 3] wx fun e w' => e = .returned (.tuple #[.string ⟨(C.streamL kKey 1 3).toArray⟩, .int .i64 0]) ∧ Below wx.heap.size wx w') := fun wx => stream_yes kKey 1 3 rfl (by decide) (by decide) wx
  have CT0 : Hid (∀ wx, Calls Try.prog 42 #[.agg (W.cellsOf kKey).toArray, .int .u64 1, .string ⟨#[]⟩] wx fun e w' => e = .returned (.string ⟨#[]⟩) ∧ Below wx.heap.size wx w') := fun wx => turn_any kKey 1 ⟨#[]⟩ rfl (by decide) (by decide) wx
  have CT3 : Hid (∀ wx, Calls Try.prog 42 #[.agg (W.cellsOf kKey).toArray, .int .u64 1, .string ⟨#[0, 0, 0]⟩] wx fun e w' => e = .returned (.string ⟨(C.streamL kKey 1 3).toArray⟩) ∧ Below wx.heap.size wx w') := fun wx => by
    have := turn_any kKey 1 ⟨#[0, 0, 0]⟩ rfl (by decide) (by decide) wx
    rw [show (⟨#[0, 0, 0]⟩ : ByteArray).data.toList = List.replicate 3 0 from rfl, C.turnL_zero] at this
    exact this
  have hsl : (⟨(C.streamL kKey 1 3).toArray⟩ : ByteArray).size = 3 := by
    have := C.streamL_length kKey 1 3
    simp [ByteArray.size, this]
  have hik : (Try.prog.info? 53).map (·.size) = some (W.cellsOf kKey).toArray.size := info16k rfl
  have HZ : Hid ((W.cellsOf (List.replicate 16 0)).toArray.size = (W.cellsOf kKey).toArray.size) := rfl
  generalize (⟨(C.streamL kKey 1 3).toArray⟩ : ByteArray) = X at *
  generalize (⟨kKey.toArray⟩ : ByteArray) = KS at *
  generalize kKey = k at *
  go_enter Try.func70, Try.ntmps70
  go_wp2_with fail
  refine (CR.out _).mono ?_
  rintro e w1 ⟨rfl, b1⟩
  go_wp2_with fail
  refine (CN.out _).mono ?_
  rintro e w2 ⟨rfl, b2⟩
  have hb2 := b1.trans (b2.mono b1.size)
  have hz2 := hb2.size
  have r2 : Row (w2.alloc (.cells (W.cellsOf k).toArray 53 (0, 0))) w2.heap.size 53 (W.cellsOf k) := Row.new' rfl rfl
  clear b1 b2
  go_wp2_with (first | refine wpList_store_new rfl 53 (.tmp 1) (.tmp 8) rfl w2 _ _ _ _ rfl rfl rfl hik HZ.out (c8_all _) ?_ | refine wpList_load_row rfl 53 (.tmp 1) rfl w2.heap.size rfl _ _ _ _ r2 Try.underlying53 rfl hik ?_)
  refine (CS.out _).mono ?_
  rintro e w3 ⟨rfl, b3⟩
  have r3 := Row.below r2 b3 (by simp)
  have hb3 : Below w.heap.size w w3 := (hb2.alloc hz2 _).trans (b3.mono (by simp; omega))
  clear b3 r2 hb2
  go_wp2_with fail
  refine (awake1_any _).mono ?_
  rintro e w4 ⟨rfl, b4⟩
  have r4 := Row.below r3 b4 r3.lt
  have hb4 := hb3.trans (b4.mono hb3.size)
  clear b4 r3 hb3
  go_wp2_with fail
  refine (awake5x_any _).mono ?_
  rintro e w5 ⟨rfl, b5⟩
  have r5 := Row.below r4 b5 r4.lt
  have hb5 := hb4.trans (b5.mono hb4.size)
  clear b5 r4 hb4
  go_wp2_with (first | refine wpList_load_g rfl 53 (.tmp 1) rfl w2.heap.size rfl _ _ _ r5 Try.underlying53 rfl hik ?_)
  refine (CT0.out _).mono ?_
  rintro e w6 ⟨rfl, b6⟩
  have r6 := Row.below r5 b6 r5.lt
  have hb6 := hb5.trans (b6.mono hb5.size)
  clear b6 r5 hb5
  go_wp2_with (first | refine wpList_load_g rfl 53 (.tmp 1) rfl w2.heap.size rfl _ _ _ r6 Try.underlying53 rfl hik ?_)
  refine (CT3.out _).mono ?_
  rintro e w7 ⟨rfl, b7⟩
  have hb7 := hb6.trans (b7.mono hb6.size)
  clear b7 r6 hb6
  go_wp2
  go_ret
  exact ⟨rfl, hb7⟩

end Go.Proofs.Ytbkeodgiflfakaa

/-
  Layer 9: the datagram that a text is.
-/
namespace Go.Proofs.Ytbkeodgiflfakaa
open Go.RowKit
set_option linter.unusedVariables false
set_option maxRecDepth 20000

theorem infoDg : (Try.prog.info? 25).map (·.size) = some 3 := by kernel_rfl
theorem cutTwo (s : ByteArray) (h : 16 ≤ s.size) (h' : s.size ≤ 281474976710656) (b : Nat) (w : World) (hb : b < w.heap.size) (h0 : w.cell? ⟨b, 0, none⟩ = some (.int .i64 8)) (h1 : w.cell? ⟨b, 1, none⟩ = some (.int .i64 8)) :
    Calls Try.prog 30 #[.string s, .slice (some ⟨b, 0, none⟩) 2 2] w fun e w' => e = .returned (.tuple #[.slice (some ⟨w.heap.size, 0, none⟩) 3 3, .int .i64 0]) ∧
      w'.ownsRow w.heap.size 9 1 (.slice (some ⟨w.heap.size, 0, none⟩) 3 3) 3 (W.strs [s.data.toList.take 8, (s.data.toList.drop 8).take 8, (s.data.toList.drop 8).drop 8]) ∧ Below w.heap.size w w' := by
  have hl : s.data.toList.length = s.size := by simp
  have hE := X9.cut2 s.data.toList (by omega)
  have := cut_any s.data.toList (some ⟨b, 0, none⟩) 2 [8, 8] w (by omega) (by decide) (fun _ => ⟨b, 0, rfl, hb, fun i hi => by
    match i, hi with
    | 0, _ => simpa using h0
    | 1, _ => simpa using h1⟩)
  rw [hE] at this
  refine this.mono ?_
  rintro e w' ⟨v, rfl, h | h, hbel⟩
  · obtain ⟨_, rfl, _, ho⟩ := h
    exact ⟨rfl, ho, hbel⟩
  · exact absurd rfl h.1
set_option maxHeartbeats 2000000 in
theorem parse_no (s : ByteArray) (hs : s.size < 32 ∨ 512 < s.size) (hm : s.size ≤ 9223372036854775807) (w : World) :
    Calls Try.prog 10 #[.string s] w fun e w' => e = .returned (.tuple #[.agg #[.int .u64 0, .int .u64 0, .string ⟨#[]⟩], .int .i64 (if s.size < 32 then 3 else 5)]) ∧ Below w.heap.size w w' := by
  have hE : dFaultE (s.size : Int) = if s.size < 32 then 3 else 5 := by unfold dFaultE; split <;> split <;> omega
  have hne : dFaultE (s.size : Int) ≠ 0 := by rw [hE]; split <;> decide
  rw [← hE]
  have CF : Hid (∀ wx, Calls Try.prog 28 #[.int .i64 (s.size : Int)] wx fun e w' => e = .returned (.int .i64 (dFaultE (s.size : Int))) ∧ w' = wx) := fun wx => dFault_any _ wx
  have b0 : Below w.heap.size w (w.alloc (.cells #[.int .u64 0, .int .u64 0, .string ⟨#[]⟩] 25 (0, 0))) := (Below.refl _ _).alloc (Nat.le_refl _) _
  clear hE
  generalize dFaultE (s.size : Int) = E at *
  have r0 : Row (w.alloc (.cells #[.int .u64 0, .int .u64 0, .string ⟨#[]⟩] 25 (0, 0))) w.heap.size 25 [.int .u64 0, .int .u64 0, .string ⟨#[]⟩] := Row.new' rfl rfl
  go_enter Try.func10, Try.ntmps10
  go_wp2_with fail
  refine (CF.out _).mono ?_
  rintro e w1 ⟨rfl, rfl⟩
  go_wp2_with (first
    | refine wpList_store_row rfl 25 (.tmp 2) (.tmp 12) rfl w.heap.size _ rfl rfl _ _ r0 infoDg rfl (by rfl) ?_)
  exact bodyPost_ret (results_row_tmp rfl _ _ w.heap.size 25 [.int .u64 0, .int .u64 0, .string ⟨#[]⟩] _ rfl r0 Try.underlying25 rfl infoDg) rfl ⟨rfl, b0⟩

set_option maxHeartbeats 4000000 in
theorem parse_yes (s : ByteArray) (hs : 32 ≤ s.size) (hs' : s.size ≤ 512) (w : World) :
    Calls Try.prog 10 #[.string s] w fun e w' => e = .returned (.tuple #[.agg #[.int .u64 (W.getN (s.data.toList.take 8) : Int), .int .u64 (W.getN ((s.data.toList.drop 8).take 8) : Int), .string ⟨((s.data.toList.drop 8).drop 8).toArray⟩], .int .i64 0]) ∧ Below w.heap.size w w' := by
  have CF : Hid (∀ wx, Calls Try.prog 28 #[.int .i64 (s.size : Int)] wx fun e w' => e = .returned (.int .i64 0) ∧ w' = wx) := fun wx => dFault_ok _ (by omega) (by omega) wx
  have hl : s.data.toList.length = s.size := by simp
  have C1 : Hid (∀ wx, Calls Try.prog 31 #[.string ⟨(s.data.toList.take 8).toArray⟩] wx fun e w' => e = .returned (.int .u64 (W.getN (s.data.toList.take 8) : Int)) ∧ w' = wx) := fun wx => number9_any ⟨(s.data.toList.take 8).toArray⟩ (by rw [X9.szL, List.length_take]; omega) (by rw [X9.szL, List.length_take]; omega) wx
  have C2 : Hid (∀ wx, Calls Try.prog 31 #[.string ⟨((s.data.toList.drop 8).take 8).toArray⟩] wx fun e w' => e = .returned (.int .u64 (W.getN ((s.data.toList.drop 8).take 8) : Int)) ∧ w' = wx) := fun wx => number9_any ⟨((s.data.toList.drop 8).take 8).toArray⟩ (by rw [X9.szL, List.length_take, List.length_drop]; omega) (by rw [X9.szL, List.length_take]; omega) wx
  have CC : Hid (∀ (b : Nat) (wx : World), b < wx.heap.size → wx.cell? ⟨b, 0, none⟩ = some (.int .i64 8) → wx.cell? ⟨b, 1, none⟩ = some (.int .i64 8) → Calls Try.prog 30 #[.string s, .slice (some ⟨b, 0, none⟩) 2 2] wx fun e w' => e = .returned (.tuple #[.slice (some ⟨wx.heap.size, 0, none⟩) 3 3, .int .i64 0]) ∧
      (w'.cell? ⟨wx.heap.size, 0, none⟩ = some (.string ⟨(s.data.toList.take 8).toArray⟩) ∧ w'.cell? ⟨wx.heap.size, 1, none⟩ = some (.string ⟨((s.data.toList.drop 8).take 8).toArray⟩) ∧ w'.cell? ⟨wx.heap.size, 2, none⟩ = some (.string ⟨((s.data.toList.drop 8).drop 8).toArray⟩)) ∧ Below wx.heap.size wx w') := fun b wx h h0 h1 => (cutTwo s (by omega) (by omega) b wx h h0 h1).mono fun e w' ⟨he, ho, hb⟩ => ⟨he, ⟨ownsAt ho 0 (by decide) _ rfl, ownsAt ho 1 (by decide) _ rfl, ownsAt ho 2 (by decide) _ rfl⟩, hb⟩
  clear hl
  generalize W.getN (s.data.toList.take 8) = n1 at *
  generalize W.getN ((s.data.toList.drop 8).take 8) = n2 at *
  generalize (⟨(s.data.toList.take 8).toArray⟩ : ByteArray) = f0 at *
  generalize (⟨((s.data.toList.drop 8).take 8).toArray⟩ : ByteArray) = f1 at *
  generalize (⟨((s.data.toList.drop 8).drop 8).toArray⟩ : ByteArray) = f2 at *
  have r0 : Row (w.alloc (.cells #[.int .u64 0, .int .u64 0, .string ⟨#[]⟩] 25 (0, 0))) w.heap.size 25 [.int .u64 0, .int .u64 0, .string ⟨#[]⟩] := Row.new' rfl rfl
  have b0 : Below w.heap.size w (w.alloc (.cells #[.int .u64 0, .int .u64 0, .string ⟨#[]⟩] 25 (0, 0))) := (Below.refl _ _).alloc (Nat.le_refl _) _
  go_enter Try.func10, Try.ntmps10
  go_wp2_with fail
  refine (CF.out _).mono ?_
  rintro e w1 ⟨rfl, rfl⟩
  go_wp2_with fail
  refine (CC.out _ _ ?c0 ?c1 ?c2).mono ?_
  case c0 => simp
  case c1 => simp
  case c2 => simp
  rintro e w1 ⟨rfl, hc, hb⟩
  have r1 := (r0.alloc (.cells #[.int .i64 8, .int .i64 8] 3 (0, 0))).below hb (by simp; omega)
  have hb1 : Below w.heap.size w w1 := (b0.alloc b0.size (.cells #[.int .i64 8, .int .i64 8] 3 (0, 0))).trans (hb.mono (by simp; omega))
  simp only [World.size_alloc] at hc
  clear hb r0 b0
  go_wp2_with fail
  refine wp_region_held_drew (S := fun w' => (w'.cell? ⟨(w.heap.size + 1 + 1), 0, none⟩ = some (.string f0) ∧ w'.cell? ⟨(w.heap.size + 1 + 1), 1, none⟩ = some (.string f1) ∧ w'.cell? ⟨(w.heap.size + 1 + 1), 2, none⟩ = some (.string f2)) ∧ Below w.heap.size w w') (by kernel_rfl) (⟨hc, hb1.drew⟩) (fun hHeld => ?_)
  refine take_d 0 (some 24) (.slice (some ⟨(w.heap.size + 1 + 1), 0, none⟩) 3 3) rfl (by kernel_rfl) (by kernel_rfl) (by kernel_rfl) (fun _ _ _ h => h) (fun oi h => by cases h; exact Or.inl ⟨by rfl, fun w' hS' => by go_simp⟩) hHeld ?_
  try simp only [Act.put, List.setIfInBounds_toArray, List.set_cons_zero, List.set_cons_succ]
  refine take_d 1 (some 25) (.pointer (some ⟨(w.heap.size + 1 + 1), 0, none⟩)) rfl (by kernel_rfl) (by kernel_rfl) (by kernel_rfl) (fun _ _ _ h => h) (fun oi h => by cases h; exact Or.inl ⟨by rfl, fun w' hS' => by go_simp⟩) hHeld ?_
  try simp only [Act.put, List.setIfInBounds_toArray, List.set_cons_zero, List.set_cons_succ]
  refine take_d 2 (some 26) (.string f0) rfl (by kernel_rfl) (by kernel_rfl) (by kernel_rfl) (fun _ _ _ h => h) (fun oi h => by cases h; exact Or.inl ⟨by rfl, fun w' hS' => by have c : w'.cell? ⟨(w.heap.size + 1 + 1), 0, none⟩ = some (.string f0) := hS'.1.1; go_simp⟩) hHeld ?_
  try simp only [Act.put, List.setIfInBounds_toArray, List.set_cons_zero, List.set_cons_succ]
  refine take_d 4 (some 28) (.slice (some ⟨(w.heap.size + 1 + 1), 0, none⟩) 3 3) rfl (by kernel_rfl) (by kernel_rfl) (by kernel_rfl) (fun _ _ _ h => h) (fun oi h => by cases h; exact Or.inl ⟨by rfl, fun w' hS' => by go_simp⟩) hHeld ?_
  try simp only [Act.put, List.setIfInBounds_toArray, List.set_cons_zero, List.set_cons_succ]
  refine take_d 5 (some 29) (.pointer (some ⟨(w.heap.size + 1 + 1), 1, none⟩)) rfl (by kernel_rfl) (by kernel_rfl) (by kernel_rfl) (fun _ _ _ h => h) (fun oi h => by cases h; exact Or.inl ⟨by rfl, fun w' hS' => by go_simp⟩) hHeld ?_
  try simp only [Act.put, List.setIfInBounds_toArray, List.set_cons_zero, List.set_cons_succ]
  refine take_d 6 (some 30) (.string f1) rfl (by kernel_rfl) (by kernel_rfl) (by kernel_rfl) (fun _ _ _ h => h) (fun oi h => by cases h; exact Or.inl ⟨by rfl, fun w' hS' => by have c : w'.cell? ⟨(w.heap.size + 1 + 1), 1, none⟩ = some (.string f1) := hS'.1.2.1; go_simp⟩) hHeld ?_
  try simp only [Act.put, List.setIfInBounds_toArray, List.set_cons_zero, List.set_cons_succ]
  refine take_d 8 (some 32) (.slice (some ⟨(w.heap.size + 1 + 1), 0, none⟩) 3 3) rfl (by kernel_rfl) (by kernel_rfl) (by kernel_rfl) (fun _ _ _ h => h) (fun oi h => by cases h; exact Or.inl ⟨by rfl, fun w' hS' => by go_simp⟩) hHeld ?_
  try simp only [Act.put, List.setIfInBounds_toArray, List.set_cons_zero, List.set_cons_succ]
  refine take_d 9 (some 33) (.pointer (some ⟨(w.heap.size + 1 + 1), 2, none⟩)) rfl (by kernel_rfl) (by kernel_rfl) (by kernel_rfl) (fun _ _ _ h => h) (fun oi h => by cases h; exact Or.inl ⟨by rfl, fun w' hS' => by go_simp⟩) hHeld ?_
  try simp only [Act.put, List.setIfInBounds_toArray, List.set_cons_zero, List.set_cons_succ]
  refine take_d 10 (some 34) (.string f2) rfl (by kernel_rfl) (by kernel_rfl) (by kernel_rfl) (fun _ _ _ h => h) (fun oi h => by cases h; exact Or.inl ⟨by rfl, fun w' hS' => by have c : w'.cell? ⟨(w.heap.size + 1 + 1), 2, none⟩ = some (.string f2) := hS'.1.2.2; go_simp⟩) hHeld ?_
  try simp only [Act.put, List.setIfInBounds_toArray, List.set_cons_zero, List.set_cons_succ]
  refine one_d 3 (some 27) rfl (by kernel_rfl) ?_
  intro o ho hd K hK
  cases ho
  go_simp
  refine (C1.out _).mono ?_
  rintro e wq ⟨rfl, rfl⟩
  refine hK.out _ _ hHeld (fun hHeld => ?_)
  clear hK K hd
  try simp only [Act.put, List.setIfInBounds_toArray, List.set_cons_zero, List.set_cons_succ]
  refine one_d 7 (some 31) rfl (by kernel_rfl) ?_
  intro o ho hd K hK
  cases ho
  go_simp
  refine (C2.out _).mono ?_
  rintro e wq ⟨rfl, rfl⟩
  refine hK.out _ _ hHeld (fun hHeld => ?_)
  clear hK K hd
  try simp only [Act.put, List.setIfInBounds_toArray, List.set_cons_zero, List.set_cons_succ]
  refine take_d 11 (some 35) (.agg #[.int .u64 (n1 : Int), .int .u64 (n2 : Int), .string f2]) rfl (by kernel_rfl) (by kernel_rfl) (by kernel_rfl) (fun _ _ _ h => h) (fun oi h => by cases h; exact Or.inl ⟨by rfl, fun w' hS' => by go_simp⟩) hHeld ?_
  try simp only [Act.put, List.setIfInBounds_toArray, List.set_cons_zero, List.set_cons_succ]
  refine one_d 12 none rfl (by kernel_rfl) ?_
  intro o ho hd K hK
  cases ho
  rw [if_pos (by rfl)]
  refine wp_store_row 25 (.tmp 2) (.tmp 35) rfl w.heap.size _ rfl rfl _ _ r1.drew infoDg rfl (by simp [Value.oneCell']) ?_
  have r2 := r1.drew.setRow [.int .u64 (n1 : Int), .int .u64 (n2 : Int), .string f2]
  refine hK.out _ _ (⟨⟨cell_setRow hHeld.1.1 (by omega) _, cell_setRow hHeld.1.2.1 (by omega) _, cell_setRow hHeld.1.2.2 (by omega) _⟩, below_row hHeld.2 (Nat.le_refl _) _⟩) (fun hHeld => ?_)
  clear hK K hd
  try simp only [Act.put]
  refine take_d 13 (some 3) (.int .i64 0) rfl (by kernel_rfl) (by kernel_rfl) (by kernel_rfl) (fun _ _ _ h => h) (fun oi h => by cases h; exact Or.inl ⟨by rfl, fun w' hS' => by go_simp⟩) hHeld ?_
  try simp only [Act.put, List.setIfInBounds_toArray]
  refine wpAnyH_done (by kernel_rfl) ?_ _
  try simp only [Act.put]
  go_wp2_with fail
  exact bodyPost_ret (results_row_tmp rfl _ _ w.heap.size 25 _ _ rfl r2 Try.underlying25 rfl infoDg) rfl ⟨rfl, hHeld.2⟩

end Go.Proofs.Ytbkeodgiflfakaa

/-
  Layer 9: the document's Datagram, Check, Bytes.
-/
namespace Go.Proofs.Ytbkeodgiflfakaa
open Go.RowKit
set_option linter.unusedVariables false
set_option maxRecDepth 20000

theorem refPut_k (n k : Nat) (hn : n < 18446744073709551616) (hk : k ≤ 8) (w : World) : Calls Try.prog 29 #[.int .u64 (n : Int), .int .i64 (k : Int)] w fun e w' => e = .returned (.string ⟨(W.putL n k).toArray⟩) ∧ Below w.heap.size w w' := by
  have := refPut_any (n : Int) (k : Int) (by omega) (by omega) w
  rwa [W.clamp_mid hk, Int.toNat_natCast] at this

set_option maxHeartbeats 2000000 in
theorem refDg_no (id n : Nat) (s : ByteArray) (hs : s.size < 16 ∨ 496 < s.size) (w : World) :
    Calls Try.prog 9 #[.int .u64 (id : Int), .int .u64 (n : Int), .string s] w fun e w' => e = .returned (.tuple #[.string ⟨#[]⟩, .int .i64 (if s.size < 16 then 3 else 5)]) ∧ Below w.heap.size w w' := by
  have b0 := Below.refl w.heap.size w
  go_enter Try.func9, Try.ntmps9
  by_cases a : s.size < 16
  · have a' : (s.size : Int) < 16 := by omega
    go_wp2
    go_ret2
    exact ⟨rfl, b0⟩
  · have a' : ¬ (s.size : Int) < 16 := by omega
    have a2 : (496 : Int) < (s.size : Int) := by omega
    go_wp2
    go_ret2
    exact ⟨rfl, b0⟩

set_option maxHeartbeats 2000000 in
theorem refDg_yes (id n : Nat) (s : ByteArray) (h1 : id ≤ 18446744073709551615) (h2 : n ≤ 18446744073709551615) (hs : 16 ≤ s.size) (hs' : s.size ≤ 496) (w : World) :
    Calls Try.prog 9 #[.int .u64 (id : Int), .int .u64 (n : Int), .string s] w fun e w' => e = .returned (.tuple #[.string ⟨(C.blk id n ++ s.data.toList).toArray⟩, .int .i64 0]) ∧ Below w.heap.size w w' := by
  have C1 : Hid (∀ wx, Calls Try.prog 29 #[.int .u64 (id : Int), .int .i64 8] wx fun e w' => e = .returned (.string ⟨(W.putL id 8).toArray⟩) ∧ Below wx.heap.size wx w') := fun wx => refPut_k id 8 (by omega) (by decide) wx
  have C2 : Hid (∀ wx, Calls Try.prog 29 #[.int .u64 (n : Int), .int .i64 8] wx fun e w' => e = .returned (.string ⟨(W.putL n 8).toArray⟩) ∧ Below wx.heap.size wx w') := fun wx => refPut_k n 8 (by omega) (by decide) wx
  have HR : Hid ((⟨(C.blk id n ++ s.data.toList).toArray⟩ : ByteArray) = ⟨(W.putL id 8).toArray⟩ ++ ⟨(W.putL n 8).toArray⟩ ++ s) := Go.WideShapes.bytes_inj (by simp [C.blk])
  have s1 : (⟨(W.putL id 8).toArray⟩ : ByteArray).size = 8 := by simp [ByteArray.size, W.putL_length]
  have s2 : (⟨(W.putL n 8).toArray⟩ : ByteArray).size = 8 := by simp [ByteArray.size, W.putL_length]
  generalize (⟨(C.blk id n ++ s.data.toList).toArray⟩ : ByteArray) = R at *
  generalize (⟨(W.putL id 8).toArray⟩ : ByteArray) = x1 at *
  generalize (⟨(W.putL n 8).toArray⟩ : ByteArray) = x2 at *
  have s3 : (x1 ++ x2).size = 16 := by rw [ByteArray.size_append]; omega
  have hq : 16 + s.size ≤ 9223372036854775807 := by omega
  have a1 : ¬ (s.size : Int) < 16 := by omega
  have a2 : ¬ (496 : Int) < (s.size : Int) := by omega
  go_enter Try.func9, Try.ntmps9
  go_wp2_with fail
  refine (C1.out _).mono ?_
  rintro e w1 ⟨rfl, b1⟩
  go_wp2_with fail
  refine (C2.out _).mono ?_
  rintro e w2 ⟨rfl, b2⟩
  have hb := b1.trans (b2.mono b1.size)
  go_wp2
  go_ret2
  exact ⟨by rw [HR.out]; rfl, hb⟩

set_option maxHeartbeats 2000000 in
theorem refCheck_any (st re nm : Nat) (ix : Int) (la : Bool) (tx : ByteArray) (hm : tx.size ≤ 9223372036854775807) (w : World) :
    Calls Try.prog 13 #[.agg #[.int .u16 (st : Int), .int .u16 (re : Int), .int .u64 (nm : Int), .int .i64 ix, .bool la, .string tx]] w fun e w' => e = .returned (.int .i64 (pFaultE ix tx.size)) ∧ Below w.heap.size w w' := by
  have b0 : Below w.heap.size w (w.alloc (.cells #[.int .u16 (st : Int), .int .u16 (re : Int), .int .u64 (nm : Int), .int .i64 ix, .bool la, .string tx] 40 (0, 0))) := (Below.refl _ _).alloc (Nat.le_refl _) _
  unfold pFaultE
  go_enter Try.func13, Try.ntmps13
  by_cases a : ix < 0
  · go_wp2
    go_ret
    exact ⟨rfl, b0⟩
  · by_cases b : 31 < ix
    · go_wp2
      go_ret
      exact ⟨rfl, b0⟩
    · have hn : ¬ (ix < 0 ∨ 31 < ix) := by omega
      by_cases c : 466 < tx.size
      · have c' : (466 : Int) < (tx.size : Int) := by omega
        go_wp2
        go_ret
        exact ⟨rfl, b0⟩
      · have c' : ¬ (466 : Int) < (tx.size : Int) := by omega
        go_wp2
        go_ret
        exact ⟨rfl, b0⟩

set_option maxHeartbeats 4000000 in
theorem refBytes_mid (st re nm ix : Nat) (tx : ByteArray) (hst : st < 65536) (hre : re < 65536) (hnm : nm < 18446744073709551616) (hix : ix ≤ 31) (ht : tx.size ≤ 466) (w : World) :
    Calls Try.prog 14 #[.agg #[.int .u16 (st : Int), .int .u16 (re : Int), .int .u64 (nm : Int), .int .i64 (ix : Int), .bool false, .string tx]] w fun e w' => e = .returned (.string ⟨(X9.partL st re nm ix tx.data.toList).toArray⟩) ∧ Below w.heap.size w w' := by
  have C1 : Hid (∀ wx, Calls Try.prog 29 #[.int .u64 (st : Int), .int .i64 2] wx fun e w' => e = .returned (.string ⟨(W.putL st 2).toArray⟩) ∧ Below wx.heap.size wx w') := fun wx => refPut_k st 2 (by omega) (by decide) wx
  have C2 : Hid (∀ wx, Calls Try.prog 29 #[.int .u64 (re : Int), .int .i64 2] wx fun e w' => e = .returned (.string ⟨(W.putL re 2).toArray⟩) ∧ Below wx.heap.size wx w') := fun wx => refPut_k re 2 (by omega) (by decide) wx
  have C3 : Hid (∀ wx, Calls Try.prog 29 #[.int .u64 (nm : Int), .int .i64 8] wx fun e w' => e = .returned (.string ⟨(W.putL nm 8).toArray⟩) ∧ Below wx.heap.size wx w') := fun wx => refPut_k nm 8 (by omega) (by decide) wx
  have C4 : Hid (∀ wx, Calls Try.prog 29 #[.int .u64 ((ix : Nat) : Int), .int .i64 2] wx fun e w' => e = .returned (.string ⟨(W.putL ix 2).toArray⟩) ∧ Below wx.heap.size wx w') := fun wx => refPut_k ix 2 (by omega) (by decide) wx
  have s1 : (⟨(W.putL st 2).toArray⟩ : ByteArray).size = 2 := by simp [ByteArray.size, W.putL_length]
  have s2 : (⟨(W.putL re 2).toArray⟩ : ByteArray).size = 2 := by simp [ByteArray.size, W.putL_length]
  have s3 : (⟨(W.putL nm 8).toArray⟩ : ByteArray).size = 8 := by simp [ByteArray.size, W.putL_length]
  have s4 : (⟨(W.putL ix 2).toArray⟩ : ByteArray).size = 2 := by simp [ByteArray.size, W.putL_length]
  have HR : Hid ((⟨(X9.partL st re nm ix tx.data.toList).toArray⟩ : ByteArray) = ⟨(W.putL st 2).toArray⟩ ++ ⟨(W.putL re 2).toArray⟩ ++ ⟨(W.putL nm 8).toArray⟩ ++ ⟨(W.putL ix 2).toArray⟩ ++ tx) := Go.WideShapes.bytes_inj (by simp [X9.partL, X9.headL])
  generalize (⟨(X9.partL st re nm ix tx.data.toList).toArray⟩ : ByteArray) = R at *
  generalize (⟨(W.putL st 2).toArray⟩ : ByteArray) = x1 at *
  generalize (⟨(W.putL re 2).toArray⟩ : ByteArray) = x2 at *
  generalize (⟨(W.putL nm 8).toArray⟩ : ByteArray) = x3 at *
  generalize (⟨(W.putL ix 2).toArray⟩ : ByteArray) = x4 at *
  have z12 : (x1 ++ x2).size = 4 := by rw [ByteArray.size_append]; omega
  have z13 : (x1 ++ x2 ++ x3).size = 12 := by rw [ByteArray.size_append]; omega
  have z14 : (x1 ++ x2 ++ x3 ++ x4).size = 14 := by rw [ByteArray.size_append]; omega
  have r0 : Row (w.alloc (.cells #[.int .u16 (st : Int), .int .u16 (re : Int), .int .u64 (nm : Int), .int .i64 (ix : Int), .bool false, .string tx] 40 (0, 0))) w.heap.size 40 [.int .u16 (st : Int), .int .u16 (re : Int), .int .u64 (nm : Int), .int .i64 (ix : Int), .bool false, .string tx] := Row.new' rfl rfl
  have b0 : Below w.heap.size w (w.alloc (.cells #[.int .u16 (st : Int), .int .u16 (re : Int), .int .u64 (nm : Int), .int .i64 (ix : Int), .bool false, .string tx] 40 (0, 0))) := (Below.refl _ _).alloc (Nat.le_refl _) _
  obtain ⟨wa, hwa⟩ : ∃ wa, wa = w.alloc (.cells #[.int .u16 (st : Int), .int .u16 (re : Int), .int .u64 (nm : Int), .int .i64 (ix : Int), .bool false, .string tx] 40 (0, 0)) := ⟨_, rfl⟩
  rw [← hwa] at r0 b0
  have c3 : wa.cell? ⟨w.heap.size, 3, none⟩ = some (.int .i64 (ix : Int)) := r0.cell 3
  have c4 : wa.cell? ⟨w.heap.size, 4, none⟩ = some (.bool false) := r0.cell 4
  go_enter Try.func14, Try.ntmps14
  go_wp2_with fail
  rw [← hwa]
  clear hwa c3 c4
  refine wp_region_held_drew (S := fun w' => Row w' w.heap.size 40 [.int .u16 (st : Int), .int .u16 (re : Int), .int .u64 (nm : Int), .int .i64 (ix : Int), .bool false, .string tx] ∧ Below w.heap.size w w') (by kernel_rfl) (⟨r0.drew, b0.drew⟩) (fun hHeld => ?_)
  refine take_d 0 (some 11) (.pointer (some ⟨w.heap.size, 0, none⟩)) rfl (by kernel_rfl) (by kernel_rfl) (by kernel_rfl) (fun _ _ _ h => h) (fun oi h => by cases h; exact Or.inl ⟨by rfl, fun w' hS' => by go_simp⟩) hHeld ?_
  try simp only [Act.put, List.setIfInBounds_toArray, List.set_cons_zero, List.set_cons_succ]
  refine take_d 1 (some 12) (.int .u16 (st : Int)) rfl (by kernel_rfl) (by kernel_rfl) (by kernel_rfl) (fun _ _ _ h => h) (fun oi h => by cases h; exact Or.inl ⟨by rfl, fun w' hS' => by have c : w'.cell? ⟨w.heap.size, 0, none⟩ = some (.int .u16 (st : Int)) := hS'.1.cell 0; go_simp⟩) hHeld ?_
  try simp only [Act.put, List.setIfInBounds_toArray, List.set_cons_zero, List.set_cons_succ]
  refine take_d 2 (some 13) (.int .u64 (st : Int)) rfl (by kernel_rfl) (by kernel_rfl) (by kernel_rfl) (fun _ _ _ h => h) (fun oi h => by cases h; exact Or.inl ⟨by rfl, fun w' hS' => by have hq : IntKind.u64.wrap (st : Int) = (st : Int) := (by rw [IntKind.wrap_u64]; omega); go_simp⟩) hHeld ?_
  try simp only [Act.put, List.setIfInBounds_toArray, List.set_cons_zero, List.set_cons_succ]
  refine take_d 4 (some 15) (.pointer (some ⟨w.heap.size, 1, none⟩)) rfl (by kernel_rfl) (by kernel_rfl) (by kernel_rfl) (fun _ _ _ h => h) (fun oi h => by cases h; exact Or.inl ⟨by rfl, fun w' hS' => by go_simp⟩) hHeld ?_
  try simp only [Act.put, List.setIfInBounds_toArray, List.set_cons_zero, List.set_cons_succ]
  refine take_d 5 (some 16) (.int .u16 (re : Int)) rfl (by kernel_rfl) (by kernel_rfl) (by kernel_rfl) (fun _ _ _ h => h) (fun oi h => by cases h; exact Or.inl ⟨by rfl, fun w' hS' => by have c : w'.cell? ⟨w.heap.size, 1, none⟩ = some (.int .u16 (re : Int)) := hS'.1.cell 1; go_simp⟩) hHeld ?_
  try simp only [Act.put, List.setIfInBounds_toArray, List.set_cons_zero, List.set_cons_succ]
  refine take_d 6 (some 17) (.int .u64 (re : Int)) rfl (by kernel_rfl) (by kernel_rfl) (by kernel_rfl) (fun _ _ _ h => h) (fun oi h => by cases h; exact Or.inl ⟨by rfl, fun w' hS' => by have hq : IntKind.u64.wrap (re : Int) = (re : Int) := (by rw [IntKind.wrap_u64]; omega); go_simp⟩) hHeld ?_
  try simp only [Act.put, List.setIfInBounds_toArray, List.set_cons_zero, List.set_cons_succ]
  refine take_d 9 (some 20) (.pointer (some ⟨w.heap.size, 2, none⟩)) rfl (by kernel_rfl) (by kernel_rfl) (by kernel_rfl) (fun _ _ _ h => h) (fun oi h => by cases h; exact Or.inl ⟨by rfl, fun w' hS' => by go_simp⟩) hHeld ?_
  try simp only [Act.put, List.setIfInBounds_toArray, List.set_cons_zero, List.set_cons_succ]
  refine take_d 10 (some 21) (.int .u64 (nm : Int)) rfl (by kernel_rfl) (by kernel_rfl) (by kernel_rfl) (fun _ _ _ h => h) (fun oi h => by cases h; exact Or.inl ⟨by rfl, fun w' hS' => by have c : w'.cell? ⟨w.heap.size, 2, none⟩ = some (.int .u64 (nm : Int)) := hS'.1.cell 2; go_simp⟩) hHeld ?_
  try simp only [Act.put, List.setIfInBounds_toArray, List.set_cons_zero, List.set_cons_succ]
  refine take_d 13 (some 24) (.int .u64 ((ix : Nat) : Int)) rfl (by kernel_rfl) (by kernel_rfl) (by kernel_rfl) (fun _ _ _ h => h) (fun oi h => by cases h; exact Or.inl ⟨by rfl, fun w' hS' => by go_simp⟩) hHeld ?_
  try simp only [Act.put, List.setIfInBounds_toArray, List.set_cons_zero, List.set_cons_succ]
  refine take_d 16 (some 27) (.pointer (some ⟨w.heap.size, 5, none⟩)) rfl (by kernel_rfl) (by kernel_rfl) (by kernel_rfl) (fun _ _ _ h => h) (fun oi h => by cases h; exact Or.inl ⟨by rfl, fun w' hS' => by go_simp⟩) hHeld ?_
  try simp only [Act.put, List.setIfInBounds_toArray, List.set_cons_zero, List.set_cons_succ]
  refine take_d 17 (some 28) (.string tx) rfl (by kernel_rfl) (by kernel_rfl) (by kernel_rfl) (fun _ _ _ h => h) (fun oi h => by cases h; exact Or.inl ⟨by rfl, fun w' hS' => by have c : w'.cell? ⟨w.heap.size, 5, none⟩ = some (.string tx) := hS'.1.cell 5; go_simp⟩) hHeld ?_
  try simp only [Act.put, List.setIfInBounds_toArray, List.set_cons_zero, List.set_cons_succ]
  refine one_d 3 (some 14) rfl (by kernel_rfl) ?_
  intro o ho hd K hK
  cases ho
  go_simp
  refine (C1.out _).mono ?_
  rintro e w2 ⟨rfl, bb⟩
  have hHeld' := hHeld
  clear hHeld
  have hHeld := hHeld'
  clear hHeld'
  refine hK.out _ _ (⟨hHeld.1.below bb hHeld.1.lt, hHeld.2.trans (bb.mono hHeld.2.size)⟩) (fun hHeld => ?_)
  clear hK K hd bb
  try simp only [Act.put, List.setIfInBounds_toArray, List.set_cons_zero, List.set_cons_succ]
  refine one_d 7 (some 18) rfl (by kernel_rfl) ?_
  intro o ho hd K hK
  cases ho
  go_simp
  refine (C2.out _).mono ?_
  rintro e w3 ⟨rfl, bb⟩
  have hHeld' := hHeld
  clear hHeld
  have hHeld := hHeld'
  clear hHeld'
  refine hK.out _ _ (⟨hHeld.1.below bb hHeld.1.lt, hHeld.2.trans (bb.mono hHeld.2.size)⟩) (fun hHeld => ?_)
  clear hK K hd bb
  try simp only [Act.put, List.setIfInBounds_toArray, List.set_cons_zero, List.set_cons_succ]
  refine take_d 8 (some 19) (.string (x1 ++ x2)) rfl (by kernel_rfl) (by kernel_rfl) (by kernel_rfl) (fun _ _ _ h => h) (fun oi h => by cases h; exact Or.inl ⟨by rfl, fun w' hS' => by have hq : x1.size + x2.size ≤ 9223372036854775807 := (by omega); go_simp⟩) hHeld ?_
  try simp only [Act.put, List.setIfInBounds_toArray, List.set_cons_zero, List.set_cons_succ]
  refine one_d 11 (some 22) rfl (by kernel_rfl) ?_
  intro o ho hd K hK
  cases ho
  go_simp
  refine (C3.out _).mono ?_
  rintro e w4 ⟨rfl, bb⟩
  have hHeld' := hHeld
  clear hHeld
  have hHeld := hHeld'
  clear hHeld'
  refine hK.out _ _ (⟨hHeld.1.below bb hHeld.1.lt, hHeld.2.trans (bb.mono hHeld.2.size)⟩) (fun hHeld => ?_)
  clear hK K hd bb
  try simp only [Act.put, List.setIfInBounds_toArray, List.set_cons_zero, List.set_cons_succ]
  refine take_d 12 (some 23) (.string (x1 ++ x2 ++ x3)) rfl (by kernel_rfl) (by kernel_rfl) (by kernel_rfl) (fun _ _ _ h => h) (fun oi h => by cases h; exact Or.inl ⟨by rfl, fun w' hS' => by have hq : (x1 ++ x2).size + x3.size ≤ 9223372036854775807 := (by omega); go_simp⟩) hHeld ?_
  try simp only [Act.put, List.setIfInBounds_toArray, List.set_cons_zero, List.set_cons_succ]
  refine one_d 14 (some 25) rfl (by kernel_rfl) ?_
  intro o ho hd K hK
  cases ho
  go_simp
  refine (C4.out _).mono ?_
  rintro e w5 ⟨rfl, bb⟩
  have hHeld' := hHeld
  clear hHeld
  have hHeld := hHeld'
  clear hHeld'
  refine hK.out _ _ (⟨hHeld.1.below bb hHeld.1.lt, hHeld.2.trans (bb.mono hHeld.2.size)⟩) (fun hHeld => ?_)
  clear hK K hd bb
  try simp only [Act.put, List.setIfInBounds_toArray, List.set_cons_zero, List.set_cons_succ]
  refine take_d 15 (some 26) (.string (x1 ++ x2 ++ x3 ++ x4)) rfl (by kernel_rfl) (by kernel_rfl) (by kernel_rfl) (fun _ _ _ h => h) (fun oi h => by cases h; exact Or.inl ⟨by rfl, fun w' hS' => by have hq : (x1 ++ x2 ++ x3).size + x4.size ≤ 9223372036854775807 := (by omega); go_simp⟩) hHeld ?_
  try simp only [Act.put, List.setIfInBounds_toArray, List.set_cons_zero, List.set_cons_succ]
  refine take_d 18 (some 29) (.string (x1 ++ x2 ++ x3 ++ x4 ++ tx)) rfl (by kernel_rfl) (by kernel_rfl) (by kernel_rfl) (fun _ _ _ h => h) (fun oi h => by cases h; exact Or.inl ⟨by rfl, fun w' hS' => by have hq : 14 + tx.size ≤ 9223372036854775807 := (by omega); go_simp⟩) hHeld ?_
  try simp only [Act.put, List.setIfInBounds_toArray, List.set_cons_zero, List.set_cons_succ]
  refine take_d 19 (some 2) (.string (x1 ++ x2 ++ x3 ++ x4 ++ tx)) rfl (by kernel_rfl) (by kernel_rfl) (by kernel_rfl) (fun _ _ _ h => h) (fun oi h => by cases h; exact Or.inl ⟨by rfl, fun w' hS' => by go_simp⟩) hHeld ?_
  try simp only [Act.put, List.setIfInBounds_toArray, List.set_cons_zero, List.set_cons_succ]
  refine wpAnyH_done (by kernel_rfl) ?_ _
  try simp only [Act.put]
  have hb5 := hHeld.2
  go_wp2
  go_ret
  exact ⟨by rw [HR.out]; rfl, hb5⟩

set_option maxHeartbeats 4000000 in
theorem refBytes_last (st re nm ix : Nat) (tx : ByteArray) (hst : st < 65536) (hre : re < 65536) (hnm : nm < 18446744073709551616) (hix : ix ≤ 31) (ht : tx.size ≤ 466) (w : World) :
    Calls Try.prog 14 #[.agg #[.int .u16 (st : Int), .int .u16 (re : Int), .int .u64 (nm : Int), .int .i64 (ix : Int), .bool true, .string tx]] w fun e w' => e = .returned (.string ⟨(X9.partL st re nm (ix + 32768) tx.data.toList).toArray⟩) ∧ Below w.heap.size w w' := by
  have C1 : Hid (∀ wx, Calls Try.prog 29 #[.int .u64 (st : Int), .int .i64 2] wx fun e w' => e = .returned (.string ⟨(W.putL st 2).toArray⟩) ∧ Below wx.heap.size wx w') := fun wx => refPut_k st 2 (by omega) (by decide) wx
  have C2 : Hid (∀ wx, Calls Try.prog 29 #[.int .u64 (re : Int), .int .i64 2] wx fun e w' => e = .returned (.string ⟨(W.putL re 2).toArray⟩) ∧ Below wx.heap.size wx w') := fun wx => refPut_k re 2 (by omega) (by decide) wx
  have C3 : Hid (∀ wx, Calls Try.prog 29 #[.int .u64 (nm : Int), .int .i64 8] wx fun e w' => e = .returned (.string ⟨(W.putL nm 8).toArray⟩) ∧ Below wx.heap.size wx w') := fun wx => refPut_k nm 8 (by omega) (by decide) wx
  have C4 : Hid (∀ wx, Calls Try.prog 29 #[.int .u64 (((ix + 32768) : Nat) : Int), .int .i64 2] wx fun e w' => e = .returned (.string ⟨(W.putL (ix + 32768) 2).toArray⟩) ∧ Below wx.heap.size wx w') := fun wx => refPut_k (ix + 32768) 2 (by omega) (by decide) wx
  have s1 : (⟨(W.putL st 2).toArray⟩ : ByteArray).size = 2 := by simp [ByteArray.size, W.putL_length]
  have s2 : (⟨(W.putL re 2).toArray⟩ : ByteArray).size = 2 := by simp [ByteArray.size, W.putL_length]
  have s3 : (⟨(W.putL nm 8).toArray⟩ : ByteArray).size = 8 := by simp [ByteArray.size, W.putL_length]
  have s4 : (⟨(W.putL (ix + 32768) 2).toArray⟩ : ByteArray).size = 2 := by simp [ByteArray.size, W.putL_length]
  have HR : Hid ((⟨(X9.partL st re nm (ix + 32768) tx.data.toList).toArray⟩ : ByteArray) = ⟨(W.putL st 2).toArray⟩ ++ ⟨(W.putL re 2).toArray⟩ ++ ⟨(W.putL nm 8).toArray⟩ ++ ⟨(W.putL (ix + 32768) 2).toArray⟩ ++ tx) := Go.WideShapes.bytes_inj (by simp [X9.partL, X9.headL])
  generalize (⟨(X9.partL st re nm (ix + 32768) tx.data.toList).toArray⟩ : ByteArray) = R at *
  generalize (⟨(W.putL st 2).toArray⟩ : ByteArray) = x1 at *
  generalize (⟨(W.putL re 2).toArray⟩ : ByteArray) = x2 at *
  generalize (⟨(W.putL nm 8).toArray⟩ : ByteArray) = x3 at *
  generalize (⟨(W.putL (ix + 32768) 2).toArray⟩ : ByteArray) = x4 at *
  have z12 : (x1 ++ x2).size = 4 := by rw [ByteArray.size_append]; omega
  have z13 : (x1 ++ x2 ++ x3).size = 12 := by rw [ByteArray.size_append]; omega
  have z14 : (x1 ++ x2 ++ x3 ++ x4).size = 14 := by rw [ByteArray.size_append]; omega
  have r0 : Row (w.alloc (.cells #[.int .u16 (st : Int), .int .u16 (re : Int), .int .u64 (nm : Int), .int .i64 (ix : Int), .bool true, .string tx] 40 (0, 0))) w.heap.size 40 [.int .u16 (st : Int), .int .u16 (re : Int), .int .u64 (nm : Int), .int .i64 (ix : Int), .bool true, .string tx] := Row.new' rfl rfl
  have b0 : Below w.heap.size w (w.alloc (.cells #[.int .u16 (st : Int), .int .u16 (re : Int), .int .u64 (nm : Int), .int .i64 (ix : Int), .bool true, .string tx] 40 (0, 0))) := (Below.refl _ _).alloc (Nat.le_refl _) _
  obtain ⟨wa, hwa⟩ : ∃ wa, wa = w.alloc (.cells #[.int .u16 (st : Int), .int .u16 (re : Int), .int .u64 (nm : Int), .int .i64 (ix : Int), .bool true, .string tx] 40 (0, 0)) := ⟨_, rfl⟩
  rw [← hwa] at r0 b0
  have c3 : wa.cell? ⟨w.heap.size, 3, none⟩ = some (.int .i64 (ix : Int)) := r0.cell 3
  have c4 : wa.cell? ⟨w.heap.size, 4, none⟩ = some (.bool true) := r0.cell 4
  go_enter Try.func14, Try.ntmps14
  go_wp2_with fail
  rw [← hwa]
  clear hwa c3 c4
  have hnat : ((ix : Int) + 32768) = ((ix + 32768 : Nat) : Int) := by omega
  try rw [hnat]
  clear hnat
  refine wp_region_held_drew (S := fun w' => Row w' w.heap.size 40 [.int .u16 (st : Int), .int .u16 (re : Int), .int .u64 (nm : Int), .int .i64 (ix : Int), .bool true, .string tx] ∧ Below w.heap.size w w') (by kernel_rfl) (⟨r0.drew, b0.drew⟩) (fun hHeld => ?_)
  refine take_d 0 (some 11) (.pointer (some ⟨w.heap.size, 0, none⟩)) rfl (by kernel_rfl) (by kernel_rfl) (by kernel_rfl) (fun _ _ _ h => h) (fun oi h => by cases h; exact Or.inl ⟨by rfl, fun w' hS' => by go_simp⟩) hHeld ?_
  try simp only [Act.put, List.setIfInBounds_toArray, List.set_cons_zero, List.set_cons_succ]
  refine take_d 1 (some 12) (.int .u16 (st : Int)) rfl (by kernel_rfl) (by kernel_rfl) (by kernel_rfl) (fun _ _ _ h => h) (fun oi h => by cases h; exact Or.inl ⟨by rfl, fun w' hS' => by have c : w'.cell? ⟨w.heap.size, 0, none⟩ = some (.int .u16 (st : Int)) := hS'.1.cell 0; go_simp⟩) hHeld ?_
  try simp only [Act.put, List.setIfInBounds_toArray, List.set_cons_zero, List.set_cons_succ]
  refine take_d 2 (some 13) (.int .u64 (st : Int)) rfl (by kernel_rfl) (by kernel_rfl) (by kernel_rfl) (fun _ _ _ h => h) (fun oi h => by cases h; exact Or.inl ⟨by rfl, fun w' hS' => by have hq : IntKind.u64.wrap (st : Int) = (st : Int) := (by rw [IntKind.wrap_u64]; omega); go_simp⟩) hHeld ?_
  try simp only [Act.put, List.setIfInBounds_toArray, List.set_cons_zero, List.set_cons_succ]
  refine take_d 4 (some 15) (.pointer (some ⟨w.heap.size, 1, none⟩)) rfl (by kernel_rfl) (by kernel_rfl) (by kernel_rfl) (fun _ _ _ h => h) (fun oi h => by cases h; exact Or.inl ⟨by rfl, fun w' hS' => by go_simp⟩) hHeld ?_
  try simp only [Act.put, List.setIfInBounds_toArray, List.set_cons_zero, List.set_cons_succ]
  refine take_d 5 (some 16) (.int .u16 (re : Int)) rfl (by kernel_rfl) (by kernel_rfl) (by kernel_rfl) (fun _ _ _ h => h) (fun oi h => by cases h; exact Or.inl ⟨by rfl, fun w' hS' => by have c : w'.cell? ⟨w.heap.size, 1, none⟩ = some (.int .u16 (re : Int)) := hS'.1.cell 1; go_simp⟩) hHeld ?_
  try simp only [Act.put, List.setIfInBounds_toArray, List.set_cons_zero, List.set_cons_succ]
  refine take_d 6 (some 17) (.int .u64 (re : Int)) rfl (by kernel_rfl) (by kernel_rfl) (by kernel_rfl) (fun _ _ _ h => h) (fun oi h => by cases h; exact Or.inl ⟨by rfl, fun w' hS' => by have hq : IntKind.u64.wrap (re : Int) = (re : Int) := (by rw [IntKind.wrap_u64]; omega); go_simp⟩) hHeld ?_
  try simp only [Act.put, List.setIfInBounds_toArray, List.set_cons_zero, List.set_cons_succ]
  refine take_d 9 (some 20) (.pointer (some ⟨w.heap.size, 2, none⟩)) rfl (by kernel_rfl) (by kernel_rfl) (by kernel_rfl) (fun _ _ _ h => h) (fun oi h => by cases h; exact Or.inl ⟨by rfl, fun w' hS' => by go_simp⟩) hHeld ?_
  try simp only [Act.put, List.setIfInBounds_toArray, List.set_cons_zero, List.set_cons_succ]
  refine take_d 10 (some 21) (.int .u64 (nm : Int)) rfl (by kernel_rfl) (by kernel_rfl) (by kernel_rfl) (fun _ _ _ h => h) (fun oi h => by cases h; exact Or.inl ⟨by rfl, fun w' hS' => by have c : w'.cell? ⟨w.heap.size, 2, none⟩ = some (.int .u64 (nm : Int)) := hS'.1.cell 2; go_simp⟩) hHeld ?_
  try simp only [Act.put, List.setIfInBounds_toArray, List.set_cons_zero, List.set_cons_succ]
  refine take_d 13 (some 24) (.int .u64 (((ix + 32768) : Nat) : Int)) rfl (by kernel_rfl) (by kernel_rfl) (by kernel_rfl) (fun _ _ _ h => h) (fun oi h => by cases h; exact Or.inl ⟨by rfl, fun w' hS' => by go_simp⟩) hHeld ?_
  try simp only [Act.put, List.setIfInBounds_toArray, List.set_cons_zero, List.set_cons_succ]
  refine take_d 16 (some 27) (.pointer (some ⟨w.heap.size, 5, none⟩)) rfl (by kernel_rfl) (by kernel_rfl) (by kernel_rfl) (fun _ _ _ h => h) (fun oi h => by cases h; exact Or.inl ⟨by rfl, fun w' hS' => by go_simp⟩) hHeld ?_
  try simp only [Act.put, List.setIfInBounds_toArray, List.set_cons_zero, List.set_cons_succ]
  refine take_d 17 (some 28) (.string tx) rfl (by kernel_rfl) (by kernel_rfl) (by kernel_rfl) (fun _ _ _ h => h) (fun oi h => by cases h; exact Or.inl ⟨by rfl, fun w' hS' => by have c : w'.cell? ⟨w.heap.size, 5, none⟩ = some (.string tx) := hS'.1.cell 5; go_simp⟩) hHeld ?_
  try simp only [Act.put, List.setIfInBounds_toArray, List.set_cons_zero, List.set_cons_succ]
  refine one_d 3 (some 14) rfl (by kernel_rfl) ?_
  intro o ho hd K hK
  cases ho
  go_simp
  refine (C1.out _).mono ?_
  rintro e w2 ⟨rfl, bb⟩
  have hHeld' := hHeld
  clear hHeld
  have hHeld := hHeld'
  clear hHeld'
  refine hK.out _ _ (⟨hHeld.1.below bb hHeld.1.lt, hHeld.2.trans (bb.mono hHeld.2.size)⟩) (fun hHeld => ?_)
  clear hK K hd bb
  try simp only [Act.put, List.setIfInBounds_toArray, List.set_cons_zero, List.set_cons_succ]
  refine one_d 7 (some 18) rfl (by kernel_rfl) ?_
  intro o ho hd K hK
  cases ho
  go_simp
  refine (C2.out _).mono ?_
  rintro e w3 ⟨rfl, bb⟩
  have hHeld' := hHeld
  clear hHeld
  have hHeld := hHeld'
  clear hHeld'
  refine hK.out _ _ (⟨hHeld.1.below bb hHeld.1.lt, hHeld.2.trans (bb.mono hHeld.2.size)⟩) (fun hHeld => ?_)
  clear hK K hd bb
  try simp only [Act.put, List.setIfInBounds_toArray, List.set_cons_zero, List.set_cons_succ]
  refine take_d 8 (some 19) (.string (x1 ++ x2)) rfl (by kernel_rfl) (by kernel_rfl) (by kernel_rfl) (fun _ _ _ h => h) (fun oi h => by cases h; exact Or.inl ⟨by rfl, fun w' hS' => by have hq : x1.size + x2.size ≤ 9223372036854775807 := (by omega); go_simp⟩) hHeld ?_
  try simp only [Act.put, List.setIfInBounds_toArray, List.set_cons_zero, List.set_cons_succ]
  refine one_d 11 (some 22) rfl (by kernel_rfl) ?_
  intro o ho hd K hK
  cases ho
  go_simp
  refine (C3.out _).mono ?_
  rintro e w4 ⟨rfl, bb⟩
  have hHeld' := hHeld
  clear hHeld
  have hHeld := hHeld'
  clear hHeld'
  refine hK.out _ _ (⟨hHeld.1.below bb hHeld.1.lt, hHeld.2.trans (bb.mono hHeld.2.size)⟩) (fun hHeld => ?_)
  clear hK K hd bb
  try simp only [Act.put, List.setIfInBounds_toArray, List.set_cons_zero, List.set_cons_succ]
  refine take_d 12 (some 23) (.string (x1 ++ x2 ++ x3)) rfl (by kernel_rfl) (by kernel_rfl) (by kernel_rfl) (fun _ _ _ h => h) (fun oi h => by cases h; exact Or.inl ⟨by rfl, fun w' hS' => by have hq : (x1 ++ x2).size + x3.size ≤ 9223372036854775807 := (by omega); go_simp⟩) hHeld ?_
  try simp only [Act.put, List.setIfInBounds_toArray, List.set_cons_zero, List.set_cons_succ]
  refine one_d 14 (some 25) rfl (by kernel_rfl) ?_
  intro o ho hd K hK
  cases ho
  go_simp
  refine (C4.out _).mono ?_
  rintro e w5 ⟨rfl, bb⟩
  have hHeld' := hHeld
  clear hHeld
  have hHeld := hHeld'
  clear hHeld'
  refine hK.out _ _ (⟨hHeld.1.below bb hHeld.1.lt, hHeld.2.trans (bb.mono hHeld.2.size)⟩) (fun hHeld => ?_)
  clear hK K hd bb
  try simp only [Act.put, List.setIfInBounds_toArray, List.set_cons_zero, List.set_cons_succ]
  refine take_d 15 (some 26) (.string (x1 ++ x2 ++ x3 ++ x4)) rfl (by kernel_rfl) (by kernel_rfl) (by kernel_rfl) (fun _ _ _ h => h) (fun oi h => by cases h; exact Or.inl ⟨by rfl, fun w' hS' => by have hq : (x1 ++ x2 ++ x3).size + x4.size ≤ 9223372036854775807 := (by omega); go_simp⟩) hHeld ?_
  try simp only [Act.put, List.setIfInBounds_toArray, List.set_cons_zero, List.set_cons_succ]
  refine take_d 18 (some 29) (.string (x1 ++ x2 ++ x3 ++ x4 ++ tx)) rfl (by kernel_rfl) (by kernel_rfl) (by kernel_rfl) (fun _ _ _ h => h) (fun oi h => by cases h; exact Or.inl ⟨by rfl, fun w' hS' => by have hq : 14 + tx.size ≤ 9223372036854775807 := (by omega); go_simp⟩) hHeld ?_
  try simp only [Act.put, List.setIfInBounds_toArray, List.set_cons_zero, List.set_cons_succ]
  refine take_d 19 (some 2) (.string (x1 ++ x2 ++ x3 ++ x4 ++ tx)) rfl (by kernel_rfl) (by kernel_rfl) (by kernel_rfl) (fun _ _ _ h => h) (fun oi h => by cases h; exact Or.inl ⟨by rfl, fun w' hS' => by go_simp⟩) hHeld ?_
  try simp only [Act.put, List.setIfInBounds_toArray, List.set_cons_zero, List.set_cons_succ]
  refine wpAnyH_done (by kernel_rfl) ?_ _
  try simp only [Act.put]
  have hb5 := hHeld.2
  go_wp2
  go_ret
  exact ⟨by rw [HR.out]; rfl, hb5⟩

theorem refBytes_yes (st re nm ix : Nat) (la : Bool) (tx : ByteArray) (hst : st < 65536) (hre : re < 65536) (hnm : nm < 18446744073709551616) (hix : ix ≤ 31) (ht : tx.size ≤ 466) (w : World) :
    Calls Try.prog 14 #[.agg #[.int .u16 (st : Int), .int .u16 (re : Int), .int .u64 (nm : Int), .int .i64 (ix : Int), .bool la, .string tx]] w fun e w' => e = .returned (.string ⟨(X9.partL st re nm (X9.ixN ix la) tx.data.toList).toArray⟩) ∧ Below w.heap.size w w' := by
  cases la with
  | false => exact refBytes_mid st re nm ix tx hst hre hnm hix ht w
  | true => exact refBytes_last st re nm ix tx hst hre hnm hix ht w

end Go.Proofs.Ytbkeodgiflfakaa
