/-
  Layer 9: a field's number; what a text's parts are; the datagram that a text is.
-/
import Derived.Test.YtbkeodgiflfakaaXRoom
import Derived.Test.YtbkeodgiflfakaaATake
import Derived.Test.YtbkeodgiflfakaaCut
import Derived.Test.YtbkeodgiflfakaaSLaws
namespace Go.Proofs.Ytbkeodgiflfakaa
open Go.RowKit
set_option linter.unusedVariables false
set_option maxRecDepth 20000

theorem number9_any (s : ByteArray) (h1 : 1 ≤ s.size) (h2 : s.size ≤ 8) (w : World) : Calls Try.prog 31 #[.string s] w fun e w' => e = .returned (.int .u64 (W.getN s.data.toList : Int)) ∧ w' = w := by
  go_enter Try.func31, Try.ntmps31
  go_wp2_with fail
  refine (get_mid s h1 h2 _).mono ?_
  rintro e w1 ⟨rfl, rfl⟩
  go_wp2
  go_ret
  exact ⟨rfl, rfl⟩

namespace X9
theorem szL (l : List UInt8) : (⟨l.toArray⟩ : ByteArray).size = l.length := List.size_toArray
theorem cutE_yes {s : List UInt8} {z : Nat} {zs : List Int} {r : List (List UInt8)} (hl : z ≤ s.length) (h : W.cutE (s.drop z) zs = (r, 0)) : W.cutE s ((z : Int) :: zs) = (s.take z :: r, 0) := by
  rw [W.cutE, if_neg (by omega), if_neg (by omega), Int.toNat_natCast, h]; rfl
theorem cutE_bad {s : List UInt8} {z : Nat} {zs : List Int} {e : Int} (hl : z ≤ s.length) (h : (W.cutE (s.drop z) zs).2 = e) (he : e ≠ 0) : (W.cutE s ((z : Int) :: zs)).2 = e := by
  rw [W.cutE, if_neg (by omega), if_neg (by omega), Int.toNat_natCast, if_neg (by rw [h]; exact he)]; exact h
theorem cutE_short {s : List UInt8} {z : Nat} {zs : List Int} (hl : s.length < z) : (W.cutE s ((z : Int) :: zs)).2 = 3 := by
  rw [W.cutE, if_neg (by omega), if_pos (by omega)]
theorem cutE_end (s : List UInt8) : W.cutE s [] = ([s], 0) := rfl
theorem cut2 (s : List UInt8) (h : 16 ≤ s.length) : W.cutE s [8, 8] = ([s.take 8, (s.drop 8).take 8, (s.drop 8).drop 8], 0) :=
  cutE_yes (z := 8) (by omega) (cutE_yes (z := 8) (by rw [List.length_drop]; omega) (cutE_end _))
theorem cut4 (s : List UInt8) (h : 14 ≤ s.length) : W.cutE s [2, 2, 8, 2] = ([s.take 2, (s.drop 2).take 2, ((s.drop 2).drop 2).take 8, (((s.drop 2).drop 2).drop 8).take 2, (((s.drop 2).drop 2).drop 8).drop 2], 0) :=
  cutE_yes (z := 2) (by omega) (cutE_yes (z := 2) (by simp only [List.length_drop]; omega) (cutE_yes (z := 8) (by simp only [List.length_drop]; omega) (cutE_yes (z := 2) (by simp only [List.length_drop]; omega) (cutE_end _))))
theorem cut4_short (s : List UInt8) (h : s.length < 14) : (W.cutE s [2, 2, 8, 2]).2 = 3 := by
  by_cases a : s.length < 2
  · exact cutE_short (z := 2) a
  · refine cutE_bad (z := 2) (by omega) ?_ (by decide)
    by_cases b : (s.drop 2).length < 2
    · exact cutE_short (z := 2) b
    · refine cutE_bad (z := 2) (by omega) ?_ (by decide)
      by_cases c : ((s.drop 2).drop 2).length < 8
      · exact cutE_short (z := 8) c
      · refine cutE_bad (z := 8) (by omega) ?_ (by decide)
        exact cutE_short (z := 2) (by simp only [List.length_drop]; omega)
end X9

theorem cutFour (s : ByteArray) (h : 14 ≤ s.size) (h' : s.size ≤ 281474976710656) (b : Nat) (w : World) (hb : b < w.heap.size) (h0 : w.cell? ⟨b, 0, none⟩ = some (.int .i64 2)) (h1 : w.cell? ⟨b, 1, none⟩ = some (.int .i64 2)) (h2 : w.cell? ⟨b, 2, none⟩ = some (.int .i64 8)) (h3 : w.cell? ⟨b, 3, none⟩ = some (.int .i64 2)) :
    Calls Try.prog 30 #[.string s, .slice (some ⟨b, 0, none⟩) 4 4] w fun e w' => e = .returned (.tuple #[.slice (some ⟨w.heap.size, 0, none⟩) 5 5, .int .i64 0]) ∧
      w'.ownsRow w.heap.size 9 1 (.slice (some ⟨w.heap.size, 0, none⟩) 5 5) 5 (W.strs [s.data.toList.take 2, (s.data.toList.drop 2).take 2, ((s.data.toList.drop 2).drop 2).take 8, (((s.data.toList.drop 2).drop 2).drop 8).take 2, (((s.data.toList.drop 2).drop 2).drop 8).drop 2]) ∧ Below w.heap.size w w' := by
  have hl : s.data.toList.length = s.size := by simp
  have hE := X9.cut4 s.data.toList (by omega)
  have := cut_any s.data.toList (some ⟨b, 0, none⟩) 4 [2, 2, 8, 2] w (by omega) (by decide) (fun _ => ⟨b, 0, rfl, hb, fun i hi => by
    match i, hi with
    | 0, _ => simpa using h0
    | 1, _ => simpa using h1
    | 2, _ => simpa using h2
    | 3, _ => simpa using h3⟩)
  rw [hE] at this
  refine this.mono ?_
  rintro e w' ⟨v, rfl, h | h, hbel⟩
  · obtain ⟨_, rfl, _, ho⟩ := h
    exact ⟨rfl, ho, hbel⟩
  · exact absurd rfl h.1
theorem cutFour_no (s : ByteArray) (h : s.size < 14) (b : Nat) (w : World) (hb : b < w.heap.size) (h0 : w.cell? ⟨b, 0, none⟩ = some (.int .i64 2)) (h1 : w.cell? ⟨b, 1, none⟩ = some (.int .i64 2)) (h2 : w.cell? ⟨b, 2, none⟩ = some (.int .i64 8)) (h3 : w.cell? ⟨b, 3, none⟩ = some (.int .i64 2)) :
    Calls Try.prog 30 #[.string s, .slice (some ⟨b, 0, none⟩) 4 4] w fun e w' => e = .returned (.tuple #[.slice none 0 0, .int .i64 3]) ∧ Below w.heap.size w w' := by
  have hl : s.data.toList.length = s.size := by simp
  have hE := X9.cut4_short s.data.toList (by omega)
  have := cut_any s.data.toList (some ⟨b, 0, none⟩) 4 [2, 2, 8, 2] w (by omega) (by decide) (fun _ => ⟨b, 0, rfl, hb, fun i hi => by
    match i, hi with
    | 0, _ => simpa using h0
    | 1, _ => simpa using h1
    | 2, _ => simpa using h2
    | 3, _ => simpa using h3⟩)
  rw [hE] at this
  refine this.mono ?_
  rintro e w' ⟨v, rfl, h | h, hbel⟩
  · exact absurd h.1 (by decide)
  · obtain ⟨_, rfl⟩ := h
    exact ⟨rfl, hbel⟩

structure Leaf (G : Prop) : Prop where
  out : G
theorem cut_here9 {G A : Prop} (h : Leaf G → A) (g : G) : A := h ⟨g⟩
theorem cell_alloc {w : World} {p : Addr} {v : Value} (h : w.cell? p = some v) {o : Obj} : (w.alloc o).cell? p = some v := (World.cell?_alloc_lt _ _ _ (block_lt h)).trans h
theorem cell_setRow {w : World} {g k o : Nat} {v : Value} (h : w.cell? ⟨g, o, none⟩ = some v) (hk : g ≠ k) (cs : Array Value) : (w.setRow k cs).cell? ⟨g, o, none⟩ = some v := by rw [World.cell?_of_block (Go.setRow_other w k g cs hk)]; exact h

/-- What a row of texts holds, by its places. -/
theorem ownsAt {x : World} {B g cap n : Nat} {l : List (List UInt8)} (h : x.ownsRow B 9 1 (.slice (some ⟨g, 0, none⟩) n cap) n (W.strs l)) (j : Nat) (hj : j < n) (y : List UInt8) (hy : l[j]? = some y) :
    x.cell? ⟨g, j, none⟩ = some (.string ⟨y.toArray⟩) := by
  rw [h.cellAt j (by omega)]
  simp [W.strs, hy]

end Go.Proofs.Ytbkeodgiflfakaa
