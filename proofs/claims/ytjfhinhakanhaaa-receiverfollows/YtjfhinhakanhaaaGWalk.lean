/-
  Layer 16: what the walks of ReceiverTakes and ReceiverFollows share: a receiver's numbers in memory; blocks apart. No condition.
-/
import Derived.Test.YtjfhinhakanhaaaGEq
import Derived.Test.YtjfhinhakanhaaaGRAny
import Derived.Test.YtjfhinhakanhaaaISend
import Derived.OpenShut
namespace Go.Proofs.Ytjfhinhakanhaaa
open Go.RowKit
set_option linter.unusedVariables false
set_option linter.unusedSimpArgs false
set_option maxRecDepth 20000
namespace R16
/-- The numbers of n + 1 states, in a row of their own. -/
def NumAt (w : World) (g n : Nat) (L : List Cm) : Prop := w.ownsRow 0 23 1 (.slice (some ⟨g, 0, none⟩) (n + 1) (n + 1)) (n + 1) (nums L)
theorem NumAt.keep {w w' : World} {g n : Nat} {L : List Cm} (h : NumAt w g n L) (hb : Below w.heap.size w w') : NumAt w' g n L := ownT h hb
theorem NumAt.alloc {w : World} {g n : Nat} {L : List Cm} (h : NumAt w g n L) (o : Obj) : NumAt (w.alloc o) g n L := World.ownsRow.alloc h o
theorem NumAt.drew {w : World} {g n : Nat} {L : List Cm} (h : NumAt w g n L) : NumAt w.drew g n L := h
theorem NumAt.setRow {w : World} {g n k : Nat} {L : List Cm} (h : NumAt w g n L) (hk : g ≠ k) (c : Array Value) : NumAt (w.setRow k c) g n L := 
  World.ownsRow.kept h (row := some k) ⟨rfl, rfl, rfl, by simp [World.setRow], fun j _ hj => Go.setRow_other w k j c (fun e => hj (by simp [e]))⟩ (.inr (fun hh => hk (by simpa [Value.ownBlock] using hh)))
theorem NumAt.lt {w : World} {g n : Nat} {L : List Cm} (h : NumAt w g n L) : g < w.heap.size := by
  rcases h.2 with ⟨h1, _⟩ | ⟨g', cap', cur, hv, h1, hg, _⟩
  · exact absurd h1 (by simp)
  · have e1 : g = g' := by simpa using congrArg (fun v => match v with | Value.slice (some a) _ _ => a.block | _ => 0) hv
    rw [e1]; exact (Array.getElem?_eq_some_iff.1 hg).1
theorem NumAt.cell {w : World} {g n k : Nat} {L : List Cm} {q : Cm} (h : NumAt w g n L) (hn : L.length = n + 1) (hq : L[k]? = some q) : w.cell? ⟨g, k, none⟩ = some (.int .u64 (q.num : Int)) := by
  have hk := (List.getElem?_eq_some_iff.1 hq).1
  have := World.ownsRow.cellAt h k (by omega)
  rw [this]; unfold nums; rw [List.getElem?_map, hq]; rfl
/-- States and a receiver never share a block. -/
theorem cm_ne' {w : World} {L : List Cm} {g off p : Nat} {t : TypeId} {b c : Value} (h : CmAt w g off L) (hp : 1 ≤ L.length) (r : Row w p t [b, c]) (hb : ∀ z : Int, b ≠ .int .u64 z) (hc : ∀ z : Int, c ≠ .int .u64 z) : g ≠ p := by
  rintro rfl
  obtain ⟨t', pre, sp, h1, r'⟩ := h
  have e := r.symm.trans r'
  obtain ⟨q, l, hq⟩ : ∃ q l, L = q :: l := by
    cases hL : L with
    | nil => rw [hL] at hp; simp at hp
    | cons q l => exact ⟨q, l, rfl⟩
  rw [hq] at e
  have e2 : [b, c] = pre ++ cellsL (q :: l) ++ sp := by have e3 := e; simp at e3; simpa using e3.1
  have hm : Value.int .u64 (q.num : Int) ∈ [b, c] := by rw [e2]; simp [cellsL, Cm.c]
  simp at hm
  rcases hm with h | h
  · exact hb _ h.symm
  · exact hc _ h.symm
theorem up_one (a : ByteArray) : Up [⟨0, a⟩] := fun i j p q hij hp hq => by
  have h1 := (List.getElem?_eq_some_iff.1 hp).1
  have h2 := (List.getElem?_eq_some_iff.1 hq).1
  simp at h1 h2
  omega
end R16
/-- Of, of a number that is there. -/
theorem of_there (g n cap k : Nat) (L : List R16.Cm) (q : R16.Cm) (w : World) (hl : L.length = n + 1) (h9 : n ≤ 900) (hu : R16.Up L) (hq : L[k]? = some q) (ha : R16.CmAt w g 0 L) :
    Calls Try.prog 14 #[.agg #[.func (.func 18) #[] #[], .slice (some ⟨g, 0, none⟩) (n + 1) cap], .int .u64 (q.num : Int)] w fun e w' => e = .returned (.tuple #[.string q.tx, .bool true]) ∧ Below w.heap.size w w' := by
  refine (of_any16 g n cap q.num L w hl h9 hu ha).mono ?_
  rintro e w' ⟨i, rfl, hP, hbb⟩
  obtain ⟨rfl, h1, h2⟩ := hP.at hu hq rfl
  rw [h1, h2]
  exact ⟨rfl, hbb⟩
/-- Of, of whatever number. -/
theorem of_what (g n cap k : Nat) (L : List R16.Cm) (w : World) (hl : L.length = n + 1) (h9 : n ≤ 900) (hu : R16.Up L) (ha : R16.CmAt w g 0 L) :
    Calls Try.prog 14 #[.agg #[.func (.func 18) #[] #[], .slice (some ⟨g, 0, none⟩) (n + 1) cap], .int .u64 (k : Int)] w fun e w' => ∃ (t : ByteArray) (b : Bool), e = .returned (.tuple #[.string t, .bool b]) ∧ ((b = true ∧ ∃ (j : Nat) (q : R16.Cm), L[j]? = some q ∧ q.num = k) ∨ (b = false ∧ t = ⟨#[]⟩ ∧ ∀ (j : Nat) (q : R16.Cm), L[j]? = some q → q.num ≠ k)) ∧ Below w.heap.size w w' := by
  refine (of_any16 g n cap k L w hl h9 hu ha).mono ?_
  rintro e w' ⟨i, rfl, hP, hbb⟩
  cases hat : R16.at? L k i with
  | true =>
    obtain ⟨q, hq, hqn⟩ := R16.at_some hat
    exact ⟨_, _, rfl, .inl ⟨rfl, i, q, hq, hqn⟩, hbb⟩
  | false =>
    refine ⟨_, _, rfl, .inr ⟨rfl, by unfold R16.ofT; rw [hat]; rfl, fun j q hq hqn => ?_⟩, hbb⟩
    have := (hP.at hu hq hqn).2.1
    rw [hat] at this
    cases this
end Go.Proofs.Ytjfhinhakanhaaa
