/-
  Laws of no program: a block of so many cells; a whole struct loaded by a guarded operation; rows of the call's own behind a store elsewhere.
-/
import Derived.Test.YtngoighdpmeepaaSLaws
import Derived.Test.YtngoighdpmeepaaSTake
import Derived.Laws.IdiomStrings
import Derived.Lib.Hide
import Derived.Below
namespace Go.Proofs.Ytngoighdpmeepaa
open Go.RowKit
set_option linter.unusedVariables false

/-- A block of so many cells. -/
def Has (w : World) (p : Nat) (t : TypeId) (n : Nat) : Prop := ∃ l : List Value, l.length = n ∧ Row w p t l
theorem Has.lt {w : World} {p n : Nat} {t : TypeId} (h : Has w p t n) : p < w.heap.size := by obtain ⟨l, _, h2⟩ := h; exact h2.lt
theorem Has.below {w w' : World} {p n : Nat} {t : TypeId} (h : Has w p t n) (hb : Below w.heap.size w w') : Has w' p t n := by
  obtain ⟨l, h1, h2⟩ := h; exact ⟨l, h1, h2.below hb h2.lt⟩
theorem Has.alloc {w : World} {p n : Nat} {t : TypeId} (h : Has w p t n) (o : Obj) : Has (w.alloc o) p t n := by
  obtain ⟨l, h1, h2⟩ := h; exact ⟨l, h1, h2.alloc o⟩
theorem Has.drew {w : World} {p n : Nat} {t : TypeId} (h : Has w p t n) : Has w.drew p t n := by
  obtain ⟨l, h1, h2⟩ := h; exact ⟨l, h1, h2.drew⟩
theorem Has.other {w : World} {p n k : Nat} {t : TypeId} (h : Has w p t n) (hk : p ≠ k) (c : Array Value) : Has (w.setRow k c) p t n := by
  obtain ⟨l, h1, h2⟩ := h; exact ⟨l, h1, h2.setRow_other hk c⟩

/-- A whole row loaded by an operation that may be guarded, where the guard says yes. -/
theorem wpList_rowT {P : Program} {ops : Array Oper} {rest : List Oper} {op : Oper} {a : Act} {w : World} {Q : Exit → Act → World → Prop} (hw : Region.wanted op (yielded ops a.tmps) = true) (ty : TypeId) (x : Operand) (ho : op.op = .load ty x)
    (g : Nat) (hx : a.eval x = .pointer (some ⟨g, 0, none⟩)) (t : TypeId) (l : List Value) (d : TypeDesc) (hg : Row w g t l) (hu : P.underlying ty = some d) (hd : d.isRow = true) (hi : (P.info? ty).map (·.size) = some l.length)
    (h : wpList P ops Q rest (a.put op.dst (.agg l.toArray)) w) : wpList P ops Q (op :: rest) a w :=
  wpList_step fun K hK => by simp only [hw, if_true]; exact wp_load_mid ty x ho g 0 hx l d hg.range hu hd hi (hK _ _ h)
theorem ownT {w w' : World} {B e size n : Nat} {v : Value} {xs : List Value} (h : w.ownsRow B e size v n xs) (hb : Below w.heap.size w w') : w'.ownsRow B e size v n xs :=
  h.kept (row := none) ⟨hb.os, hb.tape, hb.output, hb.size, fun k hk _ => hb.block k hk⟩ (by cases v <;> simp [Value.ownBlock] <;> (rename_i a _ _; cases a <;> simp))

theorem results_row2_tmp {P : Program} {fn : Func} {p q u : Tmp} {ty ty' : TypeId} (h : fn.results = #[.cell p ty, .cell q ty', .tmp u]) (tmps : Array Value) (w : World) (g : Nat) (t : TypeId) (l : List Value) (d : TypeDesc) (g' : Nat) (t' : TypeId) (l' : List Value) (d' : TypeDesc)
    (hp : tmps.getD p undef = .pointer (some ⟨g, 0, none⟩)) (hg : Row w g t l)
    (hu : P.underlying ty = some d) (hd : (match d with | .struct _ | .array _ _ => true | _ => false) = true) (hi : (P.info? ty).map (·.size) = some l.toArray.size)
    (hp' : tmps.getD q undef = .pointer (some ⟨g', 0, none⟩)) (hg' : Row w g' t' l')
    (hu' : P.underlying ty' = some d') (hd' : (match d' with | .struct _ | .array _ _ => true | _ => false) = true) (hi' : (P.info? ty').map (·.size) = some l'.toArray.size) :
    (results fn tmps).run P w = .ok (.tuple #[.agg l.toArray, .agg l'.toArray, tmps.getD u undef]) w := by
  have e1 := run_loadVar_row w g t ty _ _ d hg hu hd hi
  have e2 := run_loadVar_row w g' t' ty' _ _ d' hg' hu' hd' hi'
  have hp2 : tmps[p]?.getD undef = .pointer (some ⟨g, 0, none⟩) := by simpa using hp
  have hq2 : tmps[q]?.getD undef = .pointer (some ⟨g', 0, none⟩) := by simpa using hp'
  simp only [results, h]
  simp [Sem.run_bind, Result.andThen, hp2, hq2, asAddr, e1, e2]

theorem three_dT {P : Program} {ops : Array Oper} {Q : Exit → Act → World → Prop} {md : Region.Mode} {S : World → Prop} (i j k : Nat) {fuel : Nat} {listed : Array Bool} {a : Act} {w : World} {oi oj ok : Oper} (hi : ops[i]? = some oi) (hj : ops[j]? = some oj) (hk : ops[k]? = some ok)
    (hr : Region.ready md ops listed = [i, j, k])
    (h1 : ∀ K' : Act → World → Prop, Shut (∀ a w, S w → (S w → wpAnyH P md ops Q S fuel (listed.setIfInBounds i true) a w) → K' a w) → if Region.wanted oi (yielded ops a.tmps) = true then Oper.wp P oi a w K' Q else K' (a.put oi.dst undef) w)
    (h2 : ∀ K' : Act → World → Prop, Shut (∀ a w, S w → (S w → wpAnyH P md ops Q S fuel (listed.setIfInBounds j true) a w) → K' a w) → if Region.wanted oj (yielded ops a.tmps) = true then Oper.wp P oj a w K' Q else K' (a.put oj.dst undef) w)
    (h3 : ∀ K' : Act → World → Prop, Shut (∀ a w, S w → (S w → wpAnyH P md ops Q S fuel (listed.setIfInBounds k true) a w) → K' a w) → if Region.wanted ok (yielded ops a.tmps) = true then Oper.wp P ok a w K' Q else K' (a.put ok.dst undef) w) :
    wpAnyH P md ops Q S (fuel + 1) listed a w :=
  wpAnyH_ready hr (by simp) (AllReadyH.cons hi h1 (AllReadyH.cons hj h2 (AllReadyH.cons hk h3 AllReadyH.nil)))
/-- What is proved once for many ways. -/
structure LeafT (G : Prop) : Prop where
  out : G
theorem cut_hereT {G A : Prop} (h : LeafT G → A) (g : G) : A := h ⟨g⟩

/-- At the operation of this slot. -/
theorem at_dst {P : Program} {ops : Array Oper} {rest : List Oper} {o : Oper} {a : Act} {w : World} {Q : Exit → Act → World → Prop} (d : Option Nat) (hd : o.dst = d) (h : wpList P ops Q (o :: rest) a w) : wpList P ops Q (o :: rest) a w := h

end Go.Proofs.Ytngoighdpmeepaa
