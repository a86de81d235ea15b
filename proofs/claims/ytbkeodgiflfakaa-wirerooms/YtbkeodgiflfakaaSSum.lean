/-
  Layer 3: sha.Sum; the chapter's example.
-/
import Derived.Test.YtbkeodgiflfakaaSText
import Derived.Test.YtbkeodgiflfakaaAwake
namespace Go.Proofs.Ytbkeodgiflfakaa
open Go.RowKit
set_option linter.unusedVariables false
set_option maxRecDepth 20000

theorem IsStrs.grown {w w' : World} {v : Value} {xs : List ByteArray} (h : IsStrs w v xs) (hs : w.heap.size ≤ w'.heap.size) (hc : ∀ b, b < w.heap.size → w'.heap[b]? = w.heap[b]?) : IsStrs w' v xs := by
  rcases h with h | ⟨bk, o, c, h1, h2, h3, h4⟩
  · exact .inl h
  · refine .inr ⟨bk, o, c, h1, h2, by omega, fun j x hj => ?_⟩
    have := h4 j x hj
    unfold World.cell? at this ⊢
    simp only [hc bk h3] at this ⊢
    exact this

end Go.Proofs.Ytbkeodgiflfakaa
