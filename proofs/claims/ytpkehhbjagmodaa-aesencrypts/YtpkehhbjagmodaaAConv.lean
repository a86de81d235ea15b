/-
  A text of 16 bytes, converted to a row of them.
-/
import Derived.Test.YtpkehhbjagmodaaATake
import Derived.Laws.IdiomStrings
import Derived.Laws.Cover3
import Derived.Stop.BytesEq
namespace Go.Proofs.Ytpkehhbjagmodaa
open Go.RowKit
set_option linter.unusedVariables false

theorem conv16 (s : ByteArray) (hs : s.size = 16) (w : World) :
    ∃ cap wc, (convert 9 30 (.string s)).run Try.prog w = .ok (.slice (some ⟨w.heap.size, 0, none⟩) 16 cap) wc ∧ 16 ≤ cap ∧ wc.rangeAt w.heap.size 0 (W.cellsOf s.data.toList) ∧ Below w.heap.size w wc := by
  have hcv := run_bytes_of_string (P := Try.prog) w 9 30 5 s Try.underlying9 Try.underlying30 Try.underlying5
  have hge := grownCap_ge w s.size 0 5
  refine ⟨grownCap w s.size 0 5, _, by rw [hcv, hs], by omega, ?_, ((Below.refl _ _).drew).alloc (Nat.le_refl _) _⟩
  first | rw [← hs] | skip
  generalize grownCap w s.size 0 5 = cap at *
  have hh : (w.drew.alloc (.cells (bytesRow s cap) 5 ((bytesRow s cap).size, (bytesRow s cap).size + 1))).heap[w.heap.size]? = some (.cells (bytesRow s cap) 5 ((bytesRow s cap).size, (bytesRow s cap).size + 1)) := by
    show (w.heap.push _)[w.heap.size]? = _; simp
  intro j u hj
  rw [Nat.zero_add, cell_of_row _ _ j _ _ _ hh]
  have hjl : j < s.size := by
    by_cases h0 : j < s.size
    · exact h0
    · rw [List.getElem?_eq_none (by rw [c8_len]; simp; omega)] at hj; cases hj
  unfold bytesRow
  rw [Array.getElem?_append_left (by simp; exact hjl), Array.getElem?_map]
  simp only [W.cellsOf, List.getElem?_map, Array.getElem?_toList] at hj
  exact hj

theorem equal16 (a b : List UInt8) (ha : a.length = 16) (hb : b.length = 16) (w : World) : (Op.equalIn 10000 23 (.agg (W.cellsOf a).toArray) (.agg (W.cellsOf b).toArray)).run Try.prog w = .ok (a == b) w :=
  run_equalIn_bytes w 9998 23 5 16 Try.underlying23 Try.underlying5 (fun w => by kernel_rfl) a b ha hb
theorem array16 (g cap : Nat) (w : World) : (Instr.arrayAt 23 (.slice (some ⟨g, 0, none⟩) 16 cap)).run Try.prog w = .ok (.pointer (some ⟨g, 0, none⟩)) w :=
  run_arrayAt w 23 5 16 _ 16 cap Try.underlying23 (Nat.le_refl _)

end Go.Proofs.Ytpkehhbjagmodaa
