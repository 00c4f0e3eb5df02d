/-
  This chapter's errors in memory, and the code of each.
-/
import Derived.Test.YtnjhkmoinlikiaaDoorErr
namespace Go.Proofs.YtnjhkmoinlikiaaDoor
open Go Go.RowKit
set_option linter.unusedVariables false

theorem row_below {w w' : World} {a : Addr} (h : ∃ c t, w.heap[a.block]? = some (.cells c t (0, 0))) (hb : Below w.heap.size w w') : ∃ c t, w'.heap[a.block]? = some (.cells c t (0, 0)) := by
  obtain ⟨c, t, h⟩ := h
  exact ⟨c, t, by rw [hb.block a.block (Array.getElem?_eq_some_iff.1 h).1]; exact h⟩
end Go.Proofs.YtnjhkmoinlikiaaDoor
