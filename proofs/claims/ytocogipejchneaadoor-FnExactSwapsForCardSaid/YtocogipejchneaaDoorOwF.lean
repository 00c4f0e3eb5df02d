/-
  What the body of a range over a function keeps: rows and blocks of cells, where a block that is no cells is turned.
-/
import Derived.RangeFuncFrom
import Derived.RangeFuncWrites
import Derived.RangeFuncLeaves
import Derived.Test.YtocogipejchneaaDoorBlk
namespace Go.Proofs.YtocogipejchneaaDoor
open Go Go.RowKit
set_option linter.unusedVariables false

theorem blkA_kept {W W' : World} {row : Option Nat} {B : Nat} {T : TypeId} {vs : Array Value} (h : BlkA W B T vs) (hg : W.grownBy W' row) (hr : ∀ r, row = some r → ∃ o : Obj, W.heap[r]? = some o ∧ o.isCells = false) : BlkA W' B T vs :=
  (grownBy_keeps_cells hg hr h rfl).trans h
theorem row_kept {B n k : Nat} {T : TypeId} {W W' : World} {v : Value} {xs : List Value} {row : Option Nat} (h : W.ownsRow B T n v k xs) (hg : W.grownBy W' row) (hr : ∀ r, row = some r → ∃ o : Obj, W.heap[r]? = some o ∧ o.isCells = false) : W'.ownsRow B T n v k xs := by
  refine World.ownsRow.kept h hg ?_
  rcases h.2 with ⟨rfl, _⟩ | ⟨g, cap, cur, rfl, hB, hgb, rest⟩
  · exact .inl rfl
  · refine .inr fun e => ?_
    obtain ⟨o, ho, hc⟩ := hr g e.symm
    rw [hgb] at ho
    cases ho
    cases hc
theorem below_kept {B n : Nat} {w₀ W W' : World} {row : Option Nat} (h : Below n w₀ W) (hn : n ≤ W.heap.size) (hB : n ≤ B) (hg : W.grownBy W' row) (hr : ∀ r, row = some r → B ≤ r) : Below n w₀ W' :=
  h.grown hg hn fun k e => Nat.le_trans hB (hr k e)
theorem true_t {A B C : World} (_ : True) (_ : True) : True := trivial
end Go.Proofs.YtocogipejchneaaDoor
