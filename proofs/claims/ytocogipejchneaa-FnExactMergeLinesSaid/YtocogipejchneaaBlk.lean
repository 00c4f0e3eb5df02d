/-
  A block of memory, whole: the cells that it holds.
-/
import Derived.RangeFuncBox
import Derived.RangeFuncLeaves
import Derived.RangeFuncNested
import Derived.Test.YtocogipejchneaaBase
namespace Go.Proofs.Ytocogipejchneaa
open Go Go.RowKit
set_option linter.unusedVariables false

/-- Block B holds the values vs, and no other cell. -/
def BlkA (w : World) (B : Nat) (T : TypeId) (vs : Array Value) : Prop := w.heap[B]? = some (.cells vs T (0, 0))
theorem BlkA.lt {w : World} {B : Nat} {T : TypeId} {vs : Array Value} (h : BlkA w B T vs) : B < w.heap.size := (Array.getElem?_eq_some_iff.1 h).1
theorem BlkA.at {w : World} {B : Nat} {T : TypeId} {vs : Array Value} (h : BlkA w B T vs) (i : Nat) : w.cell? ⟨B, i, none⟩ = vs[i]? := cell_of_row w B i _ T (0, 0) h
theorem BlkA.frozen {w : World} {B : Nat} {T : TypeId} {vs : Array Value} (h : BlkA w B T vs) (i : Nat) : w.frozen? ⟨B, i, none⟩ = false := frozen_of_row w B i _ T h
theorem BlkA.new {w : World} {n : Nat} (hn : w.heap.size = n) (T : TypeId) (vs : Array Value) : BlkA (w.alloc (.cells vs T)) n T vs := by subst hn; exact heap_alloc_new w _
theorem BlkA.alloc {w : World} {B : Nat} {T : TypeId} {vs : Array Value} (h : BlkA w B T vs) (o : Obj) : BlkA (w.alloc o) B T vs := (heap_alloc_old w o B h.lt).trans h
theorem BlkA.other {w : World} {B : Nat} {T : TypeId} {vs : Array Value} (h : BlkA w B T vs) (p : Addr) (u : Value) (hp : B ≠ p.block) : BlkA (w.setCell p u) B T vs := (heap_setCell_other w p B u hp).trans h
theorem BlkA.set {w : World} {B : Nat} {T : TypeId} {vs : Array Value} (h : BlkA w B T vs) (i : Nat) (u : Value) : BlkA (w.setCell ⟨B, i, none⟩ u) B T (vs.setIfInBounds i u) := by
  unfold BlkA; rw [heap_setCell_same w B i _ T _ h]
theorem BlkA.below {w w' : World} {B : Nat} {T : TypeId} {vs : Array Value} (h : BlkA w B T vs) (hb : Below w.heap.size w w') : BlkA w' B T vs := by
  unfold BlkA; rw [hb.block B h.lt]; exact h
theorem BlkA.drewN {w : World} {B : Nat} {T : TypeId} {vs : Array Value} (h : BlkA w B T vs) (n : Nat) : BlkA (w.drewN n) B T vs := h.below (bdrewN n)
theorem BlkA.drew {w : World} {B : Nat} {T : TypeId} {vs : Array Value} (h : BlkA w B T vs) : BlkA w.drew B T vs := h.below (Below.refl _ _).drew
end Go.Proofs.Ytocogipejchneaa
