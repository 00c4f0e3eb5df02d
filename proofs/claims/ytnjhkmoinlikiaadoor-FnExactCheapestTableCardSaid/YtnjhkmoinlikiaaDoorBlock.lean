/-
  A block of memory that holds a list of numbers, whole.
-/
import Derived.RangeFuncBox
import Derived.RangeFuncLeaves
import Derived.RangeFuncNested
import Derived.Test.YtnjhkmoinlikiaaDoorBase
namespace Go.Proofs.YtnjhkmoinlikiaaDoor
open Go Go.RowKit
set_option linter.unusedVariables false

/-- Block B holds the numbers L, and no other cell. -/
def BlockI (W : World) (B : Nat) (T : TypeId) (L : List Int) : Prop := W.heap[B]? = some (.cells (L.map (Value.int .i64)).toArray T (0, 0))
theorem BlockI.lt {W : World} {B : Nat} {T : TypeId} {L : List Int} (h : BlockI W B T L) : B < W.heap.size := (Array.getElem?_eq_some_iff.1 h).1
theorem BlockI.cell {W : World} {B : Nat} {T : TypeId} {L : List Int} (h : BlockI W B T L) (i : Nat) (hi : i < L.length) : W.cell? ⟨B, i, none⟩ = some (.int .i64 (L.getD i 0)) := by
  rw [cell_of_row W B i _ T (0, 0) h]
  simp [List.getD, hi]
theorem BlockI.frozen {W : World} {B : Nat} {T : TypeId} {L : List Int} (h : BlockI W B T L) (i : Nat) : W.frozen? ⟨B, i, none⟩ = false := frozen_of_row W B i _ T h
theorem BlockI.set {W : World} {B : Nat} {T : TypeId} {L : List Int} (h : BlockI W B T L) (i : Nat) (x : Int) : BlockI (W.setCell ⟨B, i, none⟩ (.int .i64 x)) B T (L.set i x) := by
  unfold BlockI
  rw [heap_setCell_same W B i _ T _ h]
  simp [List.map_set]
theorem BlockI.other {W : World} {B : Nat} {T : TypeId} {L : List Int} (h : BlockI W B T L) (p : Addr) (u : Value) (hp : B ≠ p.block) : BlockI (W.setCell p u) B T L := (heap_setCell_other W p B u hp).trans h
theorem BlockI.new (W : World) (T : TypeId) (L : List Int) : BlockI (W.alloc (.cells (L.map (Value.int .i64)).toArray T)) W.heap.size T L := heap_alloc_new W _
theorem BlockI.alloc {W : World} {B : Nat} {T : TypeId} {L : List Int} (h : BlockI W B T L) (o : Obj) : BlockI (W.alloc o) B T L := (heap_alloc_old W o B h.lt).trans h
theorem BlockI.kept {W W' : World} {B : Nat} {T : TypeId} {L : List Int} {row : Option Nat} (h : BlockI W B T L) (hg : W.grownBy W' row) (hr : ∀ r, row = some r → ∃ o : Obj, W.heap[r]? = some o ∧ o.isCells = false) : BlockI W' B T L := by
  refine (hg.block B h.lt (fun e => ?_)).trans h
  obtain ⟨o, h1, h2⟩ := hr B e.symm
  rw [h] at h1
  simp at h1
  subst h1
  simp [Obj.isCells] at h2

end Go.Proofs.YtnjhkmoinlikiaaDoor
