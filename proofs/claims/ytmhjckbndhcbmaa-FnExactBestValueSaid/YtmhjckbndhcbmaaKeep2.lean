/-
  What a round of a range over a function has to keep; rounds told by their numbers.
-/
import Derived.RangeFuncBox
import Derived.RangeFuncLeaves
import Derived.RangeFuncNested
import Derived.RangeFuncWrites
import Derived.Shelf.Abstract
import Derived.OwnWalkIn
import Derived.TacticsInMore
import Derived.LoopNIn
import Derived.LoopIn
import Derived.Test.YtmhjckbndhcbmaaBase
import Derived.Test.YtmhjckbndhcbmaaProg
namespace Go.Proofs.Ytmhjckbndhcbmaa
open Go Go.RowKit Go.Shelf
set_option linter.unusedVariables false

/-- What a round has to keep: the iterator's own box and the row that it reads. -/
def Keeps2 (c b : Nat) (W W' : World) : Prop := W'.heap[c]? = W.heap[c]? ∧ W'.heap[b]? = W.heap[b]?
theorem Keeps2.refl (c b : Nat) (W : World) : Keeps2 c b W W := ⟨rfl, rfl⟩
theorem Keeps2.trans {c b : Nat} {A B C : World} (h : Keeps2 c b A B) (k : Keeps2 c b B C) : Keeps2 c b A C := ⟨k.1.trans h.1, k.2.trans h.2⟩
theorem Keeps2.put {c b : Nat} {w : World} (hc : c < w.heap.size) (hb : b < w.heap.size) (W : World) (l : Nat) (o o' : Obj) (hl : w.heap.size ≤ l) (_h : W.heap[l]? = some o) (_ : o.isCells = false) (_ : o.isWalk = false) : Keeps2 c b W (W.putObj l o') :=
  ⟨World.putObj_heap_other (by omega), World.putObj_heap_other (by omega)⟩
theorem Keeps2.box {c b : Nat} {W W' : World} (h : Keeps2 c b W W') {v : Value} (hv : W.cell? ⟨c, 0, none⟩ = some v) : W'.cell? ⟨c, 0, none⟩ = some v := (World.cell?_of_block (w := W) (a := ⟨c, 0, none⟩) h.1).trans hv
theorem Keeps2.row {c b j : Nat} {W W' : World} (h : Keeps2 c b W W') {v : Value} (hv : W.cell? ⟨b, j, none⟩ = some v) : W'.cell? ⟨b, j, none⟩ = some v := (World.cell?_of_block (w := W) (a := ⟨b, j, none⟩) h.2).trans hv

/-- What has come when k rounds are over. -/
def came {α : Type} (f : Nat → α) (k : Nat) : List α := (List.range k).map f
theorem came_succ {α : Type} (f : Nat → α) (k : Nat) : came f (k + 1) = came f k ++ [f k] := by simp [came, List.range_succ]
theorem came_length {α : Type} (f : Nat → α) (k : Nat) : (came f k).length = k := by simp [came]
/-- The rounds are told by their numbers: round j hands over the j-th from the end. -/
def rnd {n : Nat} (h : 0 < n) (j : Nat) : Fin n := ⟨j % n, Nat.mod_lt _ h⟩
theorem rnd_val {n : Nat} (h : 0 < n) {j : Nat} (hj : j < n) : (rnd h j).1 = j := Nat.mod_eq_of_lt hj

end Go.Proofs.Ytmhjckbndhcbmaa
