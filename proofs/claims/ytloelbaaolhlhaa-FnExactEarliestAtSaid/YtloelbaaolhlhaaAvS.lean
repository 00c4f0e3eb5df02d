/-
  The model's ArrivalsAt.
-/
import Derived.Test.YtloelbaaolhlhaaCgS
import Derived.Test.YtloelbaaolhlhaaAsI
namespace Go.Proofs.Ytloelbaaolhlhaa
open Go Go.RowKit
set_option linter.unusedVariables false

def aaC (st sy : Int) (ps : List Lan) (x0 x1 y : Int) : Int := askC st sy ps (scB st x0 x1 && inB y 0 (st - 1))
noncomputable def aaR (st sy : Int) (ps : List Lan) (x0 x1 y : Int) : List Int := if aaC st sy ps x0 x1 y = 0 then hourTo (fun h => arrB ps (-1) sy x0 x1 y (h : Int)) 301 else []
theorem aaR_len (st sy : Int) (ps : List Lan) (x0 x1 y : Int) : (aaR st sy ps x0 x1 y).length ≤ 1048575 := by
  unfold aaR
  split
  · have := hourTo_len (fun h => arrB ps (-1) sy x0 x1 y (h : Int)) 301
    omega
  · simp
theorem own_ne {w : World} {B n k Bt : Nat} {T T' : TypeId} {v : Value} {xs : List Value} {cs : Array Value} (h : w.ownsRow B T n v k xs) (hb : BlkA w Bt T' cs) (hT : T ≠ T') : some Bt ≠ v.ownBlock := by
  rcases h.2 with ⟨rfl, _⟩ | ⟨g, cap, cur, rfl, hB, hg, rest⟩
  · intro e; cases e
  · intro e
    have e2 : Bt = g := by simpa [Value.ownBlock] using e
    subst e2
    have h1 : w.heap[Bt]? = some (.cells cs T' (0, 0)) := hb
    rw [h1] at hg
    simp only [Option.some.injEq, Obj.cells.injEq] at hg
    exact hT hg.2.1.symm
theorem stat_nat {st y : Int} (hst : st ≤ 8) (h : inB y 0 (st - 1) = true) : ∃ s : Nat, y = (s : Int) ∧ s < 8 := by
  have h1 : 0 ≤ y ∧ y ≤ st - 1 := by simpa [inB] using h
  exact ⟨y.toNat, by omega, by omega⟩

end Go.Proofs.Ytloelbaaolhlhaa
