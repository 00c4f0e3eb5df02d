/-
  Numbers of a list between two bounds.
-/
import Derived.Test.YtnjhkmoinlikiaaDoorBase
namespace Go.Proofs.YtnjhkmoinlikiaaDoor
open Go Go.RowKit
set_option linter.unusedVariables false

/-- A row's numbers lie between two bounds. -/
def betw (r : List Int) (lo hi : Int) (k : Nat) : Prop := ∀ i, i < k → lo ≤ r.getD i 0 ∧ r.getD i 0 ≤ hi
instance (r : List Int) (lo hi : Int) (k : Nat) : Decidable (betw r lo hi k) := inferInstanceAs (Decidable (∀ i, i < k → _))
def betwB (r : List Int) (lo hi : Int) : Bool := decide (betw r lo hi r.length)
theorem betw.zero (r : List Int) (lo hi : Int) : betw r lo hi 0 := fun i hi => absurd hi (by omega)
theorem betw.succ {r : List Int} {lo hi : Int} {k : Nat} (h : betw r lo hi k) (h1 : lo ≤ r.getD k 0 ∧ r.getD k 0 ≤ hi) : betw r lo hi (k + 1) := fun i hi => by
  by_cases e : i = k
  · subst e; exact h1
  · exact h i (by omega)
theorem betwB_true {r : List Int} {lo hi : Int} (h : betw r lo hi r.length) : betwB r lo hi = true := decide_eq_true h
theorem betwB_bad {r : List Int} {lo hi : Int} {k : Nat} (hk : k < r.length) (h : ¬ (lo ≤ r.getD k 0 ∧ r.getD k 0 ≤ hi)) : betwB r lo hi = false := decide_eq_false fun q => h (q k hk)
theorem betwB_spec {r : List Int} {lo hi : Int} (h : betwB r lo hi = true) : betw r lo hi r.length := of_decide_eq_true h
end Go.Proofs.YtnjhkmoinlikiaaDoor
