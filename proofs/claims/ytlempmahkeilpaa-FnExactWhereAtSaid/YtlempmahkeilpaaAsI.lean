/-
  The hours of a set, ascending.
-/
import Derived.Test.YtlempmahkeilpaaArM
import Derived.Test.YtlempmahkeilpaaNtL
namespace Go.Proofs.Ytlempmahkeilpaa
open Go Go.RowKit
set_option linter.unusedVariables false

/-- The first k hours for which p holds. -/
def hourTo (p : Nat → Bool) : Nat → List Int
  | 0 => []
  | k + 1 => if p k = true then hourTo p k ++ [(k : Int)] else hourTo p k
theorem hourTo_len (p : Nat → Bool) (k : Nat) : (hourTo p k).length ≤ k := by
  induction k with
  | zero => exact Nat.le_refl _
  | succ k ih =>
    rw [hourTo]; split
    · simp; omega
    · omega
theorem hourTo_yes {p : Nat → Bool} {k : Nat} (h : p k = true) : hourTo p (k + 1) = hourTo p k ++ [(k : Int)] := if_pos h
theorem hourTo_no {p : Nat → Bool} {k : Nat} (h : p k = false) : hourTo p (k + 1) = hourTo p k := if_neg (by rw [h]; simp)
theorem hourTo_congr {p q : Nat → Bool} {k : Nat} (h : ∀ i, i < k → p i = q i) : hourTo p k = hourTo q k := by
  induction k with
  | zero => rfl
  | succ k ih => rw [hourTo, hourTo, ih (fun i hi => h i (by omega)), h k (by omega)]

end Go.Proofs.Ytlempmahkeilpaa
