/-
  Contracts of the laws' own helpers over []int64 that mark a row and look whether it is still marked.
-/
import Derived.Test.YtgdekplkadnmpaaToJ
namespace Go.Proofs.Ytgdekplkadnmpaa
open Go Go.RowKit
set_option linter.unusedVariables false

/-- k, k + 1, .. : n numbers. -/
def iota (k : Int) (n : Nat) : List Int := (List.range n).map fun (i : Nat) => k + (i : Int)
theorem iota_length (k : Int) (n : Nat) : (iota k n).length = n := by simp [iota]
theorem iota_get (k : Int) (n i : Nat) (h : i < n) : (iota k n).getD i 0 = k + i := by simp [iota, List.getD, h]
/-- What a row holds when its first j numbers have been marked. -/
def marked (k : Int) (xs : List Int) (j : Nat) : List Int := iota k j ++ xs.drop j
theorem marked_length (k : Int) (xs : List Int) (j : Nat) (h : j ≤ xs.length) : (marked k xs j).length = xs.length := by simp [marked, iota_length]; omega
theorem marked_zero (k : Int) (xs : List Int) : marked k xs 0 = xs := by simp [marked, iota]
theorem marked_all (k : Int) (xs : List Int) : marked k xs xs.length = iota k xs.length := by simp [marked]
theorem marked_set (k : Int) (xs : List Int) (j : Nat) (h : j < xs.length) : (marked k xs j).set j (k + j) = marked k xs (j + 1) := by
  unfold marked
  rw [List.set_append_right _ _ (by simp [iota_length]), iota_length, Nat.sub_self, List.drop_eq_getElem_cons h, List.set_cons_zero]
  simp [iota, List.range_succ]

end Go.Proofs.Ytgdekplkadnmpaa
