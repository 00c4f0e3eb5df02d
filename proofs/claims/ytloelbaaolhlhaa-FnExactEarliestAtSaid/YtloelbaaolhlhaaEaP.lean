/-
  The least hour for which something holds, looked for from above (plain, for the model's EarliestAt).
-/
import Derived.Test.YtloelbaaolhlhaaFsI
import Derived.Test.YtloelbaaolhlhaaAvS
namespace Go.Proofs.Ytloelbaaolhlhaa
open Go Go.RowKit
set_option linter.unusedVariables false

/-- The n hours from k on for which p holds. -/
def hourFrom (p : Nat → Bool) : Nat → Nat → List Int
  | _, 0 => []
  | k, n + 1 => if p k = true then (k : Int) :: hourFrom p (k + 1) n else hourFrom p (k + 1) n
theorem hourTo_from (p : Nat → Bool) (n k : Nat) : hourTo p (k + n) = hourTo p k ++ hourFrom p k n := by
  induction n generalizing k with
  | zero => simp [hourFrom]
  | succ n ih =>
    rw [show k + (n + 1) = (k + 1) + n by omega, ih (k + 1), hourTo, hourFrom]
    split
    · simp
    · rfl
/-- The least of the last j hours up to 300, or -1. -/
def bst (p : Nat → Bool) : Nat → Int
  | 0 => -1
  | j + 1 => if p (300 - j) = true then ((300 - j : Nat) : Int) else bst p j
theorem bst_is (p : Nat → Bool) (j : Nat) (hj : j ≤ 301) : bst p j = (hourFrom p (301 - j) j).headD (-1) := by
  induction j with
  | zero => rfl
  | succ j ih =>
    rw [bst, show 301 - (j + 1) = 300 - j by omega, hourFrom]
    split
    · rfl
    · rw [ih (by omega), show 300 - j + 1 = 301 - j by omega]
theorem bst_frst (p : Nat → Bool) : bst p 301 = frst p := by
  rw [bst_is p 301 (Nat.le_refl _), frst]
  have h := hourTo_from p 301 0
  rw [Nat.zero_add] at h
  rw [h]
  rfl
theorem bst_yes {p : Nat → Bool} {j : Nat} (h : p (300 - j) = true) : bst p (j + 1) = ((300 - j : Nat) : Int) := if_pos h
theorem bst_no {p : Nat → Bool} {j : Nat} (h : p (300 - j) = false) : bst p (j + 1) = bst p j := if_neg (by rw [h]; simp)

def eaC (st sy : Int) (ps : List Lan) (x0 x1 : Int) : Int := askC st sy ps (scB st x0 x1)
/-- It can be there then. -/
noncomputable def eaP (sy : Int) (ps : List Lan) (x0 x1 : Int) (s h : Nat) : Bool := arrB ps (-1) sy x0 x1 (s : Int) (h : Int) || decide ((h : Int) = x1 ∧ (s : Int) = x0)
noncomputable def eaR (st sy : Int) (ps : List Lan) (x0 x1 : Int) : List Int := if eaC st sy ps x0 x1 = 0 then (List.range st.toNat).map (fun s => frst (eaP sy ps x0 x1 s)) else []
end Go.Proofs.Ytloelbaaolhlhaa
