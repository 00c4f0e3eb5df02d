/-
  Bags that are mixed up: plain functions.
-/
import Derived.Test.YtocogipejchneaaDoorMatI
namespace Go.Proofs.YtocogipejchneaaDoor
open Go Go.RowKit
set_option linter.unusedVariables false

/-- Cell c of row r. -/
def atR (R : List (List Int)) (r c : Nat) : Int := (R.getD r []).getD c 0
def rowOk (n : Nat) (xs : List Int) : Prop := xs.length ≤ 6 ∧ ∀ c, c < xs.length → 0 ≤ xs.getD c 0 ∧ xs.getD c 0 ≤ (n : Int) - 1
instance (n : Nat) (xs : List Int) : Decidable (rowOk n xs) := inferInstanceAs (Decidable (_ ∧ _))
def RowsOk (R : List (List Int)) (k : Nat) : Prop := ∀ r, r < k → rowOk R.length (R.getD r [])
instance (R : List (List Int)) (k : Nat) : Decidable (RowsOk R k) := inferInstanceAs (Decidable (∀ r, r < k → _))
theorem RowsOk.zero (R : List (List Int)) : RowsOk R 0 := fun r h => absurd h (by omega)
theorem RowsOk.succ {R : List (List Int)} {k : Nat} (h : RowsOk R k) (h1 : rowOk R.length (R.getD k [])) : RowsOk R (k + 1) := fun r hr => by
  by_cases e : r = k
  · subst e; exact h1
  · exact h r (by omega)
def vldM (R : List (List Int)) : Bool := decide (1 ≤ R.length ∧ R.length ≤ 4 ∧ RowsOk R R.length)
theorem vldM_true {R : List (List Int)} (h1 : 1 ≤ R.length) (h2 : R.length ≤ 4) (h : RowsOk R R.length) : vldM R = true := decide_eq_true ⟨h1, h2, h⟩
theorem vldM_spec {R : List (List Int)} (h : vldM R = true) : 1 ≤ R.length ∧ R.length ≤ 4 ∧ RowsOk R R.length := of_decide_eq_true h
theorem vldM_len {R : List (List Int)} (h : ¬ (1 ≤ R.length ∧ R.length ≤ 4)) : vldM R = false := decide_eq_false fun q => h ⟨q.1, q.2.1⟩
theorem vldM_bad {R : List (List Int)} {k : Nat} (hk : k < R.length) (h : ¬ rowOk R.length (R.getD k [])) : vldM R = false := decide_eq_false fun q => h (q.2.2 k hk)
/-- All numbers of a list lie from a to b. -/
def betwTo (xs : List Int) (a b : Int) (k : Nat) : Prop := ∀ c, c < k → a ≤ xs.getD c 0 ∧ xs.getD c 0 ≤ b
instance (xs : List Int) (a b : Int) (k : Nat) : Decidable (betwTo xs a b k) := inferInstanceAs (Decidable (∀ c, c < k → _))
def betwM (xs : List Int) (a b : Int) : Bool := decide (betwTo xs a b xs.length)
theorem betwTo.zero (xs : List Int) (a b : Int) : betwTo xs a b 0 := fun r h => absurd h (by omega)
theorem betwTo.succ {xs : List Int} {a b : Int} {k : Nat} (h : betwTo xs a b k) (h1 : a ≤ xs.getD k 0 ∧ xs.getD k 0 ≤ b) : betwTo xs a b (k + 1) := fun r hr => by
  by_cases e : r = k
  · subst e; exact h1
  · exact h r (by omega)
theorem betwM_true {xs : List Int} {a b : Int} (h : betwTo xs a b xs.length) : betwM xs a b = true := decide_eq_true h
theorem betwM_bad {xs : List Int} {a b : Int} {k : Nat} (hk : k < xs.length) (h : ¬ (a ≤ xs.getD k 0 ∧ xs.getD k 0 ≤ b)) : betwM xs a b = false := decide_eq_false fun q => h (q k hk)
theorem betwM_spec {xs : List Int} {a b : Int} (h : betwM xs a b = true) : betwTo xs a b xs.length := of_decide_eq_true h
theorem betwM_not {xs : List Int} {a b : Int} (h : betwM xs a b = false) : ¬ betwTo xs a b xs.length := of_decide_eq_false h

/-- The wrong ones among the first c of a row that belongs to r. -/
def wrongC (xs : List Int) (r : Int) : Nat → Int
  | 0 => 0
  | c + 1 => wrongC xs r c + (if xs.getD c 0 ≠ r then 1 else 0)
def wrongK (R : List (List Int)) : Nat → Int
  | 0 => 0
  | k + 1 => wrongK R k + wrongC (R.getD k []) (k : Int) (R.getD k []).length
theorem wrongC_bd (xs : List Int) (r : Int) (c : Nat) : 0 ≤ wrongC xs r c ∧ wrongC xs r c ≤ c := by
  induction c with
  | zero => simp [wrongC]
  | succ c ih => rw [wrongC]; split <;> omega
theorem wrongK_bd {R : List (List Int)} {k : Nat} (h : RowsOk R k) : 0 ≤ wrongK R k ∧ wrongK R k ≤ 6 * k := by
  induction k with
  | zero => simp [wrongK]
  | succ k ih =>
    have h1 := ih (fun r hr => h r (by omega))
    have h2 := (h k (by omega)).1
    have h3 := wrongC_bd (R.getD k []) (k : Int) (R.getD k []).length
    rw [wrongK]; omega
def wrongM (R : List (List Int)) : Int := wrongK R R.length
/-- Whether one of the first c of a row is wrong. -/
def anyW (xs : List Int) (r : Int) : Nat → Bool
  | 0 => false
  | c + 1 => if xs.getD c 0 ≠ r then true else anyW xs r c
def boundC (xs : List Int) (r : Int) : Nat → Int
  | 0 => 0
  | c + 1 => boundC xs r c + (if xs.getD c 0 ≠ r then 1 else if anyW xs r c then 2 else 0)
def boundK (R : List (List Int)) : Nat → Int
  | 0 => 0
  | k + 1 => boundK R k + boundC (R.getD k []) (k : Int) (R.getD k []).length
theorem boundC_bd (xs : List Int) (r : Int) (c : Nat) : 0 ≤ boundC xs r c ∧ boundC xs r c ≤ 2 * c := by
  induction c with
  | zero => simp [boundC]
  | succ c ih =>
    rw [boundC]
    split
    · omega
    · split <;> omega
theorem boundK_bd {R : List (List Int)} {k : Nat} (h : RowsOk R k) : 0 ≤ boundK R k ∧ boundK R k ≤ 12 * k := by
  induction k with
  | zero => simp [boundK]
  | succ k ih =>
    have h1 := ih (fun r hr => h r (by omega))
    have h2 := (h k (by omega)).1
    have h3 := boundC_bd (R.getD k []) (k : Int) (R.getD k []).length
    rw [boundK]; omega
def boundM (R : List (List Int)) : Int := boundK R R.length
/-! ### answers -/
def codeM (R : List (List Int)) : Int := if vldM R then 0 else 1
def wrongR (R : List (List Int)) : Int := if vldM R then wrongM R else 0
def boundR (R : List (List Int)) : Int := if vldM R then boundM R else 0
def sortedR (R : List (List Int)) : Bool := vldM R && decide (wrongM R = 0)
end Go.Proofs.YtocogipejchneaaDoor
