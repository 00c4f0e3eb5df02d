/-
  Which piles are right (plain).
-/
import Derived.Test.YtgdekplkadnmpaaBxV
import Derived.Test.YtgdekplkadnmpaaFits
import Derived.Test.YtgdekplkadnmpaaBetw
namespace Go.Proofs.Ytgdekplkadnmpaa
open Go Go.RowKit
set_option linter.unusedVariables false

def insB (p q : Tri) : Bool := fitB p.1 p.2.1 p.2.2 q.1 q.2.1 q.2.2
def tAt (ps : List Tri) (i : Nat) : Tri := ps.getD i (0, 0, 0)
/-- One of both fits inside the other one. -/
def nstB (ps : List Tri) (i j : Nat) : Bool := insB (tAt ps i) (tAt ps j) || insB (tAt ps j) (tAt ps i)
/-- Box i does not disturb box k. -/
def getsOn (ps : List Tri) (qs : List Int) (k i : Nat) : Prop := qs.getD i 0 = qs.getD k 0 → nstB ps i k = true
instance (ps : List Tri) (qs : List Int) (k i : Nat) : Decidable (getsOn ps qs k i) := inferInstanceAs (Decidable (_ → _))
def getTo (ps : List Tri) (qs : List Int) (k m : Nat) : Prop := ∀ i, i < m → getsOn ps qs k i
instance (ps : List Tri) (qs : List Int) (k m : Nat) : Decidable (getTo ps qs k m) := inferInstanceAs (Decidable (∀ i, i < m → _))
theorem getTo.zero (ps : List Tri) (qs : List Int) (k : Nat) : getTo ps qs k 0 := fun i hi => by omega
theorem getTo.succ {ps : List Tri} {qs : List Int} {k m : Nat} (h : getTo ps qs k m) (h1 : getsOn ps qs k m) : getTo ps qs k (m + 1) := fun i hi => by
  by_cases e : i = m
  · subst e; exact h1
  · exact h i (by omega)
def pldB (ps : List Tri) (qs : List Int) (k : Nat) : Bool := decide (getTo ps qs k k)
theorem pldB_true {ps : List Tri} {qs : List Int} {k : Nat} (h : getTo ps qs k k) : pldB ps qs k = true := decide_eq_true h
theorem pldB_bad {ps : List Tri} {qs : List Int} {k i : Nat} (hi : i < k) (h : ¬ getsOn ps qs k i) : pldB ps qs k = false := decide_eq_false fun g => h (g i hi)
/-- Box k is in order behind those before it. -/
def rowOn (ps : List Tri) (qs : List Int) (k : Nat) : Prop := (0 ≤ qs.getD k 0 ∧ qs.getD k 0 ≤ 9) ∧ pldB ps qs k = true
instance (ps : List Tri) (qs : List Int) (k : Nat) : Decidable (rowOn ps qs k) := inferInstanceAs (Decidable (_ ∧ _))
def rowTo (ps : List Tri) (qs : List Int) (m : Nat) : Prop := ∀ k, k < m → rowOn ps qs k
instance (ps : List Tri) (qs : List Int) (m : Nat) : Decidable (rowTo ps qs m) := inferInstanceAs (Decidable (∀ k, k < m → _))
theorem rowTo.zero (ps : List Tri) (qs : List Int) : rowTo ps qs 0 := fun i hi => by omega
theorem rowTo.succ {ps : List Tri} {qs : List Int} {m : Nat} (h : rowTo ps qs m) (h1 : rowOn ps qs m) : rowTo ps qs (m + 1) := fun i hi => by
  by_cases e : i = m
  · subst e; exact h1
  · exact h i (by omega)
def cpB (ps : List Tri) (qs : List Int) : Bool := decide (vldX ps = true ∧ qs.length = ps.length ∧ rowTo ps qs qs.length)
def cpC (ps : List Tri) : Int := if vldX ps = true then 0 else 1
theorem cpB_inv {ps : List Tri} {qs : List Int} (h : vldX ps = false) : cpB ps qs = false := decide_eq_false fun g => by rw [h] at g; exact absurd g.1 (by simp)
theorem cpB_len {ps : List Tri} {qs : List Int} (h : qs.length ≠ ps.length) : cpB ps qs = false := decide_eq_false fun g => h g.2.1
theorem cpB_bad {ps : List Tri} {qs : List Int} {k : Nat} (hk : k < qs.length) (h : ¬ rowOn ps qs k) : cpB ps qs = false := decide_eq_false fun g => h (g.2.2 k hk)
theorem cpB_all {ps : List Tri} {qs : List Int} (h1 : vldX ps = true) (h2 : qs.length = ps.length) (h : rowTo ps qs qs.length) : cpB ps qs = true := decide_eq_true ⟨h1, h2, h⟩
theorem ret_bcP {r r' : Bool} {c c' : Int} (h : r = r') (g : c = c') : Ending.returned (.tuple #[.bool r, .int .i64 c]) = .returned (.tuple #[.bool r', .int .i64 c']) := by rw [h, g]
end Go.Proofs.Ytgdekplkadnmpaa
