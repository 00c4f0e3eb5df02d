/-
  The least of some numbers of a list.
-/
import Derived.Test.YtkhemijanhcibaaBase
namespace Go.Proofs.Ytkhemijanhcibaa
open Go Go.RowKit
set_option linter.unusedVariables false

/-- The least of c numbers from f on (of the one at f if c is 0). -/
def mn (L : List Int) (f c : Nat) : Int := (List.range c).foldl (fun m i => min m (L.getD (f + i) 0)) (L.getD f 0)
theorem mn_zero (L : List Int) (f : Nat) : mn L f 0 = L.getD f 0 := rfl
theorem mn_succ (L : List Int) (f c : Nat) : mn L f (c + 1) = min (mn L f c) (L.getD (f + c) 0) := by unfold mn; rw [List.range_succ, List.foldl_append]; rfl
theorem mn_one (L : List Int) (f : Nat) : mn L f 1 = L.getD f 0 := by rw [mn_succ, mn_zero, Nat.add_zero]; omega
theorem mn_bound {L : List Int} {f c : Nat} {hi : Int} (h0 : 0 ≤ L.getD f 0 ∧ L.getD f 0 ≤ hi) (h : ∀ i, i < c → 0 ≤ L.getD (f + i) 0) : 0 ≤ mn L f c ∧ mn L f c ≤ hi := by
  induction c with
  | zero => rw [mn_zero]; exact h0
  | succ c ih =>
    have h1 := ih (fun i hi => h i (by omega))
    have h2 := h c (by omega)
    rw [mn_succ]; omega
end Go.Proofs.Ytkhemijanhcibaa
