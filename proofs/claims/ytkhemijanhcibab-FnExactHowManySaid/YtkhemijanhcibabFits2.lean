/-
  Contracts of l02Inside, and of both FitsInside.
-/
import Derived.Test.YtkhemijanhcibabFits
namespace Go.Proofs.Ytkhemijanhcibab
open Go Go.RowKit
set_option linter.unusedVariables false

def fitCode (a b c x y z : Int) : Int := if okB a b c = true ∧ okB x y z = true then 0 else 1
def fitRes (a b c x y z : Int) : Bool := okB a b c && okB x y z && fitB a b c x y z
theorem fit_ok {a b c x y z : Int} (h : okB a b c = true) (g : okB x y z = true) : fitRes a b c x y z = fitB a b c x y z ∧ fitCode a b c x y z = 0 := by
  unfold fitRes fitCode; rw [if_pos ⟨h, g⟩, h, g]; exact ⟨by simp, rfl⟩
theorem fit_no1 {a b c x y z : Int} (h : okB a b c = false) : fitRes a b c x y z = false ∧ fitCode a b c x y z = 1 := by
  unfold fitRes fitCode; rw [if_neg (by rw [h]; simp), h]; exact ⟨by simp, rfl⟩
theorem fit_no2 {a b c x y z : Int} (g : okB x y z = false) : fitRes a b c x y z = false ∧ fitCode a b c x y z = 1 := by
  unfold fitRes fitCode; rw [if_neg (by rw [g]; simp), g]; exact ⟨by simp, rfl⟩
theorem ret_bi {p p' : Bool} {k k' : Int} (h : p' = p ∧ k' = k) : Ending.returned (.tuple #[.bool p, .int .i64 k]) = .returned (.tuple #[.bool p', .int .i64 k']) := by rw [h.1, h.2]

end Go.Proofs.Ytkhemijanhcibab
