/-
  The contract of spec.l00In.
-/
import Derived.Test.YtnjhkmoinlikiaaDoorBase
import Derived.Test.YtnjhkmoinlikiaaDoorProg
namespace Go.Proofs.YtnjhkmoinlikiaaDoor
open Go Go.RowKit
set_option linter.unusedVariables false

def inB (n lo hi : Int) : Bool := decide (lo ≤ n ∧ n ≤ hi)
theorem inB_true {n lo hi : Int} (h : lo ≤ n ∧ n ≤ hi) : inB n lo hi = true := decide_eq_true h
theorem inB_false {n lo hi : Int} (h : ¬ (lo ≤ n ∧ n ≤ hi)) : inB n lo hi = false := decide_eq_false h

theorem in_any (n lo hi : Int) (w : World) :
    Calls Tryd.prog 21 #[.int .i64 n, .int .i64 lo, .int .i64 hi] w fun e w' => e = .returned (.bool (inB n lo hi)) ∧ w' = w := by
  by_cases h1 : lo ≤ n
  · by_cases h2 : n ≤ hi
    · have hd : decide (n ≤ hi) = true := decide_eq_true h2
      go_enter Tryd.func21, Tryd.ntmps21
      go_wp2
      go_ret
      exact ⟨(ret_bool (inB_true ⟨h1, h2⟩)).symm, rfl⟩
    · have hd : decide (n ≤ hi) = false := decide_eq_false h2
      go_enter Tryd.func21, Tryd.ntmps21
      go_wp2
      go_ret
      exact ⟨(ret_bool (inB_false (by omega))).symm, rfl⟩
  · have hd : decide (lo ≤ n) = false := decide_eq_false h1
    go_enter Tryd.func21, Tryd.ntmps21
    go_wp2
    go_ret
    exact ⟨(ret_bool (inB_false (by omega))).symm, rfl⟩

end Go.Proofs.YtnjhkmoinlikiaaDoor
