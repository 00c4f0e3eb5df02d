/-
  Widths of rolls, and the least cut of a box.
-/
import Derived.Test.YtpefkdhmkamdaaaCut2
import Derived.Test.YtpefkdhmkamdaaaIn
namespace Go.Proofs.Ytpefkdhmkamdaaa
open Go Go.RowKit
set_option linter.unusedVariables false

theorem iroll_any (n : Int) (w : World) : Calls Try.prog 22 #[.int .i64 n] w fun e w' => e = .returned (.bool (inB n 1 400)) ∧ w' = w := by
  by_cases h1 : 1 ≤ n
  · by_cases h2 : n ≤ 400
    · have hd : decide (n ≤ 400) = true := decide_eq_true h2
      go_enter Try.func22, Try.ntmps22
      go_wp2
      go_ret
      exact ⟨(ret_bool (inB_true ⟨h1, h2⟩)).symm, rfl⟩
    · have hd : decide (n ≤ 400) = false := decide_eq_false h2
      go_enter Try.func22, Try.ntmps22
      go_wp2
      go_ret
      exact ⟨(ret_bool (inB_false (by omega))).symm, rfl⟩
  · have hd : decide (1 ≤ n) = false := decide_eq_false h1
    go_enter Try.func22, Try.ntmps22
    go_wp2
    go_ret
    exact ⟨(ret_bool (inB_false (by omega))).symm, rfl⟩

def cutB (a b c wide : Int) : Int := cutOf wide (turnsL (lo3 a b c) (mi3 a b c) (hi3 a b c))
end Go.Proofs.Ytpefkdhmkamdaaa
