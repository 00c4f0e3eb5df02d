/-
  How much paper a turn needs, on both sides.
-/
import Derived.Test.YtkhemijanhcibabAsc
import Derived.Test.YtkhemijanhcibabFolds
namespace Go.Proofs.Ytkhemijanhcibab
open Go Go.RowKit
set_option linter.unusedVariables false

theorem ret_need {a b a' b' : Int} (h : a = a') (g : b = b') : Ending.returned (.tuple #[.int .i64 a, .int .i64 b]) = .returned (.tuple #[.int .i64 a', .int .i64 b']) := by rw [h, g]

end Go.Proofs.Ytkhemijanhcibab
