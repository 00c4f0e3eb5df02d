/-
  The laws' equality of lists of Box, at equal lists.
-/
import Derived.Test.YtbclmafplaipaaaDoorTrip
namespace Go.Proofs.YtbclmafplaipaaaDoor
open Go Go.RowKit
set_option linter.unusedVariables false
theorem eqBoxS_eq (v u : Value) (xs : List (Int × Int × Int)) (w : World) (hv : ReadsB w v xs) (hu : ReadsB w u xs) (hx : xs.length ≤ 1048576) :
    Calls Tryd.prog 18 #[v, u] w fun e w' => e = .returned (.bool true) ∧ Below w.heap.size w w' := eqBoxS_any v u xs w hv hu hx
end Go.Proofs.YtbclmafplaipaaaDoor
