/-
  The duty of a lot and of a form, on both sides.
-/
import Derived.Test.YtocogipejchneaaCuT
import Derived.Deep.RegionHeld3
import Derived.StillTailTactics
namespace Go.Proofs.Ytocogipejchneaa
open Go Go.RowKit
set_option linter.unusedVariables false

theorem charge_eq (c0 c1 c2 c3 v g how : Int) : chargeR (c0, c1, c2, c3) v g how = mxI (roundR v c0 c1 how + c2 * g) c3 := rfl

end Go.Proofs.Ytocogipejchneaa
