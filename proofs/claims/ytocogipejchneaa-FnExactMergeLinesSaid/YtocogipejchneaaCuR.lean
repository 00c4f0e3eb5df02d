/-
  Shares, rounded: the program's ways of rounding behind an interface, and the model's.
-/
import Derived.Test.YtocogipejchneaaCuP
import Derived.Test.YtocogipejchneaaWi
import Derived.Test.YtocogipejchneaaIn
import Derived.BigRegion
import Derived.Laws.ResultCell
import Derived.Outline
import Derived.Deep.RegionHeld3
namespace Go.Proofs.Ytocogipejchneaa
open Go Go.RowKit
set_option linter.unusedVariables false

theorem ret2 {a b a' b' : Value} (h : a' = a ∧ b' = b) : Ending.returned (.tuple #[a, b]) = .returned (.tuple #[a', b']) := by rw [h.1, h.2]

end Go.Proofs.Ytocogipejchneaa
