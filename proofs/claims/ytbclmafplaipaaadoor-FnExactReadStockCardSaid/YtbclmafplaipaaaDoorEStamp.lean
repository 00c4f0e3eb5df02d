/-
  The laws' equality of lists of Stamp, at equal lists.
-/
import Derived.Test.YtbclmafplaipaaaDoorPairs
namespace Go.Proofs.YtbclmafplaipaaaDoor
open Go Go.RowKit
set_option linter.unusedVariables false
theorem eqStampS_eq (v u : Value) (xs : List (Int × Int)) (w : World) (hv : ReadsP w v xs) (hu : ReadsP w u xs) (hx : xs.length ≤ 1048576) :
    Calls Tryd.prog 13 #[v, u] w fun e w' => e = .returned (.bool true) ∧ Below w.heap.size w w' := by
  have h := eqStampS_any v u xs xs w hv hu hx hx
  have e : eqPs xs xs = true := by
    cases he : eqPs xs xs with
    | true => rfl
    | false => exact absurd he (by simp [eqPs])
  rw [e] at h
  exact h
theorem OwnP.block {T : TypeId} {B : Nat} {w : World} {v : Value} {ps : List (Int × Int)} (h : OwnP T B w v ps) : ∀ k, v.ownBlock = some k → B ≤ k ∧ k < w.heap.size := World.ownsRow.lt h
end Go.Proofs.YtbclmafplaipaaaDoor
