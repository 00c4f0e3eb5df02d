/-
  DERIVED. GIVEN WITH THE SEED: THE PROGRAM's TIES (one call each: nine closed facts by the kernel) AND EACH ROW's TIE, after the 31st guide's Derived/Test/Toyas{Tie, Card}.lean. No idea stands in it: it is a product of the set-up. Laid BY PROGRAM, IN A SANDBOX (cutbox-door.mjs). By AI agents, Wed Nov 11 2026. No macro, syntax, notation, axiom, sorry.
-/
import Derived.Test.YtkhemijanhcibaaDoorRows
import Derived.LaidByTextLater
import Derived.SevenTiedAt
import Derived.LaidSub
import Derived.LaidOnce
namespace Go.Proofs.YtkhemijanhcibaaDoor
open Go
set_option maxRecDepth 100000
theorem seatTie1 : Tryd.prog.laidByTextLater [("loop.example/g01366/impl.errBadTable", Rows.laid_loop_example_g01366_impl_errBadTable), ("loop.example/g01366/impl.errOutside", Rows.laid_loop_example_g01366_impl_errOutside), ("loop.example/g01366/impl.errTooMany", Rows.laid_loop_example_g01366_impl_errTooMany), ("loop.example/g01366/impl.errNoStep", Rows.laid_loop_example_g01366_impl_errNoStep)] [.sentinel, .sentinel, .sentinel, .sentinel] true :=
  Program.laidByTextLater_by_one 85 8 2 (by kernel_rfl) (by kernel_rfl) (by kernel_rfl) (by kernel_rfl) (by kernel_rfl) (by kernel_rfl) (fun _ _ => by kernel_rfl)
theorem noOwnUnsafe : Tryd.pinned.checked.prog.headLifts.contains "ownunsafe" = false := by kernel_rfl
theorem tie : Tryd.prog.laidByTextLater [("loop.example/g01366/impl.errBadTable", Rows.laid_loop_example_g01366_impl_errBadTable), ("loop.example/g01366/impl.errOutside", Rows.laid_loop_example_g01366_impl_errOutside), ("loop.example/g01366/impl.errTooMany", Rows.laid_loop_example_g01366_impl_errTooMany), ("loop.example/g01366/impl.errNoStep", Rows.laid_loop_example_g01366_impl_errNoStep)] [.sentinel, .sentinel, .sentinel, .sentinel] true :=
  Program.laidByTextLater.sub seatTie1 ["loop.example/g01366/impl.errBadTable", "loop.example/g01366/impl.errOutside", "loop.example/g01366/impl.errTooMany", "loop.example/g01366/impl.errNoStep"] (by kernel_rfl) (by kernel_rfl)
theorem fnExactStepFor_row_tie : Rows.fnExactStepForRow.laidByTextAt .later Tryd.pinned [.sentinel, .sentinel, .sentinel, .sentinel] true :=
  OpenClaim.laidByTextAt_later rfl rfl tie noOwnUnsafe
theorem fnExactPriceOf_row_tie : Rows.fnExactPriceOfRow.laidByTextAt .later Tryd.pinned [.sentinel, .sentinel, .sentinel, .sentinel] true :=
  OpenClaim.laidByTextAt_later rfl rfl tie noOwnUnsafe
theorem fnExactPricesOf_row_tie : Rows.fnExactPricesOfRow.laidByTextAt .later Tryd.pinned [.sentinel, .sentinel, .sentinel, .sentinel] true :=
  OpenClaim.laidByTextAt_later rfl rfl tie noOwnUnsafe
theorem fnExactJoinedPrice_row_tie : Rows.fnExactJoinedPriceRow.laidByTextAt .later Tryd.pinned [.sentinel, .sentinel, .sentinel, .sentinel] true :=
  OpenClaim.laidByTextAt_later rfl rfl tie noOwnUnsafe
theorem fnExactPriceBound_row_tie : Rows.fnExactPriceBoundRow.laidByTextAt .later Tryd.pinned [.sentinel, .sentinel, .sentinel, .sentinel] true :=
  OpenClaim.laidByTextAt_later rfl rfl tie noOwnUnsafe
theorem tie2 : Tryd.prog.laidByTextLater [("loop.example/g01366/impl.errBadTable", Rows.laid_loop_example_g01366_impl_errBadTable), ("loop.example/g01366/impl.errOutside", Rows.laid_loop_example_g01366_impl_errOutside), ("loop.example/g01366/impl.errTooMany", Rows.laid_loop_example_g01366_impl_errTooMany)] [.sentinel, .sentinel, .sentinel] true :=
  Program.laidByTextLater.sub seatTie1 ["loop.example/g01366/impl.errBadTable", "loop.example/g01366/impl.errOutside", "loop.example/g01366/impl.errTooMany"] (by kernel_rfl) (by kernel_rfl)
theorem fnExactHeaviestFor_row_tie : Rows.fnExactHeaviestForRow.laidByTextAt .later Tryd.pinned [.sentinel, .sentinel, .sentinel] true :=
  OpenClaim.laidByTextAt_later rfl rfl tie2 noOwnUnsafe
theorem fnExactFirstDearer_row_tie : Rows.fnExactFirstDearerRow.laidByTextAt .later Tryd.pinned [.sentinel, .sentinel, .sentinel] true :=
  OpenClaim.laidByTextAt_later rfl rfl tie2 noOwnUnsafe
theorem fnExactCheckParcels_row_tie : Rows.fnExactCheckParcelsRow.laidByTextAt .later Tryd.pinned [.sentinel, .sentinel, .sentinel] true :=
  OpenClaim.laidByTextAt_later rfl rfl tie2 noOwnUnsafe
theorem fnExactStepForUpto_row_tie : Rows.fnExactStepForUptoRow.laidByTextAt .later Tryd.pinned [.sentinel, .sentinel, .sentinel, .sentinel] true :=
  OpenClaim.laidByTextAt_later rfl rfl tie noOwnUnsafe
theorem fnExactPriceOfUpto_row_tie : Rows.fnExactPriceOfUptoRow.laidByTextAt .later Tryd.pinned [.sentinel, .sentinel, .sentinel, .sentinel] true :=
  OpenClaim.laidByTextAt_later rfl rfl tie noOwnUnsafe
theorem fnExactPricesOfUpto_row_tie : Rows.fnExactPricesOfUptoRow.laidByTextAt .later Tryd.pinned [.sentinel, .sentinel, .sentinel, .sentinel] true :=
  OpenClaim.laidByTextAt_later rfl rfl tie noOwnUnsafe
theorem fnExactHeaviestForUpto_row_tie : Rows.fnExactHeaviestForUptoRow.laidByTextAt .later Tryd.pinned [.sentinel, .sentinel, .sentinel] true :=
  OpenClaim.laidByTextAt_later rfl rfl tie2 noOwnUnsafe
theorem fnExactFirstDearerUpto_row_tie : Rows.fnExactFirstDearerUptoRow.laidByTextAt .later Tryd.pinned [.sentinel, .sentinel, .sentinel] true :=
  OpenClaim.laidByTextAt_later rfl rfl tie2 noOwnUnsafe
theorem fnExactJoinedPriceUpto_row_tie : Rows.fnExactJoinedPriceUptoRow.laidByTextAt .later Tryd.pinned [.sentinel, .sentinel, .sentinel, .sentinel] true :=
  OpenClaim.laidByTextAt_later rfl rfl tie noOwnUnsafe
theorem fnExactCheckParcelsUpto_row_tie : Rows.fnExactCheckParcelsUptoRow.laidByTextAt .later Tryd.pinned [.sentinel, .sentinel, .sentinel] true :=
  OpenClaim.laidByTextAt_later rfl rfl tie2 noOwnUnsafe
theorem fnExactPriceBoundUpto_row_tie : Rows.fnExactPriceBoundUptoRow.laidByTextAt .later Tryd.pinned [.sentinel, .sentinel, .sentinel, .sentinel] true :=
  OpenClaim.laidByTextAt_later rfl rfl tie noOwnUnsafe
end Go.Proofs.YtkhemijanhcibaaDoor
