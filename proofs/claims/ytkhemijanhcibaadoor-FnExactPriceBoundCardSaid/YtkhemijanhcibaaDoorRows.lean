/-
  NARROWER THAN 'FOR EVERY INPUT', by the rows' own cells (each row's printed sentence says how): FnExactStepFor: ifaces, laid · FnExactPriceOf: ifaces, laid · FnExactPricesOf: ifaces, laid · FnExactHeaviestFor: ifaces, laid · FnExactFirstDearer: ifaces, laid · FnExactJoinedPrice: ifaces, laid · FnExactCheckParcels: ifaces, laid · FnExactPriceBound: ifaces, laid.
  DERIVED. THE GIVEN ROWS OF THIS SEAT. 8 by the template 'for every input the law returns true; each argument reads behind the call as it read before'; 0 by the template 'total and deterministic' (their statements: YtkhemijanhcibaaDoorTotals.lean).
  GIVEN WITH THE SEED: the statements are not yours to turn. If you find one false, say at which input.
  Laid BY PROGRAM, IN A SANDBOX (cutbox-rows.mjs): the forced cells as the released guide's own fill.sh prints them over the translation 2337096c5c2f22c2… (all of the seat's roots in one cut). By AI agents, Wed Nov 11 2026. No macro, syntax, notation, axiom, sorry.
-/
import Derived.Test.YtkhemijanhcibaaDoorChecked
import GoSem.Claim
import GoSem.ClaimJoined
import GoSem.ClaimMapViews
import Derived.JoinedTies
import Derived.KernelRfl
namespace Go.Proofs.YtkhemijanhcibaaDoor
/- THE CELL 'sum', in the pinned program and in every row, IS THE sha256 OF THE DUMP (.gsa) THAT YtkhemijanhcibaaDoorProg.lean LOADS. Nothing in Lean hashes anything: it is a label: what it is worth is what the hold of that sum in a sandbox is worth. -/
noncomputable def Tryd.pinned : Pinned := { name := "ytkhemijanhcibaadoor", sum := "2337096c5c2f22c26650d2d844cbe5babd91f446f70df408d8e7c07db828b17b", checked := Tryd.checked }
namespace Rows
def none {H : Type} : Left H := { results := [], args := [] }

/- WHAT THE LISTED PACKAGE-LEVEL VARIABLES READ AS WHEN THE CALL BEGINS. Each datum BY PROGRAM (the guide's laid-datum.mjs) off the statement by which the dump's own 'gosem.cut.vars' lays the variable. In a bare row this is a premise. The card (YtkhemijanhcibaaDoorCards.lean) ties it to the program's text. -/
def laid_loop_example_g01366_impl_errBadTable {H : Type} : DataW H := .iface "*errors.errorString" (.ptr (.agg [.lit (.string [97, 32, 116, 97, 98, 108, 101, 32, 105, 115, 32, 110, 111, 116, 32, 118, 97, 108, 105, 100])]))
def laid_loop_example_g01366_impl_errOutside {H : Type} : DataW H := .iface "*errors.errorString" (.ptr (.agg [.lit (.string [97, 32, 110, 117, 109, 98, 101, 114, 32, 105, 115, 32, 111, 117, 116, 32, 111, 102, 32, 105, 116, 115, 32, 114, 97, 110, 103, 101])]))
def laid_loop_example_g01366_impl_errTooMany {H : Type} : DataW H := .iface "*errors.errorString" (.ptr (.agg [.lit (.string [97, 32, 108, 105, 115, 116, 32, 105, 115, 32, 116, 111, 111, 32, 108, 111, 110, 103])]))
def laid_loop_example_g01366_impl_errNoStep {H : Type} : DataW H := .iface "*errors.errorString" (.ptr (.agg [.lit (.string [97, 32, 116, 97, 98, 108, 101, 32, 104, 97, 115, 32, 110, 111, 32, 115, 116, 101, 112, 32, 102, 111, 114, 32, 97, 32, 119, 101, 105, 103, 104, 116])]))

/-- 'laws.FnExactStepFor': WHATEVER THE INPUT: true; the input reads as it did. -/
def fnExactStepForSpec : ChangeSpec := { name := "fnExactStepFor", vars := ["loop.example/g01366/impl.errBadTable", "loop.example/g01366/impl.errOutside", "loop.example/g01366/impl.errTooMany", "loop.example/g01366/impl.errNoStep"], fn := fun _ => fun
  | [d1, d2, g1, g2, g3, g4] => { results := [.lit (.bool true)], args := [d1, d2], vars := [g1, g2, g3, g4] }
  | _ => none }
def fnExactStepForRow : OpenClaim := { program := "ytkhemijanhcibaadoor", sum := "2337096c5c2f22c26650d2d844cbe5babd91f446f70df408d8e7c07db828b17b", func := "loop.example/g01366/laws.FnExactStepFor", spec := "fnExactStepFor", inPlace := ["internal/reflectlite.TypeOf"], unfollowed := true, recurses := true, named := ["loop.example/g01366/impl.errBadTable", "loop.example/g01366/impl.errOutside", "loop.example/g01366/impl.errTooMany", "loop.example/g01366/impl.errNoStep"], ifaces := true, apart := false, laid := [("loop.example/g01366/impl.errBadTable", laid_loop_example_g01366_impl_errBadTable), ("loop.example/g01366/impl.errOutside", laid_loop_example_g01366_impl_errOutside), ("loop.example/g01366/impl.errTooMany", laid_loop_example_g01366_impl_errTooMany), ("loop.example/g01366/impl.errNoStep", laid_loop_example_g01366_impl_errNoStep)] }
def FnExactStepForSaid : Prop := fnExactStepForRow.holds Tryd.pinned (OpenSpec.ofChange fnExactStepForSpec)

/-- ITS FALSE NEIGHBOUR: 'it returns false'. Refute it at one input. -/
def fnExactStepForWrong : ChangeSpec := { name := "fnExactStepFor", vars := ["loop.example/g01366/impl.errBadTable", "loop.example/g01366/impl.errOutside", "loop.example/g01366/impl.errTooMany", "loop.example/g01366/impl.errNoStep"], fn := fun _ => fun
  | [d1, d2, g1, g2, g3, g4] => { results := [.lit (.bool false)], args := [d1, d2], vars := [g1, g2, g3, g4] }
  | _ => none }
def FnExactStepForWrongFalsely : Prop := fnExactStepForRow.holds Tryd.pinned (OpenSpec.ofChange fnExactStepForWrong)

/-- 'laws.FnExactPriceOf': WHATEVER THE INPUT: true; the input reads as it did. -/
def fnExactPriceOfSpec : ChangeSpec := { name := "fnExactPriceOf", vars := ["loop.example/g01366/impl.errBadTable", "loop.example/g01366/impl.errOutside", "loop.example/g01366/impl.errTooMany", "loop.example/g01366/impl.errNoStep"], fn := fun _ => fun
  | [d1, d2, d3, g1, g2, g3, g4] => { results := [.lit (.bool true)], args := [d1, d2, d3], vars := [g1, g2, g3, g4] }
  | _ => none }
def fnExactPriceOfRow : OpenClaim := { program := "ytkhemijanhcibaadoor", sum := "2337096c5c2f22c26650d2d844cbe5babd91f446f70df408d8e7c07db828b17b", func := "loop.example/g01366/laws.FnExactPriceOf", spec := "fnExactPriceOf", inPlace := ["internal/reflectlite.TypeOf"], unfollowed := true, recurses := true, named := ["loop.example/g01366/impl.errBadTable", "loop.example/g01366/impl.errOutside", "loop.example/g01366/impl.errTooMany", "loop.example/g01366/impl.errNoStep"], ifaces := true, apart := false, laid := [("loop.example/g01366/impl.errBadTable", laid_loop_example_g01366_impl_errBadTable), ("loop.example/g01366/impl.errOutside", laid_loop_example_g01366_impl_errOutside), ("loop.example/g01366/impl.errTooMany", laid_loop_example_g01366_impl_errTooMany), ("loop.example/g01366/impl.errNoStep", laid_loop_example_g01366_impl_errNoStep)] }
def FnExactPriceOfSaid : Prop := fnExactPriceOfRow.holds Tryd.pinned (OpenSpec.ofChange fnExactPriceOfSpec)

/-- ITS FALSE NEIGHBOUR: 'it returns false'. Refute it at one input. -/
def fnExactPriceOfWrong : ChangeSpec := { name := "fnExactPriceOf", vars := ["loop.example/g01366/impl.errBadTable", "loop.example/g01366/impl.errOutside", "loop.example/g01366/impl.errTooMany", "loop.example/g01366/impl.errNoStep"], fn := fun _ => fun
  | [d1, d2, d3, g1, g2, g3, g4] => { results := [.lit (.bool false)], args := [d1, d2, d3], vars := [g1, g2, g3, g4] }
  | _ => none }
def FnExactPriceOfWrongFalsely : Prop := fnExactPriceOfRow.holds Tryd.pinned (OpenSpec.ofChange fnExactPriceOfWrong)

/-- 'laws.FnExactPricesOf': WHATEVER THE INPUT: true; the input reads as it did. -/
def fnExactPricesOfSpec : ChangeSpec := { name := "fnExactPricesOf", vars := ["loop.example/g01366/impl.errBadTable", "loop.example/g01366/impl.errOutside", "loop.example/g01366/impl.errTooMany", "loop.example/g01366/impl.errNoStep"], fn := fun _ => fun
  | [d1, d2, d3, g1, g2, g3, g4] => { results := [.lit (.bool true)], args := [d1, d2, d3], vars := [g1, g2, g3, g4] }
  | _ => none }
def fnExactPricesOfRow : OpenClaim := { program := "ytkhemijanhcibaadoor", sum := "2337096c5c2f22c26650d2d844cbe5babd91f446f70df408d8e7c07db828b17b", func := "loop.example/g01366/laws.FnExactPricesOf", spec := "fnExactPricesOf", inPlace := ["internal/reflectlite.TypeOf"], unfollowed := true, recurses := true, named := ["loop.example/g01366/impl.errBadTable", "loop.example/g01366/impl.errOutside", "loop.example/g01366/impl.errTooMany", "loop.example/g01366/impl.errNoStep"], ifaces := true, apart := false, laid := [("loop.example/g01366/impl.errBadTable", laid_loop_example_g01366_impl_errBadTable), ("loop.example/g01366/impl.errOutside", laid_loop_example_g01366_impl_errOutside), ("loop.example/g01366/impl.errTooMany", laid_loop_example_g01366_impl_errTooMany), ("loop.example/g01366/impl.errNoStep", laid_loop_example_g01366_impl_errNoStep)] }
def FnExactPricesOfSaid : Prop := fnExactPricesOfRow.holds Tryd.pinned (OpenSpec.ofChange fnExactPricesOfSpec)

/-- ITS FALSE NEIGHBOUR: 'it returns false'. Refute it at one input. -/
def fnExactPricesOfWrong : ChangeSpec := { name := "fnExactPricesOf", vars := ["loop.example/g01366/impl.errBadTable", "loop.example/g01366/impl.errOutside", "loop.example/g01366/impl.errTooMany", "loop.example/g01366/impl.errNoStep"], fn := fun _ => fun
  | [d1, d2, d3, g1, g2, g3, g4] => { results := [.lit (.bool false)], args := [d1, d2, d3], vars := [g1, g2, g3, g4] }
  | _ => none }
def FnExactPricesOfWrongFalsely : Prop := fnExactPricesOfRow.holds Tryd.pinned (OpenSpec.ofChange fnExactPricesOfWrong)

/-- 'laws.FnExactHeaviestFor': WHATEVER THE INPUT: true; the input reads as it did. -/
def fnExactHeaviestForSpec : ChangeSpec := { name := "fnExactHeaviestFor", vars := ["loop.example/g01366/impl.errBadTable", "loop.example/g01366/impl.errOutside", "loop.example/g01366/impl.errTooMany"], fn := fun _ => fun
  | [d1, d2, d3, g1, g2, g3] => { results := [.lit (.bool true)], args := [d1, d2, d3], vars := [g1, g2, g3] }
  | _ => none }
def fnExactHeaviestForRow : OpenClaim := { program := "ytkhemijanhcibaadoor", sum := "2337096c5c2f22c26650d2d844cbe5babd91f446f70df408d8e7c07db828b17b", func := "loop.example/g01366/laws.FnExactHeaviestFor", spec := "fnExactHeaviestFor", inPlace := ["internal/reflectlite.TypeOf"], unfollowed := true, recurses := true, named := ["loop.example/g01366/impl.errBadTable", "loop.example/g01366/impl.errOutside", "loop.example/g01366/impl.errTooMany"], ifaces := true, apart := false, laid := [("loop.example/g01366/impl.errBadTable", laid_loop_example_g01366_impl_errBadTable), ("loop.example/g01366/impl.errOutside", laid_loop_example_g01366_impl_errOutside), ("loop.example/g01366/impl.errTooMany", laid_loop_example_g01366_impl_errTooMany)] }
def FnExactHeaviestForSaid : Prop := fnExactHeaviestForRow.holds Tryd.pinned (OpenSpec.ofChange fnExactHeaviestForSpec)

/-- ITS FALSE NEIGHBOUR: 'it returns false'. Refute it at one input. -/
def fnExactHeaviestForWrong : ChangeSpec := { name := "fnExactHeaviestFor", vars := ["loop.example/g01366/impl.errBadTable", "loop.example/g01366/impl.errOutside", "loop.example/g01366/impl.errTooMany"], fn := fun _ => fun
  | [d1, d2, d3, g1, g2, g3] => { results := [.lit (.bool false)], args := [d1, d2, d3], vars := [g1, g2, g3] }
  | _ => none }
def FnExactHeaviestForWrongFalsely : Prop := fnExactHeaviestForRow.holds Tryd.pinned (OpenSpec.ofChange fnExactHeaviestForWrong)

/-- 'laws.FnExactFirstDearer': WHATEVER THE INPUT: true; the input reads as it did. -/
def fnExactFirstDearerSpec : ChangeSpec := { name := "fnExactFirstDearer", vars := ["loop.example/g01366/impl.errBadTable", "loop.example/g01366/impl.errOutside", "loop.example/g01366/impl.errTooMany"], fn := fun _ => fun
  | [d1, d2, g1, g2, g3] => { results := [.lit (.bool true)], args := [d1, d2], vars := [g1, g2, g3] }
  | _ => none }
def fnExactFirstDearerRow : OpenClaim := { program := "ytkhemijanhcibaadoor", sum := "2337096c5c2f22c26650d2d844cbe5babd91f446f70df408d8e7c07db828b17b", func := "loop.example/g01366/laws.FnExactFirstDearer", spec := "fnExactFirstDearer", inPlace := ["internal/reflectlite.TypeOf"], unfollowed := true, recurses := true, named := ["loop.example/g01366/impl.errBadTable", "loop.example/g01366/impl.errOutside", "loop.example/g01366/impl.errTooMany"], ifaces := true, apart := false, laid := [("loop.example/g01366/impl.errBadTable", laid_loop_example_g01366_impl_errBadTable), ("loop.example/g01366/impl.errOutside", laid_loop_example_g01366_impl_errOutside), ("loop.example/g01366/impl.errTooMany", laid_loop_example_g01366_impl_errTooMany)] }
def FnExactFirstDearerSaid : Prop := fnExactFirstDearerRow.holds Tryd.pinned (OpenSpec.ofChange fnExactFirstDearerSpec)

/-- ITS FALSE NEIGHBOUR: 'it returns false'. Refute it at one input. -/
def fnExactFirstDearerWrong : ChangeSpec := { name := "fnExactFirstDearer", vars := ["loop.example/g01366/impl.errBadTable", "loop.example/g01366/impl.errOutside", "loop.example/g01366/impl.errTooMany"], fn := fun _ => fun
  | [d1, d2, g1, g2, g3] => { results := [.lit (.bool false)], args := [d1, d2], vars := [g1, g2, g3] }
  | _ => none }
def FnExactFirstDearerWrongFalsely : Prop := fnExactFirstDearerRow.holds Tryd.pinned (OpenSpec.ofChange fnExactFirstDearerWrong)

/-- 'laws.FnExactJoinedPrice': WHATEVER THE INPUT: true; the input reads as it did. -/
def fnExactJoinedPriceSpec : ChangeSpec := { name := "fnExactJoinedPrice", vars := ["loop.example/g01366/impl.errBadTable", "loop.example/g01366/impl.errOutside", "loop.example/g01366/impl.errTooMany", "loop.example/g01366/impl.errNoStep"], fn := fun _ => fun
  | [d1, d2, d3, g1, g2, g3, g4] => { results := [.lit (.bool true)], args := [d1, d2, d3], vars := [g1, g2, g3, g4] }
  | _ => none }
def fnExactJoinedPriceRow : OpenClaim := { program := "ytkhemijanhcibaadoor", sum := "2337096c5c2f22c26650d2d844cbe5babd91f446f70df408d8e7c07db828b17b", func := "loop.example/g01366/laws.FnExactJoinedPrice", spec := "fnExactJoinedPrice", inPlace := ["internal/reflectlite.TypeOf"], unfollowed := true, recurses := true, named := ["loop.example/g01366/impl.errBadTable", "loop.example/g01366/impl.errOutside", "loop.example/g01366/impl.errTooMany", "loop.example/g01366/impl.errNoStep"], ifaces := true, apart := false, laid := [("loop.example/g01366/impl.errBadTable", laid_loop_example_g01366_impl_errBadTable), ("loop.example/g01366/impl.errOutside", laid_loop_example_g01366_impl_errOutside), ("loop.example/g01366/impl.errTooMany", laid_loop_example_g01366_impl_errTooMany), ("loop.example/g01366/impl.errNoStep", laid_loop_example_g01366_impl_errNoStep)] }
def FnExactJoinedPriceSaid : Prop := fnExactJoinedPriceRow.holds Tryd.pinned (OpenSpec.ofChange fnExactJoinedPriceSpec)

/-- ITS FALSE NEIGHBOUR: 'it returns false'. Refute it at one input. -/
def fnExactJoinedPriceWrong : ChangeSpec := { name := "fnExactJoinedPrice", vars := ["loop.example/g01366/impl.errBadTable", "loop.example/g01366/impl.errOutside", "loop.example/g01366/impl.errTooMany", "loop.example/g01366/impl.errNoStep"], fn := fun _ => fun
  | [d1, d2, d3, g1, g2, g3, g4] => { results := [.lit (.bool false)], args := [d1, d2, d3], vars := [g1, g2, g3, g4] }
  | _ => none }
def FnExactJoinedPriceWrongFalsely : Prop := fnExactJoinedPriceRow.holds Tryd.pinned (OpenSpec.ofChange fnExactJoinedPriceWrong)

/-- 'laws.FnExactCheckParcels': WHATEVER THE INPUT: true; the input reads as it did. -/
def fnExactCheckParcelsSpec : ChangeSpec := { name := "fnExactCheckParcels", vars := ["loop.example/g01366/impl.errBadTable", "loop.example/g01366/impl.errOutside", "loop.example/g01366/impl.errTooMany"], fn := fun _ => fun
  | [d1, d2, d3, g1, g2, g3] => { results := [.lit (.bool true)], args := [d1, d2, d3], vars := [g1, g2, g3] }
  | _ => none }
def fnExactCheckParcelsRow : OpenClaim := { program := "ytkhemijanhcibaadoor", sum := "2337096c5c2f22c26650d2d844cbe5babd91f446f70df408d8e7c07db828b17b", func := "loop.example/g01366/laws.FnExactCheckParcels", spec := "fnExactCheckParcels", inPlace := ["internal/reflectlite.TypeOf"], unfollowed := true, recurses := true, named := ["loop.example/g01366/impl.errBadTable", "loop.example/g01366/impl.errOutside", "loop.example/g01366/impl.errTooMany"], ifaces := true, apart := false, laid := [("loop.example/g01366/impl.errBadTable", laid_loop_example_g01366_impl_errBadTable), ("loop.example/g01366/impl.errOutside", laid_loop_example_g01366_impl_errOutside), ("loop.example/g01366/impl.errTooMany", laid_loop_example_g01366_impl_errTooMany)] }
def FnExactCheckParcelsSaid : Prop := fnExactCheckParcelsRow.holds Tryd.pinned (OpenSpec.ofChange fnExactCheckParcelsSpec)

/-- ITS FALSE NEIGHBOUR: 'it returns false'. Refute it at one input. -/
def fnExactCheckParcelsWrong : ChangeSpec := { name := "fnExactCheckParcels", vars := ["loop.example/g01366/impl.errBadTable", "loop.example/g01366/impl.errOutside", "loop.example/g01366/impl.errTooMany"], fn := fun _ => fun
  | [d1, d2, d3, g1, g2, g3] => { results := [.lit (.bool false)], args := [d1, d2, d3], vars := [g1, g2, g3] }
  | _ => none }
def FnExactCheckParcelsWrongFalsely : Prop := fnExactCheckParcelsRow.holds Tryd.pinned (OpenSpec.ofChange fnExactCheckParcelsWrong)

/-- 'laws.FnExactPriceBound': WHATEVER THE INPUT: true; the input reads as it did. -/
def fnExactPriceBoundSpec : ChangeSpec := { name := "fnExactPriceBound", vars := ["loop.example/g01366/impl.errBadTable", "loop.example/g01366/impl.errOutside", "loop.example/g01366/impl.errTooMany", "loop.example/g01366/impl.errNoStep"], fn := fun _ => fun
  | [d1, d2, d3, g1, g2, g3, g4] => { results := [.lit (.bool true)], args := [d1, d2, d3], vars := [g1, g2, g3, g4] }
  | _ => none }
def fnExactPriceBoundRow : OpenClaim := { program := "ytkhemijanhcibaadoor", sum := "2337096c5c2f22c26650d2d844cbe5babd91f446f70df408d8e7c07db828b17b", func := "loop.example/g01366/laws.FnExactPriceBound", spec := "fnExactPriceBound", inPlace := ["internal/reflectlite.TypeOf"], unfollowed := true, recurses := true, named := ["loop.example/g01366/impl.errBadTable", "loop.example/g01366/impl.errOutside", "loop.example/g01366/impl.errTooMany", "loop.example/g01366/impl.errNoStep"], ifaces := true, apart := false, laid := [("loop.example/g01366/impl.errBadTable", laid_loop_example_g01366_impl_errBadTable), ("loop.example/g01366/impl.errOutside", laid_loop_example_g01366_impl_errOutside), ("loop.example/g01366/impl.errTooMany", laid_loop_example_g01366_impl_errTooMany), ("loop.example/g01366/impl.errNoStep", laid_loop_example_g01366_impl_errNoStep)] }
def FnExactPriceBoundSaid : Prop := fnExactPriceBoundRow.holds Tryd.pinned (OpenSpec.ofChange fnExactPriceBoundSpec)

/-- ITS FALSE NEIGHBOUR: 'it returns false'. Refute it at one input. -/
def fnExactPriceBoundWrong : ChangeSpec := { name := "fnExactPriceBound", vars := ["loop.example/g01366/impl.errBadTable", "loop.example/g01366/impl.errOutside", "loop.example/g01366/impl.errTooMany", "loop.example/g01366/impl.errNoStep"], fn := fun _ => fun
  | [d1, d2, d3, g1, g2, g3, g4] => { results := [.lit (.bool false)], args := [d1, d2, d3], vars := [g1, g2, g3, g4] }
  | _ => none }
def FnExactPriceBoundWrongFalsely : Prop := fnExactPriceBoundRow.holds Tryd.pinned (OpenSpec.ofChange fnExactPriceBoundWrong)

/- THE SECOND FORM. 'bulk': how many values and letters a reading holds, each counted each time it is reached (what is shared counts as often as it is met; a slice's spare places count too). A statement '..UptoSaid' is the law's where the arguments, and the package variables that the reading takes, are together of bulk at most 1048576: NARROWER than '..Said'. Prove '..Said' where nothing that the law and all that it calls make is longer than what came in: it says more and counts as full. Else prove '..UptoSaid'. A law counts once. -/
mutual
def uptoBulk {H : Type} : DataW H → Nat
  | .lit (.string bytes) => bytes.length + 1
  | .lit _ => 1
  | .nil => 1
  | .ptr d => uptoBulk d + 1
  | .slice elems spare => uptoBulkAll elems + uptoBulkAll spare + 1
  | .agg parts => uptoBulkAll parts + 1
  | .iface _ d => uptoBulk d + 1
  | .map entries => uptoBulkEntries entries + 1
  | .held _ => 1
def uptoBulkAll {H : Type} : List (DataW H) → Nat
  | [] => 0
  | d :: r => uptoBulk d + uptoBulkAll r
def uptoBulkEntries {H : Type} : List (Lit × DataW H) → Nat
  | [] => 0
  | x :: r => uptoBulkEntry x + uptoBulkEntries r
def uptoBulkEntry {H : Type} : Lit × DataW H → Nat
  | (.string bytes, d) => bytes.length + uptoBulk d + 1
  | (_, d) => uptoBulk d + 1
 end
def uptoSmall : (H : Type) → List (DataW H) → Bool := fun _ ds => decide (uptoBulkAll ds ≤ 1048576)
def OpenSpec.upto (s : _root_.Go.ChangeSpec) : _root_.Go.OpenSpec := { _root_.Go.OpenSpec.ofChange s with cond := some uptoSmall }

/-- 'laws.FnExactStepFor', WHERE WHAT IT READS IS OF BULK AT MOST 1048576: true; the input reads as it did. -/
def fnExactStepForUptoRow : OpenClaim := { program := "ytkhemijanhcibaadoor", sum := "2337096c5c2f22c26650d2d844cbe5babd91f446f70df408d8e7c07db828b17b", func := "loop.example/g01366/laws.FnExactStepFor", spec := "fnExactStepFor", inPlace := ["internal/reflectlite.TypeOf"], unfollowed := true, recurses := true, named := ["loop.example/g01366/impl.errBadTable", "loop.example/g01366/impl.errOutside", "loop.example/g01366/impl.errTooMany", "loop.example/g01366/impl.errNoStep"], ifaces := true, apart := false, laid := [("loop.example/g01366/impl.errBadTable", laid_loop_example_g01366_impl_errBadTable), ("loop.example/g01366/impl.errOutside", laid_loop_example_g01366_impl_errOutside), ("loop.example/g01366/impl.errTooMany", laid_loop_example_g01366_impl_errTooMany), ("loop.example/g01366/impl.errNoStep", laid_loop_example_g01366_impl_errNoStep)], narrowed := true }
def FnExactStepForUptoSaid : Prop := fnExactStepForUptoRow.holds Tryd.pinned (OpenSpec.upto fnExactStepForSpec)

/-- 'laws.FnExactPriceOf', WHERE WHAT IT READS IS OF BULK AT MOST 1048576: true; the input reads as it did. -/
def fnExactPriceOfUptoRow : OpenClaim := { program := "ytkhemijanhcibaadoor", sum := "2337096c5c2f22c26650d2d844cbe5babd91f446f70df408d8e7c07db828b17b", func := "loop.example/g01366/laws.FnExactPriceOf", spec := "fnExactPriceOf", inPlace := ["internal/reflectlite.TypeOf"], unfollowed := true, recurses := true, named := ["loop.example/g01366/impl.errBadTable", "loop.example/g01366/impl.errOutside", "loop.example/g01366/impl.errTooMany", "loop.example/g01366/impl.errNoStep"], ifaces := true, apart := false, laid := [("loop.example/g01366/impl.errBadTable", laid_loop_example_g01366_impl_errBadTable), ("loop.example/g01366/impl.errOutside", laid_loop_example_g01366_impl_errOutside), ("loop.example/g01366/impl.errTooMany", laid_loop_example_g01366_impl_errTooMany), ("loop.example/g01366/impl.errNoStep", laid_loop_example_g01366_impl_errNoStep)], narrowed := true }
def FnExactPriceOfUptoSaid : Prop := fnExactPriceOfUptoRow.holds Tryd.pinned (OpenSpec.upto fnExactPriceOfSpec)

/-- 'laws.FnExactPricesOf', WHERE WHAT IT READS IS OF BULK AT MOST 1048576: true; the input reads as it did. -/
def fnExactPricesOfUptoRow : OpenClaim := { program := "ytkhemijanhcibaadoor", sum := "2337096c5c2f22c26650d2d844cbe5babd91f446f70df408d8e7c07db828b17b", func := "loop.example/g01366/laws.FnExactPricesOf", spec := "fnExactPricesOf", inPlace := ["internal/reflectlite.TypeOf"], unfollowed := true, recurses := true, named := ["loop.example/g01366/impl.errBadTable", "loop.example/g01366/impl.errOutside", "loop.example/g01366/impl.errTooMany", "loop.example/g01366/impl.errNoStep"], ifaces := true, apart := false, laid := [("loop.example/g01366/impl.errBadTable", laid_loop_example_g01366_impl_errBadTable), ("loop.example/g01366/impl.errOutside", laid_loop_example_g01366_impl_errOutside), ("loop.example/g01366/impl.errTooMany", laid_loop_example_g01366_impl_errTooMany), ("loop.example/g01366/impl.errNoStep", laid_loop_example_g01366_impl_errNoStep)], narrowed := true }
def FnExactPricesOfUptoSaid : Prop := fnExactPricesOfUptoRow.holds Tryd.pinned (OpenSpec.upto fnExactPricesOfSpec)

/-- 'laws.FnExactHeaviestFor', WHERE WHAT IT READS IS OF BULK AT MOST 1048576: true; the input reads as it did. -/
def fnExactHeaviestForUptoRow : OpenClaim := { program := "ytkhemijanhcibaadoor", sum := "2337096c5c2f22c26650d2d844cbe5babd91f446f70df408d8e7c07db828b17b", func := "loop.example/g01366/laws.FnExactHeaviestFor", spec := "fnExactHeaviestFor", inPlace := ["internal/reflectlite.TypeOf"], unfollowed := true, recurses := true, named := ["loop.example/g01366/impl.errBadTable", "loop.example/g01366/impl.errOutside", "loop.example/g01366/impl.errTooMany"], ifaces := true, apart := false, laid := [("loop.example/g01366/impl.errBadTable", laid_loop_example_g01366_impl_errBadTable), ("loop.example/g01366/impl.errOutside", laid_loop_example_g01366_impl_errOutside), ("loop.example/g01366/impl.errTooMany", laid_loop_example_g01366_impl_errTooMany)], narrowed := true }
def FnExactHeaviestForUptoSaid : Prop := fnExactHeaviestForUptoRow.holds Tryd.pinned (OpenSpec.upto fnExactHeaviestForSpec)

/-- 'laws.FnExactFirstDearer', WHERE WHAT IT READS IS OF BULK AT MOST 1048576: true; the input reads as it did. -/
def fnExactFirstDearerUptoRow : OpenClaim := { program := "ytkhemijanhcibaadoor", sum := "2337096c5c2f22c26650d2d844cbe5babd91f446f70df408d8e7c07db828b17b", func := "loop.example/g01366/laws.FnExactFirstDearer", spec := "fnExactFirstDearer", inPlace := ["internal/reflectlite.TypeOf"], unfollowed := true, recurses := true, named := ["loop.example/g01366/impl.errBadTable", "loop.example/g01366/impl.errOutside", "loop.example/g01366/impl.errTooMany"], ifaces := true, apart := false, laid := [("loop.example/g01366/impl.errBadTable", laid_loop_example_g01366_impl_errBadTable), ("loop.example/g01366/impl.errOutside", laid_loop_example_g01366_impl_errOutside), ("loop.example/g01366/impl.errTooMany", laid_loop_example_g01366_impl_errTooMany)], narrowed := true }
def FnExactFirstDearerUptoSaid : Prop := fnExactFirstDearerUptoRow.holds Tryd.pinned (OpenSpec.upto fnExactFirstDearerSpec)

/-- 'laws.FnExactJoinedPrice', WHERE WHAT IT READS IS OF BULK AT MOST 1048576: true; the input reads as it did. -/
def fnExactJoinedPriceUptoRow : OpenClaim := { program := "ytkhemijanhcibaadoor", sum := "2337096c5c2f22c26650d2d844cbe5babd91f446f70df408d8e7c07db828b17b", func := "loop.example/g01366/laws.FnExactJoinedPrice", spec := "fnExactJoinedPrice", inPlace := ["internal/reflectlite.TypeOf"], unfollowed := true, recurses := true, named := ["loop.example/g01366/impl.errBadTable", "loop.example/g01366/impl.errOutside", "loop.example/g01366/impl.errTooMany", "loop.example/g01366/impl.errNoStep"], ifaces := true, apart := false, laid := [("loop.example/g01366/impl.errBadTable", laid_loop_example_g01366_impl_errBadTable), ("loop.example/g01366/impl.errOutside", laid_loop_example_g01366_impl_errOutside), ("loop.example/g01366/impl.errTooMany", laid_loop_example_g01366_impl_errTooMany), ("loop.example/g01366/impl.errNoStep", laid_loop_example_g01366_impl_errNoStep)], narrowed := true }
def FnExactJoinedPriceUptoSaid : Prop := fnExactJoinedPriceUptoRow.holds Tryd.pinned (OpenSpec.upto fnExactJoinedPriceSpec)

/-- 'laws.FnExactCheckParcels', WHERE WHAT IT READS IS OF BULK AT MOST 1048576: true; the input reads as it did. -/
def fnExactCheckParcelsUptoRow : OpenClaim := { program := "ytkhemijanhcibaadoor", sum := "2337096c5c2f22c26650d2d844cbe5babd91f446f70df408d8e7c07db828b17b", func := "loop.example/g01366/laws.FnExactCheckParcels", spec := "fnExactCheckParcels", inPlace := ["internal/reflectlite.TypeOf"], unfollowed := true, recurses := true, named := ["loop.example/g01366/impl.errBadTable", "loop.example/g01366/impl.errOutside", "loop.example/g01366/impl.errTooMany"], ifaces := true, apart := false, laid := [("loop.example/g01366/impl.errBadTable", laid_loop_example_g01366_impl_errBadTable), ("loop.example/g01366/impl.errOutside", laid_loop_example_g01366_impl_errOutside), ("loop.example/g01366/impl.errTooMany", laid_loop_example_g01366_impl_errTooMany)], narrowed := true }
def FnExactCheckParcelsUptoSaid : Prop := fnExactCheckParcelsUptoRow.holds Tryd.pinned (OpenSpec.upto fnExactCheckParcelsSpec)

/-- 'laws.FnExactPriceBound', WHERE WHAT IT READS IS OF BULK AT MOST 1048576: true; the input reads as it did. -/
def fnExactPriceBoundUptoRow : OpenClaim := { program := "ytkhemijanhcibaadoor", sum := "2337096c5c2f22c26650d2d844cbe5babd91f446f70df408d8e7c07db828b17b", func := "loop.example/g01366/laws.FnExactPriceBound", spec := "fnExactPriceBound", inPlace := ["internal/reflectlite.TypeOf"], unfollowed := true, recurses := true, named := ["loop.example/g01366/impl.errBadTable", "loop.example/g01366/impl.errOutside", "loop.example/g01366/impl.errTooMany", "loop.example/g01366/impl.errNoStep"], ifaces := true, apart := false, laid := [("loop.example/g01366/impl.errBadTable", laid_loop_example_g01366_impl_errBadTable), ("loop.example/g01366/impl.errOutside", laid_loop_example_g01366_impl_errOutside), ("loop.example/g01366/impl.errTooMany", laid_loop_example_g01366_impl_errTooMany), ("loop.example/g01366/impl.errNoStep", laid_loop_example_g01366_impl_errNoStep)], narrowed := true }
def FnExactPriceBoundUptoSaid : Prop := fnExactPriceBoundUptoRow.holds Tryd.pinned (OpenSpec.upto fnExactPriceBoundSpec)

end Rows
end Go.Proofs.YtkhemijanhcibaaDoor
