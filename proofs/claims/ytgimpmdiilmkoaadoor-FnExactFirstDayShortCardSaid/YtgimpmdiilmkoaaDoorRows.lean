/-
  NARROWER THAN 'FOR EVERY INPUT', by the rows' own cells (each row's printed sentence says how): FnExactStillWith: laid · FnExactWorthAt: laid · FnExactLostBy: laid · FnExactPayVouchers: laid · FnExactFirstDayShort: laid · FnExactCheckMatches: laid · FnExactSwapsFor: laid · FnExactExchangesFor: laid · FnExactRefundOf: laid.
  DERIVED. THE GIVEN ROWS OF THIS SEAT. 9 by the template 'for every input the law returns true; each argument reads behind the call as it read before'; 0 by the template 'total and deterministic' (their statements: YtgimpmdiilmkoaaDoorTotals.lean).
  GIVEN WITH THE SEED: the statements are not yours to turn. If you find one false, say at which input.
  Laid BY PROGRAM, IN A SANDBOX (cutbox-rows.mjs): the forced cells as the released guide's own fill.sh prints them over the translation 3c7e7d1c2c96abe7… (all of the seat's roots in one cut). By AI agents, Wed Nov 11 2026. No macro, syntax, notation, axiom, sorry.
-/
import Derived.Test.YtgimpmdiilmkoaaDoorChecked
import GoSem.Claim
import GoSem.ClaimJoined
import GoSem.ClaimMapViews
import Derived.JoinedTies
import Derived.KernelRfl
namespace Go.Proofs.YtgimpmdiilmkoaaDoor
/- THE CELL 'sum', in the pinned program and in every row, IS THE sha256 OF THE DUMP (.gsa) THAT YtgimpmdiilmkoaaDoorProg.lean LOADS. Nothing in Lean hashes anything: it is a label: what it is worth is what the hold of that sum in a sandbox is worth. -/
noncomputable def Tryd.pinned : Pinned := { name := "ytgimpmdiilmkoaadoor", sum := "3c7e7d1c2c96abe7669036c9c9ad748fed5145e8117e7435f355e22e901ebeab", checked := Tryd.checked }
namespace Rows
def none {H : Type} : Left H := { results := [], args := [] }

/- WHAT THE LISTED PACKAGE-LEVEL VARIABLES READ AS WHEN THE CALL BEGINS. Each datum BY PROGRAM (the guide's laid-datum.mjs) off the statement by which the dump's own 'gosem.cut.vars' lays the variable. In a bare row this is a premise. The card (YtgimpmdiilmkoaaDoorCards.lean) ties it to the program's text. -/
def laid_errors_errorType {H : Type} : DataW H := .iface "internal/reflectlite.rtype" (.agg [.ptr (.lit (.string [101, 114, 114, 111, 114]))])

/-- 'laws.FnExactStillWith': WHATEVER THE INPUT: true; the input reads as it did. -/
def fnExactStillWithSpec : ChangeSpec := { name := "fnExactStillWith", fn := fun _ => fun
  | [d1, d2, d3, d4] => { results := [.lit (.bool true)], args := [d1, d2, d3, d4] }
  | _ => none }
def fnExactStillWithRow : OpenClaim := { program := "ytgimpmdiilmkoaadoor", sum := "3c7e7d1c2c96abe7669036c9c9ad748fed5145e8117e7435f355e22e901ebeab", func := "loop.example/g01366/laws.FnExactStillWith", spec := "fnExactStillWith", inPlace := ["internal/reflectlite.ValueOf", "(internal/reflectlite.Value).Type", "(internal/reflectlite.Value).IsNil", "internal/reflectlite.TypeOf", "(internal/reflectlite.Value).Elem", "(internal/reflectlite.Value).Set"], unfollowed := true, recurses := true, named := ["errors.errorType"], apart := false, laid := [("errors.errorType", laid_errors_errorType)] }
def FnExactStillWithSaid : Prop := fnExactStillWithRow.holds Tryd.pinned (OpenSpec.ofChange fnExactStillWithSpec)

/-- ITS FALSE NEIGHBOUR: 'it returns false'. Refute it at one input. -/
def fnExactStillWithWrong : ChangeSpec := { name := "fnExactStillWith", fn := fun _ => fun
  | [d1, d2, d3, d4] => { results := [.lit (.bool false)], args := [d1, d2, d3, d4] }
  | _ => none }
def FnExactStillWithWrongFalsely : Prop := fnExactStillWithRow.holds Tryd.pinned (OpenSpec.ofChange fnExactStillWithWrong)

/-- 'laws.FnExactWorthAt': WHATEVER THE INPUT: true; the input reads as it did. -/
def fnExactWorthAtSpec : ChangeSpec := { name := "fnExactWorthAt", fn := fun _ => fun
  | [d1, d2] => { results := [.lit (.bool true)], args := [d1, d2] }
  | _ => none }
def fnExactWorthAtRow : OpenClaim := { program := "ytgimpmdiilmkoaadoor", sum := "3c7e7d1c2c96abe7669036c9c9ad748fed5145e8117e7435f355e22e901ebeab", func := "loop.example/g01366/laws.FnExactWorthAt", spec := "fnExactWorthAt", inPlace := ["internal/reflectlite.ValueOf", "(internal/reflectlite.Value).Type", "(internal/reflectlite.Value).IsNil", "internal/reflectlite.TypeOf", "(internal/reflectlite.Value).Elem", "(internal/reflectlite.Value).Set"], unfollowed := true, recurses := true, named := ["errors.errorType"], apart := false, laid := [("errors.errorType", laid_errors_errorType)] }
def FnExactWorthAtSaid : Prop := fnExactWorthAtRow.holds Tryd.pinned (OpenSpec.ofChange fnExactWorthAtSpec)

/-- ITS FALSE NEIGHBOUR: 'it returns false'. Refute it at one input. -/
def fnExactWorthAtWrong : ChangeSpec := { name := "fnExactWorthAt", fn := fun _ => fun
  | [d1, d2] => { results := [.lit (.bool false)], args := [d1, d2] }
  | _ => none }
def FnExactWorthAtWrongFalsely : Prop := fnExactWorthAtRow.holds Tryd.pinned (OpenSpec.ofChange fnExactWorthAtWrong)

/-- 'laws.FnExactLostBy': WHATEVER THE INPUT: true; the input reads as it did. -/
def fnExactLostBySpec : ChangeSpec := { name := "fnExactLostBy", fn := fun _ => fun
  | [d1, d2] => { results := [.lit (.bool true)], args := [d1, d2] }
  | _ => none }
def fnExactLostByRow : OpenClaim := { program := "ytgimpmdiilmkoaadoor", sum := "3c7e7d1c2c96abe7669036c9c9ad748fed5145e8117e7435f355e22e901ebeab", func := "loop.example/g01366/laws.FnExactLostBy", spec := "fnExactLostBy", inPlace := ["internal/reflectlite.ValueOf", "(internal/reflectlite.Value).Type", "(internal/reflectlite.Value).IsNil", "internal/reflectlite.TypeOf", "(internal/reflectlite.Value).Elem", "(internal/reflectlite.Value).Set"], unfollowed := true, recurses := true, named := ["errors.errorType"], apart := false, laid := [("errors.errorType", laid_errors_errorType)] }
def FnExactLostBySaid : Prop := fnExactLostByRow.holds Tryd.pinned (OpenSpec.ofChange fnExactLostBySpec)

/-- ITS FALSE NEIGHBOUR: 'it returns false'. Refute it at one input. -/
def fnExactLostByWrong : ChangeSpec := { name := "fnExactLostBy", fn := fun _ => fun
  | [d1, d2] => { results := [.lit (.bool false)], args := [d1, d2] }
  | _ => none }
def FnExactLostByWrongFalsely : Prop := fnExactLostByRow.holds Tryd.pinned (OpenSpec.ofChange fnExactLostByWrong)

/-- 'laws.FnExactPayVouchers': WHATEVER THE INPUT: true; the input reads as it did. -/
def fnExactPayVouchersSpec : ChangeSpec := { name := "fnExactPayVouchers", fn := fun _ => fun
  | [d1, d2, d3] => { results := [.lit (.bool true)], args := [d1, d2, d3] }
  | _ => none }
def fnExactPayVouchersRow : OpenClaim := { program := "ytgimpmdiilmkoaadoor", sum := "3c7e7d1c2c96abe7669036c9c9ad748fed5145e8117e7435f355e22e901ebeab", func := "loop.example/g01366/laws.FnExactPayVouchers", spec := "fnExactPayVouchers", inPlace := ["internal/reflectlite.ValueOf", "(internal/reflectlite.Value).Type", "(internal/reflectlite.Value).IsNil", "internal/reflectlite.TypeOf", "(internal/reflectlite.Value).Elem", "(internal/reflectlite.Value).Set"], unfollowed := true, recurses := true, named := ["errors.errorType"], apart := false, laid := [("errors.errorType", laid_errors_errorType)] }
def FnExactPayVouchersSaid : Prop := fnExactPayVouchersRow.holds Tryd.pinned (OpenSpec.ofChange fnExactPayVouchersSpec)

/-- ITS FALSE NEIGHBOUR: 'it returns false'. Refute it at one input. -/
def fnExactPayVouchersWrong : ChangeSpec := { name := "fnExactPayVouchers", fn := fun _ => fun
  | [d1, d2, d3] => { results := [.lit (.bool false)], args := [d1, d2, d3] }
  | _ => none }
def FnExactPayVouchersWrongFalsely : Prop := fnExactPayVouchersRow.holds Tryd.pinned (OpenSpec.ofChange fnExactPayVouchersWrong)

/-- 'laws.FnExactFirstDayShort': WHATEVER THE INPUT: true; the input reads as it did. -/
def fnExactFirstDayShortSpec : ChangeSpec := { name := "fnExactFirstDayShort", fn := fun _ => fun
  | [d1, d2] => { results := [.lit (.bool true)], args := [d1, d2] }
  | _ => none }
def fnExactFirstDayShortRow : OpenClaim := { program := "ytgimpmdiilmkoaadoor", sum := "3c7e7d1c2c96abe7669036c9c9ad748fed5145e8117e7435f355e22e901ebeab", func := "loop.example/g01366/laws.FnExactFirstDayShort", spec := "fnExactFirstDayShort", inPlace := ["internal/reflectlite.ValueOf", "(internal/reflectlite.Value).Type", "(internal/reflectlite.Value).IsNil", "internal/reflectlite.TypeOf", "(internal/reflectlite.Value).Elem", "(internal/reflectlite.Value).Set"], unfollowed := true, recurses := true, named := ["errors.errorType"], apart := false, laid := [("errors.errorType", laid_errors_errorType)] }
def FnExactFirstDayShortSaid : Prop := fnExactFirstDayShortRow.holds Tryd.pinned (OpenSpec.ofChange fnExactFirstDayShortSpec)

/-- ITS FALSE NEIGHBOUR: 'it returns false'. Refute it at one input. -/
def fnExactFirstDayShortWrong : ChangeSpec := { name := "fnExactFirstDayShort", fn := fun _ => fun
  | [d1, d2] => { results := [.lit (.bool false)], args := [d1, d2] }
  | _ => none }
def FnExactFirstDayShortWrongFalsely : Prop := fnExactFirstDayShortRow.holds Tryd.pinned (OpenSpec.ofChange fnExactFirstDayShortWrong)

/-- 'laws.FnExactCheckMatches': WHATEVER THE INPUT: true; the input reads as it did. -/
def fnExactCheckMatchesSpec : ChangeSpec := { name := "fnExactCheckMatches", fn := fun _ => fun
  | [d1, d2, d3, d4] => { results := [.lit (.bool true)], args := [d1, d2, d3, d4] }
  | _ => none }
def fnExactCheckMatchesRow : OpenClaim := { program := "ytgimpmdiilmkoaadoor", sum := "3c7e7d1c2c96abe7669036c9c9ad748fed5145e8117e7435f355e22e901ebeab", func := "loop.example/g01366/laws.FnExactCheckMatches", spec := "fnExactCheckMatches", inPlace := ["internal/reflectlite.ValueOf", "(internal/reflectlite.Value).Type", "(internal/reflectlite.Value).IsNil", "internal/reflectlite.TypeOf", "(internal/reflectlite.Value).Elem", "(internal/reflectlite.Value).Set"], unfollowed := true, recurses := true, named := ["errors.errorType"], apart := false, laid := [("errors.errorType", laid_errors_errorType)] }
def FnExactCheckMatchesSaid : Prop := fnExactCheckMatchesRow.holds Tryd.pinned (OpenSpec.ofChange fnExactCheckMatchesSpec)

/-- ITS FALSE NEIGHBOUR: 'it returns false'. Refute it at one input. -/
def fnExactCheckMatchesWrong : ChangeSpec := { name := "fnExactCheckMatches", fn := fun _ => fun
  | [d1, d2, d3, d4] => { results := [.lit (.bool false)], args := [d1, d2, d3, d4] }
  | _ => none }
def FnExactCheckMatchesWrongFalsely : Prop := fnExactCheckMatchesRow.holds Tryd.pinned (OpenSpec.ofChange fnExactCheckMatchesWrong)

/-- 'laws.FnExactSwapsFor': WHATEVER THE INPUT: true; the input reads as it did. -/
def fnExactSwapsForSpec : ChangeSpec := { name := "fnExactSwapsFor", fn := fun _ => fun
  | [d1, d2] => { results := [.lit (.bool true)], args := [d1, d2] }
  | _ => none }
def fnExactSwapsForRow : OpenClaim := { program := "ytgimpmdiilmkoaadoor", sum := "3c7e7d1c2c96abe7669036c9c9ad748fed5145e8117e7435f355e22e901ebeab", func := "loop.example/g01366/laws.FnExactSwapsFor", spec := "fnExactSwapsFor", inPlace := ["internal/reflectlite.ValueOf", "(internal/reflectlite.Value).Type", "(internal/reflectlite.Value).IsNil", "internal/reflectlite.TypeOf", "(internal/reflectlite.Value).Elem", "(internal/reflectlite.Value).Set"], unfollowed := true, recurses := true, named := ["errors.errorType"], apart := false, laid := [("errors.errorType", laid_errors_errorType)] }
def FnExactSwapsForSaid : Prop := fnExactSwapsForRow.holds Tryd.pinned (OpenSpec.ofChange fnExactSwapsForSpec)

/-- ITS FALSE NEIGHBOUR: 'it returns false'. Refute it at one input. -/
def fnExactSwapsForWrong : ChangeSpec := { name := "fnExactSwapsFor", fn := fun _ => fun
  | [d1, d2] => { results := [.lit (.bool false)], args := [d1, d2] }
  | _ => none }
def FnExactSwapsForWrongFalsely : Prop := fnExactSwapsForRow.holds Tryd.pinned (OpenSpec.ofChange fnExactSwapsForWrong)

/-- 'laws.FnExactExchangesFor': WHATEVER THE INPUT: true; the input reads as it did. -/
def fnExactExchangesForSpec : ChangeSpec := { name := "fnExactExchangesFor", fn := fun _ => fun
  | [d1, d2] => { results := [.lit (.bool true)], args := [d1, d2] }
  | _ => none }
def fnExactExchangesForRow : OpenClaim := { program := "ytgimpmdiilmkoaadoor", sum := "3c7e7d1c2c96abe7669036c9c9ad748fed5145e8117e7435f355e22e901ebeab", func := "loop.example/g01366/laws.FnExactExchangesFor", spec := "fnExactExchangesFor", inPlace := ["internal/reflectlite.ValueOf", "(internal/reflectlite.Value).Type", "(internal/reflectlite.Value).IsNil", "internal/reflectlite.TypeOf", "(internal/reflectlite.Value).Elem", "(internal/reflectlite.Value).Set"], unfollowed := true, recurses := true, named := ["errors.errorType"], apart := false, laid := [("errors.errorType", laid_errors_errorType)] }
def FnExactExchangesForSaid : Prop := fnExactExchangesForRow.holds Tryd.pinned (OpenSpec.ofChange fnExactExchangesForSpec)

/-- ITS FALSE NEIGHBOUR: 'it returns false'. Refute it at one input. -/
def fnExactExchangesForWrong : ChangeSpec := { name := "fnExactExchangesFor", fn := fun _ => fun
  | [d1, d2] => { results := [.lit (.bool false)], args := [d1, d2] }
  | _ => none }
def FnExactExchangesForWrongFalsely : Prop := fnExactExchangesForRow.holds Tryd.pinned (OpenSpec.ofChange fnExactExchangesForWrong)

/-- 'laws.FnExactRefundOf': WHATEVER THE INPUT: true; the input reads as it did. -/
def fnExactRefundOfSpec : ChangeSpec := { name := "fnExactRefundOf", fn := fun _ => fun
  | [d1, d2, d3] => { results := [.lit (.bool true)], args := [d1, d2, d3] }
  | _ => none }
def fnExactRefundOfRow : OpenClaim := { program := "ytgimpmdiilmkoaadoor", sum := "3c7e7d1c2c96abe7669036c9c9ad748fed5145e8117e7435f355e22e901ebeab", func := "loop.example/g01366/laws.FnExactRefundOf", spec := "fnExactRefundOf", inPlace := ["internal/reflectlite.ValueOf", "(internal/reflectlite.Value).Type", "(internal/reflectlite.Value).IsNil", "internal/reflectlite.TypeOf", "(internal/reflectlite.Value).Elem", "(internal/reflectlite.Value).Set"], unfollowed := true, recurses := true, named := ["errors.errorType"], apart := false, laid := [("errors.errorType", laid_errors_errorType)] }
def FnExactRefundOfSaid : Prop := fnExactRefundOfRow.holds Tryd.pinned (OpenSpec.ofChange fnExactRefundOfSpec)

/-- ITS FALSE NEIGHBOUR: 'it returns false'. Refute it at one input. -/
def fnExactRefundOfWrong : ChangeSpec := { name := "fnExactRefundOf", fn := fun _ => fun
  | [d1, d2, d3] => { results := [.lit (.bool false)], args := [d1, d2, d3] }
  | _ => none }
def FnExactRefundOfWrongFalsely : Prop := fnExactRefundOfRow.holds Tryd.pinned (OpenSpec.ofChange fnExactRefundOfWrong)

/- THE SECOND FORM. 'bulk': how many values and letters a reading holds, each counted each time it is reached (what is shared counts as often as it is met; a slice's spare places count too). A statement '..UptoSaid' is the law's where the arguments, and the package variables that the reading takes, are together of bulk at most 1048576: NARROWER than '..Said'. Prove '..Said' where nothing that the law and all that it calls make is longer than what came in: it says more and counts as full. Else prove '..UptoSaid'. A law counts once. -/
mutual
def uptoBulk {H : Type} : DataW H → Nat
  | .lit (.string bytes) => bytes.length + 1
  | .lit _ => 1
  | .nil => 1
  | .ptr d => uptoBulk d + 1
  | .slice elems spare => uptoBulkAll elems + uptoBulkAll spare + 1
  | .agg parts => uptoBulkAll parts + 1
  | .iface _ d => uptoBulk d + 1
  | .map entries => uptoBulkEntries entries + 1
  | .held _ => 1
def uptoBulkAll {H : Type} : List (DataW H) → Nat
  | [] => 0
  | d :: r => uptoBulk d + uptoBulkAll r
def uptoBulkEntries {H : Type} : List (Lit × DataW H) → Nat
  | [] => 0
  | x :: r => uptoBulkEntry x + uptoBulkEntries r
def uptoBulkEntry {H : Type} : Lit × DataW H → Nat
  | (.string bytes, d) => bytes.length + uptoBulk d + 1
  | (_, d) => uptoBulk d + 1
 end
def uptoSmall : (H : Type) → List (DataW H) → Bool := fun _ ds => decide (uptoBulkAll ds ≤ 1048576)
def OpenSpec.upto (s : _root_.Go.ChangeSpec) : _root_.Go.OpenSpec := { _root_.Go.OpenSpec.ofChange s with cond := some uptoSmall }

/-- 'laws.FnExactStillWith', WHERE WHAT IT READS IS OF BULK AT MOST 1048576: true; the input reads as it did. -/
def fnExactStillWithUptoRow : OpenClaim := { program := "ytgimpmdiilmkoaadoor", sum := "3c7e7d1c2c96abe7669036c9c9ad748fed5145e8117e7435f355e22e901ebeab", func := "loop.example/g01366/laws.FnExactStillWith", spec := "fnExactStillWith", inPlace := ["internal/reflectlite.ValueOf", "(internal/reflectlite.Value).Type", "(internal/reflectlite.Value).IsNil", "internal/reflectlite.TypeOf", "(internal/reflectlite.Value).Elem", "(internal/reflectlite.Value).Set"], unfollowed := true, recurses := true, named := ["errors.errorType"], apart := false, laid := [("errors.errorType", laid_errors_errorType)], narrowed := true }
def FnExactStillWithUptoSaid : Prop := fnExactStillWithUptoRow.holds Tryd.pinned (OpenSpec.upto fnExactStillWithSpec)

/-- 'laws.FnExactWorthAt', WHERE WHAT IT READS IS OF BULK AT MOST 1048576: true; the input reads as it did. -/
def fnExactWorthAtUptoRow : OpenClaim := { program := "ytgimpmdiilmkoaadoor", sum := "3c7e7d1c2c96abe7669036c9c9ad748fed5145e8117e7435f355e22e901ebeab", func := "loop.example/g01366/laws.FnExactWorthAt", spec := "fnExactWorthAt", inPlace := ["internal/reflectlite.ValueOf", "(internal/reflectlite.Value).Type", "(internal/reflectlite.Value).IsNil", "internal/reflectlite.TypeOf", "(internal/reflectlite.Value).Elem", "(internal/reflectlite.Value).Set"], unfollowed := true, recurses := true, named := ["errors.errorType"], apart := false, laid := [("errors.errorType", laid_errors_errorType)], narrowed := true }
def FnExactWorthAtUptoSaid : Prop := fnExactWorthAtUptoRow.holds Tryd.pinned (OpenSpec.upto fnExactWorthAtSpec)

/-- 'laws.FnExactLostBy', WHERE WHAT IT READS IS OF BULK AT MOST 1048576: true; the input reads as it did. -/
def fnExactLostByUptoRow : OpenClaim := { program := "ytgimpmdiilmkoaadoor", sum := "3c7e7d1c2c96abe7669036c9c9ad748fed5145e8117e7435f355e22e901ebeab", func := "loop.example/g01366/laws.FnExactLostBy", spec := "fnExactLostBy", inPlace := ["internal/reflectlite.ValueOf", "(internal/reflectlite.Value).Type", "(internal/reflectlite.Value).IsNil", "internal/reflectlite.TypeOf", "(internal/reflectlite.Value).Elem", "(internal/reflectlite.Value).Set"], unfollowed := true, recurses := true, named := ["errors.errorType"], apart := false, laid := [("errors.errorType", laid_errors_errorType)], narrowed := true }
def FnExactLostByUptoSaid : Prop := fnExactLostByUptoRow.holds Tryd.pinned (OpenSpec.upto fnExactLostBySpec)

/-- 'laws.FnExactPayVouchers', WHERE WHAT IT READS IS OF BULK AT MOST 1048576: true; the input reads as it did. -/
def fnExactPayVouchersUptoRow : OpenClaim := { program := "ytgimpmdiilmkoaadoor", sum := "3c7e7d1c2c96abe7669036c9c9ad748fed5145e8117e7435f355e22e901ebeab", func := "loop.example/g01366/laws.FnExactPayVouchers", spec := "fnExactPayVouchers", inPlace := ["internal/reflectlite.ValueOf", "(internal/reflectlite.Value).Type", "(internal/reflectlite.Value).IsNil", "internal/reflectlite.TypeOf", "(internal/reflectlite.Value).Elem", "(internal/reflectlite.Value).Set"], unfollowed := true, recurses := true, named := ["errors.errorType"], apart := false, laid := [("errors.errorType", laid_errors_errorType)], narrowed := true }
def FnExactPayVouchersUptoSaid : Prop := fnExactPayVouchersUptoRow.holds Tryd.pinned (OpenSpec.upto fnExactPayVouchersSpec)

/-- 'laws.FnExactFirstDayShort', WHERE WHAT IT READS IS OF BULK AT MOST 1048576: true; the input reads as it did. -/
def fnExactFirstDayShortUptoRow : OpenClaim := { program := "ytgimpmdiilmkoaadoor", sum := "3c7e7d1c2c96abe7669036c9c9ad748fed5145e8117e7435f355e22e901ebeab", func := "loop.example/g01366/laws.FnExactFirstDayShort", spec := "fnExactFirstDayShort", inPlace := ["internal/reflectlite.ValueOf", "(internal/reflectlite.Value).Type", "(internal/reflectlite.Value).IsNil", "internal/reflectlite.TypeOf", "(internal/reflectlite.Value).Elem", "(internal/reflectlite.Value).Set"], unfollowed := true, recurses := true, named := ["errors.errorType"], apart := false, laid := [("errors.errorType", laid_errors_errorType)], narrowed := true }
def FnExactFirstDayShortUptoSaid : Prop := fnExactFirstDayShortUptoRow.holds Tryd.pinned (OpenSpec.upto fnExactFirstDayShortSpec)

/-- 'laws.FnExactCheckMatches', WHERE WHAT IT READS IS OF BULK AT MOST 1048576: true; the input reads as it did. -/
def fnExactCheckMatchesUptoRow : OpenClaim := { program := "ytgimpmdiilmkoaadoor", sum := "3c7e7d1c2c96abe7669036c9c9ad748fed5145e8117e7435f355e22e901ebeab", func := "loop.example/g01366/laws.FnExactCheckMatches", spec := "fnExactCheckMatches", inPlace := ["internal/reflectlite.ValueOf", "(internal/reflectlite.Value).Type", "(internal/reflectlite.Value).IsNil", "internal/reflectlite.TypeOf", "(internal/reflectlite.Value).Elem", "(internal/reflectlite.Value).Set"], unfollowed := true, recurses := true, named := ["errors.errorType"], apart := false, laid := [("errors.errorType", laid_errors_errorType)], narrowed := true }
def FnExactCheckMatchesUptoSaid : Prop := fnExactCheckMatchesUptoRow.holds Tryd.pinned (OpenSpec.upto fnExactCheckMatchesSpec)

/-- 'laws.FnExactSwapsFor', WHERE WHAT IT READS IS OF BULK AT MOST 1048576: true; the input reads as it did. -/
def fnExactSwapsForUptoRow : OpenClaim := { program := "ytgimpmdiilmkoaadoor", sum := "3c7e7d1c2c96abe7669036c9c9ad748fed5145e8117e7435f355e22e901ebeab", func := "loop.example/g01366/laws.FnExactSwapsFor", spec := "fnExactSwapsFor", inPlace := ["internal/reflectlite.ValueOf", "(internal/reflectlite.Value).Type", "(internal/reflectlite.Value).IsNil", "internal/reflectlite.TypeOf", "(internal/reflectlite.Value).Elem", "(internal/reflectlite.Value).Set"], unfollowed := true, recurses := true, named := ["errors.errorType"], apart := false, laid := [("errors.errorType", laid_errors_errorType)], narrowed := true }
def FnExactSwapsForUptoSaid : Prop := fnExactSwapsForUptoRow.holds Tryd.pinned (OpenSpec.upto fnExactSwapsForSpec)

/-- 'laws.FnExactExchangesFor', WHERE WHAT IT READS IS OF BULK AT MOST 1048576: true; the input reads as it did. -/
def fnExactExchangesForUptoRow : OpenClaim := { program := "ytgimpmdiilmkoaadoor", sum := "3c7e7d1c2c96abe7669036c9c9ad748fed5145e8117e7435f355e22e901ebeab", func := "loop.example/g01366/laws.FnExactExchangesFor", spec := "fnExactExchangesFor", inPlace := ["internal/reflectlite.ValueOf", "(internal/reflectlite.Value).Type", "(internal/reflectlite.Value).IsNil", "internal/reflectlite.TypeOf", "(internal/reflectlite.Value).Elem", "(internal/reflectlite.Value).Set"], unfollowed := true, recurses := true, named := ["errors.errorType"], apart := false, laid := [("errors.errorType", laid_errors_errorType)], narrowed := true }
def FnExactExchangesForUptoSaid : Prop := fnExactExchangesForUptoRow.holds Tryd.pinned (OpenSpec.upto fnExactExchangesForSpec)

/-- 'laws.FnExactRefundOf', WHERE WHAT IT READS IS OF BULK AT MOST 1048576: true; the input reads as it did. -/
def fnExactRefundOfUptoRow : OpenClaim := { program := "ytgimpmdiilmkoaadoor", sum := "3c7e7d1c2c96abe7669036c9c9ad748fed5145e8117e7435f355e22e901ebeab", func := "loop.example/g01366/laws.FnExactRefundOf", spec := "fnExactRefundOf", inPlace := ["internal/reflectlite.ValueOf", "(internal/reflectlite.Value).Type", "(internal/reflectlite.Value).IsNil", "internal/reflectlite.TypeOf", "(internal/reflectlite.Value).Elem", "(internal/reflectlite.Value).Set"], unfollowed := true, recurses := true, named := ["errors.errorType"], apart := false, laid := [("errors.errorType", laid_errors_errorType)], narrowed := true }
def FnExactRefundOfUptoSaid : Prop := fnExactRefundOfUptoRow.holds Tryd.pinned (OpenSpec.upto fnExactRefundOfSpec)

end Rows
end Go.Proofs.YtgimpmdiilmkoaaDoor
