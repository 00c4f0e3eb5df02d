/-
  No cell of these rows narrows 'for every input' (looked for: loops, veiled, ifaces, maps, wideKeys, modest, calm, conditions, laid).
  DERIVED. THE GIVEN ROWS OF THIS SEAT. 11 by the template 'for every input the law returns true; each argument reads behind the call as it read before'; 0 by the template 'total and deterministic' (their statements: YtloelbaaolhlhaaTotals.lean).
  GIVEN WITH THE SEED: the statements are not yours to turn. If you find one false, say at which input.
  Laid BY PROGRAM, IN A SANDBOX (cutbox-rows.mjs): the forced cells as the released guide's own fill.sh prints them over the translation 5f4203490b69658a… (all of the seat's roots in one cut). By AI agents, Wed Nov 11 2026. No macro, syntax, notation, axiom, sorry.
-/
import Derived.Test.YtloelbaaolhlhaaChecked
import GoSem.Claim
import GoSem.ClaimJoined
import GoSem.ClaimMapViews
import Derived.JoinedTies
import Derived.KernelRfl
namespace Go.Proofs.Ytloelbaaolhlhaa
/- THE CELL 'sum', in the pinned program and in every row, IS THE sha256 OF THE DUMP (.gsa) THAT YtloelbaaolhlhaaProg.lean LOADS. Nothing in Lean hashes anything: it is a label: what it is worth is what the hold of that sum in a sandbox is worth. -/
noncomputable def Try.pinned : Pinned := { name := "ytloelbaaolhlhaa", sum := "5f4203490b69658afb753ea47ac5ec30ede441d975f92b7b31f5cefc3addecc9", checked := Try.checked }
namespace Rows
def none {H : Type} : Left H := { results := [], args := [] }

/-- 'laws.FnExactEarliestAt': WHATEVER THE INPUT: true; the input reads as it did. -/
def fnExactEarliestAtSpec : ChangeSpec := { name := "fnExactEarliestAt", fn := fun _ => fun
  | [d1, d2] => { results := [.lit (.bool true)], args := [d1, d2] }
  | _ => none }
def fnExactEarliestAtRow : OpenClaim := { program := "ytloelbaaolhlhaa", sum := "5f4203490b69658afb753ea47ac5ec30ede441d975f92b7b31f5cefc3addecc9", func := "loop.example/g01366/laws.FnExactEarliestAt", spec := "fnExactEarliestAt", unfollowed := true, recurses := true, plainKeys := false, apart := false }
def FnExactEarliestAtSaid : Prop := fnExactEarliestAtRow.holds Try.pinned (OpenSpec.ofChange fnExactEarliestAtSpec)

/-- ITS FALSE NEIGHBOUR: 'it returns false'. Refute it at one input. -/
def fnExactEarliestAtWrong : ChangeSpec := { name := "fnExactEarliestAt", fn := fun _ => fun
  | [d1, d2] => { results := [.lit (.bool false)], args := [d1, d2] }
  | _ => none }
def FnExactEarliestAtWrongFalsely : Prop := fnExactEarliestAtRow.holds Try.pinned (OpenSpec.ofChange fnExactEarliestAtWrong)

/-- 'laws.FnExactRouteTimes': WHATEVER THE INPUT: true; the input reads as it did. -/
def fnExactRouteTimesSpec : ChangeSpec := { name := "fnExactRouteTimes", fn := fun _ => fun
  | [d1, d2, d3] => { results := [.lit (.bool true)], args := [d1, d2, d3] }
  | _ => none }
def fnExactRouteTimesRow : OpenClaim := { program := "ytloelbaaolhlhaa", sum := "5f4203490b69658afb753ea47ac5ec30ede441d975f92b7b31f5cefc3addecc9", func := "loop.example/g01366/laws.FnExactRouteTimes", spec := "fnExactRouteTimes", plainKeys := false, apart := false }
def FnExactRouteTimesSaid : Prop := fnExactRouteTimesRow.holds Try.pinned (OpenSpec.ofChange fnExactRouteTimesSpec)

/-- ITS FALSE NEIGHBOUR: 'it returns false'. Refute it at one input. -/
def fnExactRouteTimesWrong : ChangeSpec := { name := "fnExactRouteTimes", fn := fun _ => fun
  | [d1, d2, d3] => { results := [.lit (.bool false)], args := [d1, d2, d3] }
  | _ => none }
def FnExactRouteTimesWrongFalsely : Prop := fnExactRouteTimesRow.holds Try.pinned (OpenSpec.ofChange fnExactRouteTimesWrong)

/-- 'laws.FnExactIsLate': WHATEVER THE INPUT: true; the input reads as it did. -/
def fnExactIsLateSpec : ChangeSpec := { name := "fnExactIsLate", fn := fun _ => fun
  | [d1, d2, d3, d4] => { results := [.lit (.bool true)], args := [d1, d2, d3, d4] }
  | _ => none }
def fnExactIsLateRow : OpenClaim := { program := "ytloelbaaolhlhaa", sum := "5f4203490b69658afb753ea47ac5ec30ede441d975f92b7b31f5cefc3addecc9", func := "loop.example/g01366/laws.FnExactIsLate", spec := "fnExactIsLate", unfollowed := true, recurses := true, plainKeys := false, apart := false }
def FnExactIsLateSaid : Prop := fnExactIsLateRow.holds Try.pinned (OpenSpec.ofChange fnExactIsLateSpec)

/-- ITS FALSE NEIGHBOUR: 'it returns false'. Refute it at one input. -/
def fnExactIsLateWrong : ChangeSpec := { name := "fnExactIsLate", fn := fun _ => fun
  | [d1, d2, d3, d4] => { results := [.lit (.bool false)], args := [d1, d2, d3, d4] }
  | _ => none }
def FnExactIsLateWrongFalsely : Prop := fnExactIsLateRow.holds Try.pinned (OpenSpec.ofChange fnExactIsLateWrong)

/-- 'laws.FnExactCheckScans': WHATEVER THE INPUT: true; the input reads as it did. -/
def fnExactCheckScansSpec : ChangeSpec := { name := "fnExactCheckScans", fn := fun _ => fun
  | [d1, d2] => { results := [.lit (.bool true)], args := [d1, d2] }
  | _ => none }
def fnExactCheckScansRow : OpenClaim := { program := "ytloelbaaolhlhaa", sum := "5f4203490b69658afb753ea47ac5ec30ede441d975f92b7b31f5cefc3addecc9", func := "loop.example/g01366/laws.FnExactCheckScans", spec := "fnExactCheckScans", unfollowed := true, recurses := true, plainKeys := false, apart := false }
def FnExactCheckScansSaid : Prop := fnExactCheckScansRow.holds Try.pinned (OpenSpec.ofChange fnExactCheckScansSpec)

/-- ITS FALSE NEIGHBOUR: 'it returns false'. Refute it at one input. -/
def fnExactCheckScansWrong : ChangeSpec := { name := "fnExactCheckScans", fn := fun _ => fun
  | [d1, d2] => { results := [.lit (.bool false)], args := [d1, d2] }
  | _ => none }
def FnExactCheckScansWrongFalsely : Prop := fnExactCheckScansRow.holds Try.pinned (OpenSpec.ofChange fnExactCheckScansWrong)

/-- 'laws.FnExactFirstBadScan': WHATEVER THE INPUT: true; the input reads as it did. -/
def fnExactFirstBadScanSpec : ChangeSpec := { name := "fnExactFirstBadScan", fn := fun _ => fun
  | [d1, d2] => { results := [.lit (.bool true)], args := [d1, d2] }
  | _ => none }
def fnExactFirstBadScanRow : OpenClaim := { program := "ytloelbaaolhlhaa", sum := "5f4203490b69658afb753ea47ac5ec30ede441d975f92b7b31f5cefc3addecc9", func := "loop.example/g01366/laws.FnExactFirstBadScan", spec := "fnExactFirstBadScan", unfollowed := true, recurses := true, plainKeys := false, apart := false }
def FnExactFirstBadScanSaid : Prop := fnExactFirstBadScanRow.holds Try.pinned (OpenSpec.ofChange fnExactFirstBadScanSpec)

/-- ITS FALSE NEIGHBOUR: 'it returns false'. Refute it at one input. -/
def fnExactFirstBadScanWrong : ChangeSpec := { name := "fnExactFirstBadScan", fn := fun _ => fun
  | [d1, d2] => { results := [.lit (.bool false)], args := [d1, d2] }
  | _ => none }
def FnExactFirstBadScanWrongFalsely : Prop := fnExactFirstBadScanRow.holds Try.pinned (OpenSpec.ofChange fnExactFirstBadScanWrong)

/-- 'laws.FnExactMustPass': WHATEVER THE INPUT: true; the input reads as it did. -/
def fnExactMustPassSpec : ChangeSpec := { name := "fnExactMustPass", fn := fun _ => fun
  | [d1, d2, d3] => { results := [.lit (.bool true)], args := [d1, d2, d3] }
  | _ => none }
def fnExactMustPassRow : OpenClaim := { program := "ytloelbaaolhlhaa", sum := "5f4203490b69658afb753ea47ac5ec30ede441d975f92b7b31f5cefc3addecc9", func := "loop.example/g01366/laws.FnExactMustPass", spec := "fnExactMustPass", unfollowed := true, recurses := true, plainKeys := false, apart := false }
def FnExactMustPassSaid : Prop := fnExactMustPassRow.holds Try.pinned (OpenSpec.ofChange fnExactMustPassSpec)

/-- ITS FALSE NEIGHBOUR: 'it returns false'. Refute it at one input. -/
def fnExactMustPassWrong : ChangeSpec := { name := "fnExactMustPass", fn := fun _ => fun
  | [d1, d2, d3] => { results := [.lit (.bool false)], args := [d1, d2, d3] }
  | _ => none }
def FnExactMustPassWrongFalsely : Prop := fnExactMustPassRow.holds Try.pinned (OpenSpec.ofChange fnExactMustPassWrong)

/-- 'laws.FnExactWhereAt': WHATEVER THE INPUT: true; the input reads as it did. -/
def fnExactWhereAtSpec : ChangeSpec := { name := "fnExactWhereAt", fn := fun _ => fun
  | [d1, d2, d3] => { results := [.lit (.bool true)], args := [d1, d2, d3] }
  | _ => none }
def fnExactWhereAtRow : OpenClaim := { program := "ytloelbaaolhlhaa", sum := "5f4203490b69658afb753ea47ac5ec30ede441d975f92b7b31f5cefc3addecc9", func := "loop.example/g01366/laws.FnExactWhereAt", spec := "fnExactWhereAt", unfollowed := true, recurses := true, plainKeys := false, apart := false }
def FnExactWhereAtSaid : Prop := fnExactWhereAtRow.holds Try.pinned (OpenSpec.ofChange fnExactWhereAtSpec)

/-- ITS FALSE NEIGHBOUR: 'it returns false'. Refute it at one input. -/
def fnExactWhereAtWrong : ChangeSpec := { name := "fnExactWhereAt", fn := fun _ => fun
  | [d1, d2, d3] => { results := [.lit (.bool false)], args := [d1, d2, d3] }
  | _ => none }
def FnExactWhereAtWrongFalsely : Prop := fnExactWhereAtRow.holds Try.pinned (OpenSpec.ofChange fnExactWhereAtWrong)

/-- 'laws.FnExactSortScans': WHATEVER THE INPUT: true; the input reads as it did. -/
def fnExactSortScansSpec : ChangeSpec := { name := "fnExactSortScans", fn := fun _ => fun
  | [d1, d2] => { results := [.lit (.bool true)], args := [d1, d2] }
  | _ => none }
def fnExactSortScansRow : OpenClaim := { program := "ytloelbaaolhlhaa", sum := "5f4203490b69658afb753ea47ac5ec30ede441d975f92b7b31f5cefc3addecc9", func := "loop.example/g01366/laws.FnExactSortScans", spec := "fnExactSortScans", unfollowed := true, recurses := true, plainKeys := false, apart := false }
def FnExactSortScansSaid : Prop := fnExactSortScansRow.holds Try.pinned (OpenSpec.ofChange fnExactSortScansSpec)

/-- ITS FALSE NEIGHBOUR: 'it returns false'. Refute it at one input. -/
def fnExactSortScansWrong : ChangeSpec := { name := "fnExactSortScans", fn := fun _ => fun
  | [d1, d2] => { results := [.lit (.bool false)], args := [d1, d2] }
  | _ => none }
def FnExactSortScansWrongFalsely : Prop := fnExactSortScansRow.holds Try.pinned (OpenSpec.ofChange fnExactSortScansWrong)

/-- 'laws.FnExactFalseScans': WHATEVER THE INPUT: true; the input reads as it did. -/
def fnExactFalseScansSpec : ChangeSpec := { name := "fnExactFalseScans", fn := fun _ => fun
  | [d1, d2] => { results := [.lit (.bool true)], args := [d1, d2] }
  | _ => none }
def fnExactFalseScansRow : OpenClaim := { program := "ytloelbaaolhlhaa", sum := "5f4203490b69658afb753ea47ac5ec30ede441d975f92b7b31f5cefc3addecc9", func := "loop.example/g01366/laws.FnExactFalseScans", spec := "fnExactFalseScans", unfollowed := true, recurses := true, plainKeys := false, apart := false }
def FnExactFalseScansSaid : Prop := fnExactFalseScansRow.holds Try.pinned (OpenSpec.ofChange fnExactFalseScansSpec)

/-- ITS FALSE NEIGHBOUR: 'it returns false'. Refute it at one input. -/
def fnExactFalseScansWrong : ChangeSpec := { name := "fnExactFalseScans", fn := fun _ => fun
  | [d1, d2] => { results := [.lit (.bool false)], args := [d1, d2] }
  | _ => none }
def FnExactFalseScansWrongFalsely : Prop := fnExactFalseScansRow.holds Try.pinned (OpenSpec.ofChange fnExactFalseScansWrong)

/-- 'laws.FnExactMostScans': WHATEVER THE INPUT: true; the input reads as it did. -/
def fnExactMostScansSpec : ChangeSpec := { name := "fnExactMostScans", fn := fun _ => fun
  | [d1, d2] => { results := [.lit (.bool true)], args := [d1, d2] }
  | _ => none }
def fnExactMostScansRow : OpenClaim := { program := "ytloelbaaolhlhaa", sum := "5f4203490b69658afb753ea47ac5ec30ede441d975f92b7b31f5cefc3addecc9", func := "loop.example/g01366/laws.FnExactMostScans", spec := "fnExactMostScans", unfollowed := true, recurses := true, plainKeys := false, apart := false }
def FnExactMostScansSaid : Prop := fnExactMostScansRow.holds Try.pinned (OpenSpec.ofChange fnExactMostScansSpec)

/-- ITS FALSE NEIGHBOUR: 'it returns false'. Refute it at one input. -/
def fnExactMostScansWrong : ChangeSpec := { name := "fnExactMostScans", fn := fun _ => fun
  | [d1, d2] => { results := [.lit (.bool false)], args := [d1, d2] }
  | _ => none }
def FnExactMostScansWrongFalsely : Prop := fnExactMostScansRow.holds Try.pinned (OpenSpec.ofChange fnExactMostScansWrong)

/-- 'laws.FnExactFewestLanes': WHATEVER THE INPUT: true; the input reads as it did. -/
def fnExactFewestLanesSpec : ChangeSpec := { name := "fnExactFewestLanes", fn := fun _ => fun
  | [d1, d2, d3] => { results := [.lit (.bool true)], args := [d1, d2, d3] }
  | _ => none }
def fnExactFewestLanesRow : OpenClaim := { program := "ytloelbaaolhlhaa", sum := "5f4203490b69658afb753ea47ac5ec30ede441d975f92b7b31f5cefc3addecc9", func := "loop.example/g01366/laws.FnExactFewestLanes", spec := "fnExactFewestLanes", unfollowed := true, recurses := true, plainKeys := false, apart := false }
def FnExactFewestLanesSaid : Prop := fnExactFewestLanesRow.holds Try.pinned (OpenSpec.ofChange fnExactFewestLanesSpec)

/-- ITS FALSE NEIGHBOUR: 'it returns false'. Refute it at one input. -/
def fnExactFewestLanesWrong : ChangeSpec := { name := "fnExactFewestLanes", fn := fun _ => fun
  | [d1, d2, d3] => { results := [.lit (.bool false)], args := [d1, d2, d3] }
  | _ => none }
def FnExactFewestLanesWrongFalsely : Prop := fnExactFewestLanesRow.holds Try.pinned (OpenSpec.ofChange fnExactFewestLanesWrong)

/- THE SECOND FORM. 'bulk': how many values and letters a reading holds, each counted each time it is reached (what is shared counts as often as it is met; a slice's spare places count too). A statement '..UptoSaid' is the law's where the arguments, and the package variables that the reading takes, are together of bulk at most 1048576: NARROWER than '..Said'. Prove '..Said' where nothing that the law and all that it calls make is longer than what came in: it says more and counts as full. Else prove '..UptoSaid'. A law counts once. -/
mutual
def uptoBulk {H : Type} : DataW H → Nat
  | .lit (.string bytes) => bytes.length + 1
  | .lit _ => 1
  | .nil => 1
  | .ptr d => uptoBulk d + 1
  | .slice elems spare => uptoBulkAll elems + uptoBulkAll spare + 1
  | .agg parts => uptoBulkAll parts + 1
  | .iface _ d => uptoBulk d + 1
  | .map entries => uptoBulkEntries entries + 1
  | .held _ => 1
def uptoBulkAll {H : Type} : List (DataW H) → Nat
  | [] => 0
  | d :: r => uptoBulk d + uptoBulkAll r
def uptoBulkEntries {H : Type} : List (Lit × DataW H) → Nat
  | [] => 0
  | x :: r => uptoBulkEntry x + uptoBulkEntries r
def uptoBulkEntry {H : Type} : Lit × DataW H → Nat
  | (.string bytes, d) => bytes.length + uptoBulk d + 1
  | (_, d) => uptoBulk d + 1
 end
def uptoSmall : (H : Type) → List (DataW H) → Bool := fun _ ds => decide (uptoBulkAll ds ≤ 1048576)
def OpenSpec.upto (s : _root_.Go.ChangeSpec) : _root_.Go.OpenSpec := { _root_.Go.OpenSpec.ofChange s with cond := some uptoSmall }

/-- 'laws.FnExactEarliestAt', WHERE WHAT IT READS IS OF BULK AT MOST 1048576: true; the input reads as it did. -/
def fnExactEarliestAtUptoRow : OpenClaim := { program := "ytloelbaaolhlhaa", sum := "5f4203490b69658afb753ea47ac5ec30ede441d975f92b7b31f5cefc3addecc9", func := "loop.example/g01366/laws.FnExactEarliestAt", spec := "fnExactEarliestAt", unfollowed := true, recurses := true, plainKeys := false, apart := false, narrowed := true }
def FnExactEarliestAtUptoSaid : Prop := fnExactEarliestAtUptoRow.holds Try.pinned (OpenSpec.upto fnExactEarliestAtSpec)

/-- 'laws.FnExactRouteTimes', WHERE WHAT IT READS IS OF BULK AT MOST 1048576: true; the input reads as it did. -/
def fnExactRouteTimesUptoRow : OpenClaim := { program := "ytloelbaaolhlhaa", sum := "5f4203490b69658afb753ea47ac5ec30ede441d975f92b7b31f5cefc3addecc9", func := "loop.example/g01366/laws.FnExactRouteTimes", spec := "fnExactRouteTimes", plainKeys := false, apart := false, narrowed := true }
def FnExactRouteTimesUptoSaid : Prop := fnExactRouteTimesUptoRow.holds Try.pinned (OpenSpec.upto fnExactRouteTimesSpec)

/-- 'laws.FnExactIsLate', WHERE WHAT IT READS IS OF BULK AT MOST 1048576: true; the input reads as it did. -/
def fnExactIsLateUptoRow : OpenClaim := { program := "ytloelbaaolhlhaa", sum := "5f4203490b69658afb753ea47ac5ec30ede441d975f92b7b31f5cefc3addecc9", func := "loop.example/g01366/laws.FnExactIsLate", spec := "fnExactIsLate", unfollowed := true, recurses := true, plainKeys := false, apart := false, narrowed := true }
def FnExactIsLateUptoSaid : Prop := fnExactIsLateUptoRow.holds Try.pinned (OpenSpec.upto fnExactIsLateSpec)

/-- 'laws.FnExactCheckScans', WHERE WHAT IT READS IS OF BULK AT MOST 1048576: true; the input reads as it did. -/
def fnExactCheckScansUptoRow : OpenClaim := { program := "ytloelbaaolhlhaa", sum := "5f4203490b69658afb753ea47ac5ec30ede441d975f92b7b31f5cefc3addecc9", func := "loop.example/g01366/laws.FnExactCheckScans", spec := "fnExactCheckScans", unfollowed := true, recurses := true, plainKeys := false, apart := false, narrowed := true }
def FnExactCheckScansUptoSaid : Prop := fnExactCheckScansUptoRow.holds Try.pinned (OpenSpec.upto fnExactCheckScansSpec)

/-- 'laws.FnExactFirstBadScan', WHERE WHAT IT READS IS OF BULK AT MOST 1048576: true; the input reads as it did. -/
def fnExactFirstBadScanUptoRow : OpenClaim := { program := "ytloelbaaolhlhaa", sum := "5f4203490b69658afb753ea47ac5ec30ede441d975f92b7b31f5cefc3addecc9", func := "loop.example/g01366/laws.FnExactFirstBadScan", spec := "fnExactFirstBadScan", unfollowed := true, recurses := true, plainKeys := false, apart := false, narrowed := true }
def FnExactFirstBadScanUptoSaid : Prop := fnExactFirstBadScanUptoRow.holds Try.pinned (OpenSpec.upto fnExactFirstBadScanSpec)

/-- 'laws.FnExactMustPass', WHERE WHAT IT READS IS OF BULK AT MOST 1048576: true; the input reads as it did. -/
def fnExactMustPassUptoRow : OpenClaim := { program := "ytloelbaaolhlhaa", sum := "5f4203490b69658afb753ea47ac5ec30ede441d975f92b7b31f5cefc3addecc9", func := "loop.example/g01366/laws.FnExactMustPass", spec := "fnExactMustPass", unfollowed := true, recurses := true, plainKeys := false, apart := false, narrowed := true }
def FnExactMustPassUptoSaid : Prop := fnExactMustPassUptoRow.holds Try.pinned (OpenSpec.upto fnExactMustPassSpec)

/-- 'laws.FnExactWhereAt', WHERE WHAT IT READS IS OF BULK AT MOST 1048576: true; the input reads as it did. -/
def fnExactWhereAtUptoRow : OpenClaim := { program := "ytloelbaaolhlhaa", sum := "5f4203490b69658afb753ea47ac5ec30ede441d975f92b7b31f5cefc3addecc9", func := "loop.example/g01366/laws.FnExactWhereAt", spec := "fnExactWhereAt", unfollowed := true, recurses := true, plainKeys := false, apart := false, narrowed := true }
def FnExactWhereAtUptoSaid : Prop := fnExactWhereAtUptoRow.holds Try.pinned (OpenSpec.upto fnExactWhereAtSpec)

/-- 'laws.FnExactSortScans', WHERE WHAT IT READS IS OF BULK AT MOST 1048576: true; the input reads as it did. -/
def fnExactSortScansUptoRow : OpenClaim := { program := "ytloelbaaolhlhaa", sum := "5f4203490b69658afb753ea47ac5ec30ede441d975f92b7b31f5cefc3addecc9", func := "loop.example/g01366/laws.FnExactSortScans", spec := "fnExactSortScans", unfollowed := true, recurses := true, plainKeys := false, apart := false, narrowed := true }
def FnExactSortScansUptoSaid : Prop := fnExactSortScansUptoRow.holds Try.pinned (OpenSpec.upto fnExactSortScansSpec)

/-- 'laws.FnExactFalseScans', WHERE WHAT IT READS IS OF BULK AT MOST 1048576: true; the input reads as it did. -/
def fnExactFalseScansUptoRow : OpenClaim := { program := "ytloelbaaolhlhaa", sum := "5f4203490b69658afb753ea47ac5ec30ede441d975f92b7b31f5cefc3addecc9", func := "loop.example/g01366/laws.FnExactFalseScans", spec := "fnExactFalseScans", unfollowed := true, recurses := true, plainKeys := false, apart := false, narrowed := true }
def FnExactFalseScansUptoSaid : Prop := fnExactFalseScansUptoRow.holds Try.pinned (OpenSpec.upto fnExactFalseScansSpec)

/-- 'laws.FnExactMostScans', WHERE WHAT IT READS IS OF BULK AT MOST 1048576: true; the input reads as it did. -/
def fnExactMostScansUptoRow : OpenClaim := { program := "ytloelbaaolhlhaa", sum := "5f4203490b69658afb753ea47ac5ec30ede441d975f92b7b31f5cefc3addecc9", func := "loop.example/g01366/laws.FnExactMostScans", spec := "fnExactMostScans", unfollowed := true, recurses := true, plainKeys := false, apart := false, narrowed := true }
def FnExactMostScansUptoSaid : Prop := fnExactMostScansUptoRow.holds Try.pinned (OpenSpec.upto fnExactMostScansSpec)

/-- 'laws.FnExactFewestLanes', WHERE WHAT IT READS IS OF BULK AT MOST 1048576: true; the input reads as it did. -/
def fnExactFewestLanesUptoRow : OpenClaim := { program := "ytloelbaaolhlhaa", sum := "5f4203490b69658afb753ea47ac5ec30ede441d975f92b7b31f5cefc3addecc9", func := "loop.example/g01366/laws.FnExactFewestLanes", spec := "fnExactFewestLanes", unfollowed := true, recurses := true, plainKeys := false, apart := false, narrowed := true }
def FnExactFewestLanesUptoSaid : Prop := fnExactFewestLanesUptoRow.holds Try.pinned (OpenSpec.upto fnExactFewestLanesSpec)

end Rows
end Go.Proofs.Ytloelbaaolhlhaa
