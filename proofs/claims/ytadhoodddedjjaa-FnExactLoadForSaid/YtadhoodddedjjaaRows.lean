/-
  No cell of these rows narrows 'for every input' (looked for: loops, veiled, ifaces, maps, wideKeys, modest, calm, conditions, laid).
  DERIVED. THE GIVEN ROWS OF THIS SEAT. 10 by the template 'for every input the law returns true; each argument reads behind the call as it read before'; 0 by the template 'total and deterministic' (their statements: YtadhoodddedjjaaTotals.lean).
  GIVEN WITH THE SEED: the statements are not yours to turn. If you find one false, say at which input.
  Laid BY PROGRAM, IN A SANDBOX (cutbox-rows.mjs): the forced cells as the released guide's own fill.sh prints them over the translation 1fda4cff3a633a8f… (all of the seat's roots in one cut). By AI agents, Wed Nov 11 2026. No macro, syntax, notation, axiom, sorry.
-/
import Derived.Test.YtadhoodddedjjaaChecked
import GoSem.Claim
import GoSem.ClaimJoined
import GoSem.ClaimMapViews
import Derived.JoinedTies
import Derived.KernelRfl
namespace Go.Proofs.Ytadhoodddedjjaa
/- THE CELL 'sum', in the pinned program and in every row, IS THE sha256 OF THE DUMP (.gsa) THAT YtadhoodddedjjaaProg.lean LOADS. Nothing in Lean hashes anything: it is a label: what it is worth is what the hold of that sum in a sandbox is worth. -/
noncomputable def Try.pinned : Pinned := { name := "ytadhoodddedjjaa", sum := "1fda4cff3a633a8ff873d56e5e6ffb461a348af2d86ef8154a23b022f5264b5b", checked := Try.checked }
namespace Rows
def none {H : Type} : Left H := { results := [], args := [] }

/-- 'laws.FnExactValidParcels': WHATEVER THE INPUT: true; the input reads as it did. -/
def fnExactValidParcelsSpec : ChangeSpec := { name := "fnExactValidParcels", fn := fun _ => fun
  | [d] => { results := [.lit (.bool true)], args := [d] }
  | _ => none }
def fnExactValidParcelsRow : OpenClaim := { program := "ytadhoodddedjjaa", sum := "1fda4cff3a633a8ff873d56e5e6ffb461a348af2d86ef8154a23b022f5264b5b", func := "loop.example/g01366/laws.FnExactValidParcels", spec := "fnExactValidParcels", plainKeys := false, apart := false }
def FnExactValidParcelsSaid : Prop := fnExactValidParcelsRow.holds Try.pinned (OpenSpec.ofChange fnExactValidParcelsSpec)

/-- ITS FALSE NEIGHBOUR: 'it returns false'. Refute it at one input. -/
def fnExactValidParcelsWrong : ChangeSpec := { name := "fnExactValidParcels", fn := fun _ => fun
  | [d] => { results := [.lit (.bool false)], args := [d] }
  | _ => none }
def FnExactValidParcelsWrongFalsely : Prop := fnExactValidParcelsRow.holds Try.pinned (OpenSpec.ofChange fnExactValidParcelsWrong)

/-- 'laws.FnExactStopsOf': WHATEVER THE INPUT: true; the input reads as it did. -/
def fnExactStopsOfSpec : ChangeSpec := { name := "fnExactStopsOf", fn := fun _ => fun
  | [d] => { results := [.lit (.bool true)], args := [d] }
  | _ => none }
def fnExactStopsOfRow : OpenClaim := { program := "ytadhoodddedjjaa", sum := "1fda4cff3a633a8ff873d56e5e6ffb461a348af2d86ef8154a23b022f5264b5b", func := "loop.example/g01366/laws.FnExactStopsOf", spec := "fnExactStopsOf", plainKeys := false, apart := false }
def FnExactStopsOfSaid : Prop := fnExactStopsOfRow.holds Try.pinned (OpenSpec.ofChange fnExactStopsOfSpec)

/-- ITS FALSE NEIGHBOUR: 'it returns false'. Refute it at one input. -/
def fnExactStopsOfWrong : ChangeSpec := { name := "fnExactStopsOf", fn := fun _ => fun
  | [d] => { results := [.lit (.bool false)], args := [d] }
  | _ => none }
def FnExactStopsOfWrongFalsely : Prop := fnExactStopsOfRow.holds Try.pinned (OpenSpec.ofChange fnExactStopsOfWrong)

/-- 'laws.FnExactWeightAt': WHATEVER THE INPUT: true; the input reads as it did. -/
def fnExactWeightAtSpec : ChangeSpec := { name := "fnExactWeightAt", fn := fun _ => fun
  | [d1, d2] => { results := [.lit (.bool true)], args := [d1, d2] }
  | _ => none }
def fnExactWeightAtRow : OpenClaim := { program := "ytadhoodddedjjaa", sum := "1fda4cff3a633a8ff873d56e5e6ffb461a348af2d86ef8154a23b022f5264b5b", func := "loop.example/g01366/laws.FnExactWeightAt", spec := "fnExactWeightAt", plainKeys := false, apart := false }
def FnExactWeightAtSaid : Prop := fnExactWeightAtRow.holds Try.pinned (OpenSpec.ofChange fnExactWeightAtSpec)

/-- ITS FALSE NEIGHBOUR: 'it returns false'. Refute it at one input. -/
def fnExactWeightAtWrong : ChangeSpec := { name := "fnExactWeightAt", fn := fun _ => fun
  | [d1, d2] => { results := [.lit (.bool false)], args := [d1, d2] }
  | _ => none }
def FnExactWeightAtWrongFalsely : Prop := fnExactWeightAtRow.holds Try.pinned (OpenSpec.ofChange fnExactWeightAtWrong)

/-- 'laws.FnExactLoadFor': WHATEVER THE INPUT: true; the input reads as it did. -/
def fnExactLoadForSpec : ChangeSpec := { name := "fnExactLoadFor", fn := fun _ => fun
  | [d] => { results := [.lit (.bool true)], args := [d] }
  | _ => none }
def fnExactLoadForRow : OpenClaim := { program := "ytadhoodddedjjaa", sum := "1fda4cff3a633a8ff873d56e5e6ffb461a348af2d86ef8154a23b022f5264b5b", func := "loop.example/g01366/laws.FnExactLoadFor", spec := "fnExactLoadFor", unfollowed := true, recurses := true, plainKeys := false, apart := false }
def FnExactLoadForSaid : Prop := fnExactLoadForRow.holds Try.pinned (OpenSpec.ofChange fnExactLoadForSpec)

/-- ITS FALSE NEIGHBOUR: 'it returns false'. Refute it at one input. -/
def fnExactLoadForWrong : ChangeSpec := { name := "fnExactLoadFor", fn := fun _ => fun
  | [d] => { results := [.lit (.bool false)], args := [d] }
  | _ => none }
def FnExactLoadForWrongFalsely : Prop := fnExactLoadForRow.holds Try.pinned (OpenSpec.ofChange fnExactLoadForWrong)

/-- 'laws.FnExactDiggingOf': WHATEVER THE INPUT: true; the input reads as it did. -/
def fnExactDiggingOfSpec : ChangeSpec := { name := "fnExactDiggingOf", fn := fun _ => fun
  | [d1, d2, d3] => { results := [.lit (.bool true)], args := [d1, d2, d3] }
  | _ => none }
def fnExactDiggingOfRow : OpenClaim := { program := "ytadhoodddedjjaa", sum := "1fda4cff3a633a8ff873d56e5e6ffb461a348af2d86ef8154a23b022f5264b5b", func := "loop.example/g01366/laws.FnExactDiggingOf", spec := "fnExactDiggingOf", unfollowed := true, recurses := true, plainKeys := false, apart := false }
def FnExactDiggingOfSaid : Prop := fnExactDiggingOfRow.holds Try.pinned (OpenSpec.ofChange fnExactDiggingOfSpec)

/-- ITS FALSE NEIGHBOUR: 'it returns false'. Refute it at one input. -/
def fnExactDiggingOfWrong : ChangeSpec := { name := "fnExactDiggingOf", fn := fun _ => fun
  | [d1, d2, d3] => { results := [.lit (.bool false)], args := [d1, d2, d3] }
  | _ => none }
def FnExactDiggingOfWrongFalsely : Prop := fnExactDiggingOfRow.holds Try.pinned (OpenSpec.ofChange fnExactDiggingOfWrong)

/-- 'laws.FnExactWalkOf': WHATEVER THE INPUT: true; the input reads as it did. -/
def fnExactWalkOfSpec : ChangeSpec := { name := "fnExactWalkOf", fn := fun _ => fun
  | [d1, d2] => { results := [.lit (.bool true)], args := [d1, d2] }
  | _ => none }
def fnExactWalkOfRow : OpenClaim := { program := "ytadhoodddedjjaa", sum := "1fda4cff3a633a8ff873d56e5e6ffb461a348af2d86ef8154a23b022f5264b5b", func := "loop.example/g01366/laws.FnExactWalkOf", spec := "fnExactWalkOf", unfollowed := true, recurses := true, plainKeys := false, apart := false }
def FnExactWalkOfSaid : Prop := fnExactWalkOfRow.holds Try.pinned (OpenSpec.ofChange fnExactWalkOfSpec)

/-- ITS FALSE NEIGHBOUR: 'it returns false'. Refute it at one input. -/
def fnExactWalkOfWrong : ChangeSpec := { name := "fnExactWalkOf", fn := fun _ => fun
  | [d1, d2] => { results := [.lit (.bool false)], args := [d1, d2] }
  | _ => none }
def FnExactWalkOfWrongFalsely : Prop := fnExactWalkOfRow.holds Try.pinned (OpenSpec.ofChange fnExactWalkOfWrong)

/-- 'laws.FnExactBestVisit': WHATEVER THE INPUT: true; the input reads as it did. -/
def fnExactBestVisitSpec : ChangeSpec := { name := "fnExactBestVisit", fn := fun _ => fun
  | [d1, d2, d3] => { results := [.lit (.bool true)], args := [d1, d2, d3] }
  | _ => none }
def fnExactBestVisitRow : OpenClaim := { program := "ytadhoodddedjjaa", sum := "1fda4cff3a633a8ff873d56e5e6ffb461a348af2d86ef8154a23b022f5264b5b", func := "loop.example/g01366/laws.FnExactBestVisit", spec := "fnExactBestVisit", unfollowed := true, recurses := true, plainKeys := false, apart := false }
def FnExactBestVisitSaid : Prop := fnExactBestVisitRow.holds Try.pinned (OpenSpec.ofChange fnExactBestVisitSpec)

/-- ITS FALSE NEIGHBOUR: 'it returns false'. Refute it at one input. -/
def fnExactBestVisitWrong : ChangeSpec := { name := "fnExactBestVisit", fn := fun _ => fun
  | [d1, d2, d3] => { results := [.lit (.bool false)], args := [d1, d2, d3] }
  | _ => none }
def FnExactBestVisitWrongFalsely : Prop := fnExactBestVisitRow.holds Try.pinned (OpenSpec.ofChange fnExactBestVisitWrong)

/-- 'laws.FnExactSplitRound': WHATEVER THE INPUT: true; the input reads as it did. -/
def fnExactSplitRoundSpec : ChangeSpec := { name := "fnExactSplitRound", fn := fun _ => fun
  | [d1, d2] => { results := [.lit (.bool true)], args := [d1, d2] }
  | _ => none }
def fnExactSplitRoundRow : OpenClaim := { program := "ytadhoodddedjjaa", sum := "1fda4cff3a633a8ff873d56e5e6ffb461a348af2d86ef8154a23b022f5264b5b", func := "loop.example/g01366/laws.FnExactSplitRound", spec := "fnExactSplitRound", plainKeys := false, apart := false }
def FnExactSplitRoundSaid : Prop := fnExactSplitRoundRow.holds Try.pinned (OpenSpec.ofChange fnExactSplitRoundSpec)

/-- ITS FALSE NEIGHBOUR: 'it returns false'. Refute it at one input. -/
def fnExactSplitRoundWrong : ChangeSpec := { name := "fnExactSplitRound", fn := fun _ => fun
  | [d1, d2] => { results := [.lit (.bool false)], args := [d1, d2] }
  | _ => none }
def FnExactSplitRoundWrongFalsely : Prop := fnExactSplitRoundRow.holds Try.pinned (OpenSpec.ofChange fnExactSplitRoundWrong)

/-- 'laws.FnExactLeastHeaviest': WHATEVER THE INPUT: true; the input reads as it did. -/
def fnExactLeastHeaviestSpec : ChangeSpec := { name := "fnExactLeastHeaviest", fn := fun _ => fun
  | [d1, d2] => { results := [.lit (.bool true)], args := [d1, d2] }
  | _ => none }
def fnExactLeastHeaviestRow : OpenClaim := { program := "ytadhoodddedjjaa", sum := "1fda4cff3a633a8ff873d56e5e6ffb461a348af2d86ef8154a23b022f5264b5b", func := "loop.example/g01366/laws.FnExactLeastHeaviest", spec := "fnExactLeastHeaviest", unfollowed := true, recurses := true, plainKeys := false, apart := false }
def FnExactLeastHeaviestSaid : Prop := fnExactLeastHeaviestRow.holds Try.pinned (OpenSpec.ofChange fnExactLeastHeaviestSpec)

/-- ITS FALSE NEIGHBOUR: 'it returns false'. Refute it at one input. -/
def fnExactLeastHeaviestWrong : ChangeSpec := { name := "fnExactLeastHeaviest", fn := fun _ => fun
  | [d1, d2] => { results := [.lit (.bool false)], args := [d1, d2] }
  | _ => none }
def FnExactLeastHeaviestWrongFalsely : Prop := fnExactLeastHeaviestRow.holds Try.pinned (OpenSpec.ofChange fnExactLeastHeaviestWrong)

/-- 'laws.FnExactValidBags': WHATEVER THE INPUT: true; the input reads as it did. -/
def fnExactValidBagsSpec : ChangeSpec := { name := "fnExactValidBags", fn := fun _ => fun
  | [d] => { results := [.lit (.bool true)], args := [d] }
  | _ => none }
def fnExactValidBagsRow : OpenClaim := { program := "ytadhoodddedjjaa", sum := "1fda4cff3a633a8ff873d56e5e6ffb461a348af2d86ef8154a23b022f5264b5b", func := "loop.example/g01366/laws.FnExactValidBags", spec := "fnExactValidBags", plainKeys := false, apart := false }
def FnExactValidBagsSaid : Prop := fnExactValidBagsRow.holds Try.pinned (OpenSpec.ofChange fnExactValidBagsSpec)

/-- ITS FALSE NEIGHBOUR: 'it returns false'. Refute it at one input. -/
def fnExactValidBagsWrong : ChangeSpec := { name := "fnExactValidBags", fn := fun _ => fun
  | [d] => { results := [.lit (.bool false)], args := [d] }
  | _ => none }
def FnExactValidBagsWrongFalsely : Prop := fnExactValidBagsRow.holds Try.pinned (OpenSpec.ofChange fnExactValidBagsWrong)

/- THE SECOND FORM. 'bulk': how many values and letters a reading holds, each counted each time it is reached (what is shared counts as often as it is met; a slice's spare places count too). A statement '..UptoSaid' is the law's where the arguments, and the package variables that the reading takes, are together of bulk at most 1048576: NARROWER than '..Said'. Prove '..Said' where nothing that the law and all that it calls make is longer than what came in: it says more and counts as full. Else prove '..UptoSaid'. A law counts once. -/
mutual
def uptoBulk {H : Type} : DataW H → Nat
  | .lit (.string bytes) => bytes.length + 1
  | .lit _ => 1
  | .nil => 1
  | .ptr d => uptoBulk d + 1
  | .slice elems spare => uptoBulkAll elems + uptoBulkAll spare + 1
  | .agg parts => uptoBulkAll parts + 1
  | .iface _ d => uptoBulk d + 1
  | .map entries => uptoBulkEntries entries + 1
  | .held _ => 1
def uptoBulkAll {H : Type} : List (DataW H) → Nat
  | [] => 0
  | d :: r => uptoBulk d + uptoBulkAll r
def uptoBulkEntries {H : Type} : List (Lit × DataW H) → Nat
  | [] => 0
  | x :: r => uptoBulkEntry x + uptoBulkEntries r
def uptoBulkEntry {H : Type} : Lit × DataW H → Nat
  | (.string bytes, d) => bytes.length + uptoBulk d + 1
  | (_, d) => uptoBulk d + 1
 end
def uptoSmall : (H : Type) → List (DataW H) → Bool := fun _ ds => decide (uptoBulkAll ds ≤ 1048576)
def OpenSpec.upto (s : _root_.Go.ChangeSpec) : _root_.Go.OpenSpec := { _root_.Go.OpenSpec.ofChange s with cond := some uptoSmall }

/-- 'laws.FnExactValidParcels', WHERE WHAT IT READS IS OF BULK AT MOST 1048576: true; the input reads as it did. -/
def fnExactValidParcelsUptoRow : OpenClaim := { program := "ytadhoodddedjjaa", sum := "1fda4cff3a633a8ff873d56e5e6ffb461a348af2d86ef8154a23b022f5264b5b", func := "loop.example/g01366/laws.FnExactValidParcels", spec := "fnExactValidParcels", plainKeys := false, apart := false, narrowed := true }
def FnExactValidParcelsUptoSaid : Prop := fnExactValidParcelsUptoRow.holds Try.pinned (OpenSpec.upto fnExactValidParcelsSpec)

/-- 'laws.FnExactStopsOf', WHERE WHAT IT READS IS OF BULK AT MOST 1048576: true; the input reads as it did. -/
def fnExactStopsOfUptoRow : OpenClaim := { program := "ytadhoodddedjjaa", sum := "1fda4cff3a633a8ff873d56e5e6ffb461a348af2d86ef8154a23b022f5264b5b", func := "loop.example/g01366/laws.FnExactStopsOf", spec := "fnExactStopsOf", plainKeys := false, apart := false, narrowed := true }
def FnExactStopsOfUptoSaid : Prop := fnExactStopsOfUptoRow.holds Try.pinned (OpenSpec.upto fnExactStopsOfSpec)

/-- 'laws.FnExactWeightAt', WHERE WHAT IT READS IS OF BULK AT MOST 1048576: true; the input reads as it did. -/
def fnExactWeightAtUptoRow : OpenClaim := { program := "ytadhoodddedjjaa", sum := "1fda4cff3a633a8ff873d56e5e6ffb461a348af2d86ef8154a23b022f5264b5b", func := "loop.example/g01366/laws.FnExactWeightAt", spec := "fnExactWeightAt", plainKeys := false, apart := false, narrowed := true }
def FnExactWeightAtUptoSaid : Prop := fnExactWeightAtUptoRow.holds Try.pinned (OpenSpec.upto fnExactWeightAtSpec)

/-- 'laws.FnExactLoadFor', WHERE WHAT IT READS IS OF BULK AT MOST 1048576: true; the input reads as it did. -/
def fnExactLoadForUptoRow : OpenClaim := { program := "ytadhoodddedjjaa", sum := "1fda4cff3a633a8ff873d56e5e6ffb461a348af2d86ef8154a23b022f5264b5b", func := "loop.example/g01366/laws.FnExactLoadFor", spec := "fnExactLoadFor", unfollowed := true, recurses := true, plainKeys := false, apart := false, narrowed := true }
def FnExactLoadForUptoSaid : Prop := fnExactLoadForUptoRow.holds Try.pinned (OpenSpec.upto fnExactLoadForSpec)

/-- 'laws.FnExactDiggingOf', WHERE WHAT IT READS IS OF BULK AT MOST 1048576: true; the input reads as it did. -/
def fnExactDiggingOfUptoRow : OpenClaim := { program := "ytadhoodddedjjaa", sum := "1fda4cff3a633a8ff873d56e5e6ffb461a348af2d86ef8154a23b022f5264b5b", func := "loop.example/g01366/laws.FnExactDiggingOf", spec := "fnExactDiggingOf", unfollowed := true, recurses := true, plainKeys := false, apart := false, narrowed := true }
def FnExactDiggingOfUptoSaid : Prop := fnExactDiggingOfUptoRow.holds Try.pinned (OpenSpec.upto fnExactDiggingOfSpec)

/-- 'laws.FnExactWalkOf', WHERE WHAT IT READS IS OF BULK AT MOST 1048576: true; the input reads as it did. -/
def fnExactWalkOfUptoRow : OpenClaim := { program := "ytadhoodddedjjaa", sum := "1fda4cff3a633a8ff873d56e5e6ffb461a348af2d86ef8154a23b022f5264b5b", func := "loop.example/g01366/laws.FnExactWalkOf", spec := "fnExactWalkOf", unfollowed := true, recurses := true, plainKeys := false, apart := false, narrowed := true }
def FnExactWalkOfUptoSaid : Prop := fnExactWalkOfUptoRow.holds Try.pinned (OpenSpec.upto fnExactWalkOfSpec)

/-- 'laws.FnExactBestVisit', WHERE WHAT IT READS IS OF BULK AT MOST 1048576: true; the input reads as it did. -/
def fnExactBestVisitUptoRow : OpenClaim := { program := "ytadhoodddedjjaa", sum := "1fda4cff3a633a8ff873d56e5e6ffb461a348af2d86ef8154a23b022f5264b5b", func := "loop.example/g01366/laws.FnExactBestVisit", spec := "fnExactBestVisit", unfollowed := true, recurses := true, plainKeys := false, apart := false, narrowed := true }
def FnExactBestVisitUptoSaid : Prop := fnExactBestVisitUptoRow.holds Try.pinned (OpenSpec.upto fnExactBestVisitSpec)

/-- 'laws.FnExactSplitRound', WHERE WHAT IT READS IS OF BULK AT MOST 1048576: true; the input reads as it did. -/
def fnExactSplitRoundUptoRow : OpenClaim := { program := "ytadhoodddedjjaa", sum := "1fda4cff3a633a8ff873d56e5e6ffb461a348af2d86ef8154a23b022f5264b5b", func := "loop.example/g01366/laws.FnExactSplitRound", spec := "fnExactSplitRound", plainKeys := false, apart := false, narrowed := true }
def FnExactSplitRoundUptoSaid : Prop := fnExactSplitRoundUptoRow.holds Try.pinned (OpenSpec.upto fnExactSplitRoundSpec)

/-- 'laws.FnExactLeastHeaviest', WHERE WHAT IT READS IS OF BULK AT MOST 1048576: true; the input reads as it did. -/
def fnExactLeastHeaviestUptoRow : OpenClaim := { program := "ytadhoodddedjjaa", sum := "1fda4cff3a633a8ff873d56e5e6ffb461a348af2d86ef8154a23b022f5264b5b", func := "loop.example/g01366/laws.FnExactLeastHeaviest", spec := "fnExactLeastHeaviest", unfollowed := true, recurses := true, plainKeys := false, apart := false, narrowed := true }
def FnExactLeastHeaviestUptoSaid : Prop := fnExactLeastHeaviestUptoRow.holds Try.pinned (OpenSpec.upto fnExactLeastHeaviestSpec)

/-- 'laws.FnExactValidBags', WHERE WHAT IT READS IS OF BULK AT MOST 1048576: true; the input reads as it did. -/
def fnExactValidBagsUptoRow : OpenClaim := { program := "ytadhoodddedjjaa", sum := "1fda4cff3a633a8ff873d56e5e6ffb461a348af2d86ef8154a23b022f5264b5b", func := "loop.example/g01366/laws.FnExactValidBags", spec := "fnExactValidBags", plainKeys := false, apart := false, narrowed := true }
def FnExactValidBagsUptoSaid : Prop := fnExactValidBagsUptoRow.holds Try.pinned (OpenSpec.upto fnExactValidBagsSpec)

end Rows
end Go.Proofs.Ytadhoodddedjjaa
