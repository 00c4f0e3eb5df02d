/-
  No cell of these rows narrows 'for every input' (looked for: loops, veiled, ifaces, maps, wideKeys, modest, calm, conditions, laid).
  DERIVED. THE GIVEN ROWS OF THIS SEAT. 3 by the template 'for every input the law returns true; each argument reads behind the call as it read before'; 0 by the template 'total and deterministic' (their statements: YtgimpmdiilmkoaaTotals.lean).
  GIVEN WITH THE SEED: the statements are not yours to turn. If you find one false, say at which input.
  Laid BY PROGRAM, IN A SANDBOX (cutbox-rows.mjs): the forced cells as the released guide's own fill.sh prints them over the translation f613dc493645039f… (all of the seat's roots in one cut). By AI agents, Wed Nov 11 2026. No macro, syntax, notation, axiom, sorry.
-/
import Derived.Test.YtgimpmdiilmkoaaChecked
import GoSem.Claim
import GoSem.ClaimJoined
import GoSem.ClaimMapViews
import Derived.JoinedTies
import Derived.KernelRfl
namespace Go.Proofs.Ytgimpmdiilmkoaa
/- THE CELL 'sum', in the pinned program and in every row, IS THE sha256 OF THE DUMP (.gsa) THAT YtgimpmdiilmkoaaProg.lean LOADS. Nothing in Lean hashes anything: it is a label: what it is worth is what the hold of that sum in a sandbox is worth. -/
noncomputable def Try.pinned : Pinned := { name := "ytgimpmdiilmkoaa", sum := "f613dc493645039f45e11f7df7355479260e2094a4161c84e68d0ac88e96baf8", checked := Try.checked }
namespace Rows
def none {H : Type} : Left H := { results := [], args := [] }

/-- 'laws.FnExactValidOrders': WHATEVER THE INPUT: true; the input reads as it did. -/
def fnExactValidOrdersSpec : ChangeSpec := { name := "fnExactValidOrders", fn := fun _ => fun
  | [d] => { results := [.lit (.bool true)], args := [d] }
  | _ => none }
def fnExactValidOrdersRow : OpenClaim := { program := "ytgimpmdiilmkoaa", sum := "f613dc493645039f45e11f7df7355479260e2094a4161c84e68d0ac88e96baf8", func := "loop.example/g01366/laws.FnExactValidOrders", spec := "fnExactValidOrders", apart := false }
def FnExactValidOrdersSaid : Prop := fnExactValidOrdersRow.holds Try.pinned (OpenSpec.ofChange fnExactValidOrdersSpec)

/-- ITS FALSE NEIGHBOUR: 'it returns false'. Refute it at one input. -/
def fnExactValidOrdersWrong : ChangeSpec := { name := "fnExactValidOrders", fn := fun _ => fun
  | [d] => { results := [.lit (.bool false)], args := [d] }
  | _ => none }
def FnExactValidOrdersWrongFalsely : Prop := fnExactValidOrdersRow.holds Try.pinned (OpenSpec.ofChange fnExactValidOrdersWrong)

/-- 'laws.FnExactValidReturns': WHATEVER THE INPUT: true; the input reads as it did. -/
def fnExactValidReturnsSpec : ChangeSpec := { name := "fnExactValidReturns", fn := fun _ => fun
  | [d] => { results := [.lit (.bool true)], args := [d] }
  | _ => none }
def fnExactValidReturnsRow : OpenClaim := { program := "ytgimpmdiilmkoaa", sum := "f613dc493645039f45e11f7df7355479260e2094a4161c84e68d0ac88e96baf8", func := "loop.example/g01366/laws.FnExactValidReturns", spec := "fnExactValidReturns", apart := false }
def FnExactValidReturnsSaid : Prop := fnExactValidReturnsRow.holds Try.pinned (OpenSpec.ofChange fnExactValidReturnsSpec)

/-- ITS FALSE NEIGHBOUR: 'it returns false'. Refute it at one input. -/
def fnExactValidReturnsWrong : ChangeSpec := { name := "fnExactValidReturns", fn := fun _ => fun
  | [d] => { results := [.lit (.bool false)], args := [d] }
  | _ => none }
def FnExactValidReturnsWrongFalsely : Prop := fnExactValidReturnsRow.holds Try.pinned (OpenSpec.ofChange fnExactValidReturnsWrong)

/-- 'laws.FnExactValidVouchers': WHATEVER THE INPUT: true; the input reads as it did. -/
def fnExactValidVouchersSpec : ChangeSpec := { name := "fnExactValidVouchers", fn := fun _ => fun
  | [d] => { results := [.lit (.bool true)], args := [d] }
  | _ => none }
def fnExactValidVouchersRow : OpenClaim := { program := "ytgimpmdiilmkoaa", sum := "f613dc493645039f45e11f7df7355479260e2094a4161c84e68d0ac88e96baf8", func := "loop.example/g01366/laws.FnExactValidVouchers", spec := "fnExactValidVouchers", apart := false }
def FnExactValidVouchersSaid : Prop := fnExactValidVouchersRow.holds Try.pinned (OpenSpec.ofChange fnExactValidVouchersSpec)

/-- ITS FALSE NEIGHBOUR: 'it returns false'. Refute it at one input. -/
def fnExactValidVouchersWrong : ChangeSpec := { name := "fnExactValidVouchers", fn := fun _ => fun
  | [d] => { results := [.lit (.bool false)], args := [d] }
  | _ => none }
def FnExactValidVouchersWrongFalsely : Prop := fnExactValidVouchersRow.holds Try.pinned (OpenSpec.ofChange fnExactValidVouchersWrong)

/- THE SECOND FORM. 'bulk': how many values and letters a reading holds, each counted each time it is reached (what is shared counts as often as it is met; a slice's spare places count too). A statement '..UptoSaid' is the law's where the arguments, and the package variables that the reading takes, are together of bulk at most 1048576: NARROWER than '..Said'. Prove '..Said' where nothing that the law and all that it calls make is longer than what came in: it says more and counts as full. Else prove '..UptoSaid'. A law counts once. -/
mutual
def uptoBulk {H : Type} : DataW H → Nat
  | .lit (.string bytes) => bytes.length + 1
  | .lit _ => 1
  | .nil => 1
  | .ptr d => uptoBulk d + 1
  | .slice elems spare => uptoBulkAll elems + uptoBulkAll spare + 1
  | .agg parts => uptoBulkAll parts + 1
  | .iface _ d => uptoBulk d + 1
  | .map entries => uptoBulkEntries entries + 1
  | .held _ => 1
def uptoBulkAll {H : Type} : List (DataW H) → Nat
  | [] => 0
  | d :: r => uptoBulk d + uptoBulkAll r
def uptoBulkEntries {H : Type} : List (Lit × DataW H) → Nat
  | [] => 0
  | x :: r => uptoBulkEntry x + uptoBulkEntries r
def uptoBulkEntry {H : Type} : Lit × DataW H → Nat
  | (.string bytes, d) => bytes.length + uptoBulk d + 1
  | (_, d) => uptoBulk d + 1
 end
def uptoSmall : (H : Type) → List (DataW H) → Bool := fun _ ds => decide (uptoBulkAll ds ≤ 1048576)
def OpenSpec.upto (s : _root_.Go.ChangeSpec) : _root_.Go.OpenSpec := { _root_.Go.OpenSpec.ofChange s with cond := some uptoSmall }

/-- 'laws.FnExactValidOrders', WHERE WHAT IT READS IS OF BULK AT MOST 1048576: true; the input reads as it did. -/
def fnExactValidOrdersUptoRow : OpenClaim := { program := "ytgimpmdiilmkoaa", sum := "f613dc493645039f45e11f7df7355479260e2094a4161c84e68d0ac88e96baf8", func := "loop.example/g01366/laws.FnExactValidOrders", spec := "fnExactValidOrders", apart := false, narrowed := true }
def FnExactValidOrdersUptoSaid : Prop := fnExactValidOrdersUptoRow.holds Try.pinned (OpenSpec.upto fnExactValidOrdersSpec)

/-- 'laws.FnExactValidReturns', WHERE WHAT IT READS IS OF BULK AT MOST 1048576: true; the input reads as it did. -/
def fnExactValidReturnsUptoRow : OpenClaim := { program := "ytgimpmdiilmkoaa", sum := "f613dc493645039f45e11f7df7355479260e2094a4161c84e68d0ac88e96baf8", func := "loop.example/g01366/laws.FnExactValidReturns", spec := "fnExactValidReturns", apart := false, narrowed := true }
def FnExactValidReturnsUptoSaid : Prop := fnExactValidReturnsUptoRow.holds Try.pinned (OpenSpec.upto fnExactValidReturnsSpec)

/-- 'laws.FnExactValidVouchers', WHERE WHAT IT READS IS OF BULK AT MOST 1048576: true; the input reads as it did. -/
def fnExactValidVouchersUptoRow : OpenClaim := { program := "ytgimpmdiilmkoaa", sum := "f613dc493645039f45e11f7df7355479260e2094a4161c84e68d0ac88e96baf8", func := "loop.example/g01366/laws.FnExactValidVouchers", spec := "fnExactValidVouchers", apart := false, narrowed := true }
def FnExactValidVouchersUptoSaid : Prop := fnExactValidVouchersUptoRow.holds Try.pinned (OpenSpec.upto fnExactValidVouchersSpec)

end Rows
end Go.Proofs.Ytgimpmdiilmkoaa
