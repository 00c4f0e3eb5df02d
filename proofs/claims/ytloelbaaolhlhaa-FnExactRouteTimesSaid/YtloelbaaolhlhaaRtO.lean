/-
  Rows of [2]int64 and what a call keeps.
-/
import Derived.Test.YtloelbaaolhlhaaRInt64A2
import Derived.Test.YtloelbaaolhlhaaKeepO
namespace Go.Proofs.Ytloelbaaolhlhaa
open Go Go.RowKit
set_option linter.unusedVariables false
theorem OwnA.out {T : TypeId} {B lo hi : Nat} {w w' : World} {v : Value} {ps : List (Int × Int)} (h : OwnA T B w v ps) (K : KeepsOut lo hi w w') (hd : ∀ k, v.ownBlock = some k → k < lo ∨ hi ≤ k) : OwnA T B w' v ps := row_out h K hd
end Go.Proofs.Ytloelbaaolhlhaa
