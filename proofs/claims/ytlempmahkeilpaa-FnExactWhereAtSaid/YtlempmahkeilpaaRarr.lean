/-
  The arrivals behind a scan, as the program finds them: names.
-/
import Derived.Test.YtlempmahkeilpaaArK
import Derived.Test.YtlempmahkeilpaaArC
namespace Go.Proofs.Ytlempmahkeilpaa
open Go Go.RowKit
set_option linter.unusedVariables false

abbrev rarr (yn : Nat) (ps : List Lan) (s0 h0 k : Nat) : List Nat := seenK (onw (hopsL (yn : Int) ps)) (onw (hopsL (yn : Int) ps) (tOf s0 h0)) k
abbrev rend (yn : Nat) (ps : List Lan) (s0 h0 k : Nat) : Prop := orT (atK (onw (hopsL (yn : Int) ps)) (onw (hopsL (yn : Int) ps) (tOf s0 h0)) k) (rarr yn ps s0 h0 k) = rarr yn ps s0 h0 k
end Go.Proofs.Ytlempmahkeilpaa
