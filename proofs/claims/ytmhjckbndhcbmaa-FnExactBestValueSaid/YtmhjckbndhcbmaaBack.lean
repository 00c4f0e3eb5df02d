/-
  The contract of slices.Backward at []int64: the numbers come from the last one to the first one, each with its index.
-/
import Derived.RangeFuncBox
import Derived.RangeFuncLeaves
import Derived.RangeFuncNested
import Derived.RangeFuncWrites
import Derived.Shelf.Abstract
import Derived.OwnWalkIn
import Derived.TacticsInMore
import Derived.LoopNIn
import Derived.LoopIn
import Derived.Test.YtmhjckbndhcbmaaBase
import Derived.Test.YtmhjckbndhcbmaaProg
import Derived.Test.YtmhjckbndhcbmaaKeep2
namespace Go.Proofs.Ytmhjckbndhcbmaa
open Go Go.RowKit Go.Shelf
set_option linter.unusedVariables false
attribute [local go_sem] Oper.semAt_some

end Go.Proofs.Ytmhjckbndhcbmaa
