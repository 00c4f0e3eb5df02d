/-
  Contracts of impl.waysUpTo and of both WaysToPay.
-/
import Derived.Test.YtmhjckbndhcbmaaAsk
import Derived.Test.YtmhjckbndhcbmaaToI
import Derived.Test.YtmhjckbndhcbmaaWayPlain
import Derived.StillTailTactics
import Derived.RegionTactic
import Derived.BigRegion
namespace Go.Proofs.Ytmhjckbndhcbmaa
open Go Go.RowKit
set_option linter.unusedVariables false

end Go.Proofs.Ytmhjckbndhcbmaa
