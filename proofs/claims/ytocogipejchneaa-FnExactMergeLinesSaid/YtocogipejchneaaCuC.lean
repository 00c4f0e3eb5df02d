/-
  The model's DutyInAll and RoundingGap.
-/
import Derived.Test.YtocogipejchneaaCuB
namespace Go.Proofs.Ytocogipejchneaa
open Go Go.RowKit
set_option linter.unusedVariables false

def allRes (cs ls : List Quad) (how : Int) : Int := if askF cs ls (isHow how) = 0 then allTo cs ls how cs.length else 0
def gapRes (cs ls : List Quad) (how : Int) : Int := if askF cs ls (isHow how) = 0 then dutyTo cs ls how ls.length - allTo cs ls how cs.length else 0

end Go.Proofs.Ytocogipejchneaa
