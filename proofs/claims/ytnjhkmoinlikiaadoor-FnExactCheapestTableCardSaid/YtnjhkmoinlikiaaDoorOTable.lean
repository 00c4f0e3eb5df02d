/-
  A slice of tables that came in, opened (by the name that the shell asks for).
-/
import Derived.Test.YtnjhkmoinlikiaaDoorTbO
import Derived.OpenShut
import Derived.ChangeOld
namespace Go.Proofs.YtnjhkmoinlikiaaDoor
open Go Go.RowKit Go.ChangeShapes Go.WideShapes
theorem openTable {H : Type} {enc : TypeId × Value → H} {w : World} {base n : Nat} {held : Bool} {a : Option Addr} {len cap : Nat} {y : DataW H × List MemPlace}
    (h : DataW.trod enc Tryd.prog w base (fun _ => true) held n 22 [.slice a len cap] = some y) : ∃ ts, IsTabs w a len cap ts := openTables h
end Go.Proofs.YtnjhkmoinlikiaaDoor
