/-
  strconv.Itoa at the numbers of this project's texts, where the library's table of powers lies as it is told.
-/
import Derived.Test.YtfngcaoknahonaaDoorTs
import Derived.Test.YtfngcaoknahonaaDoorLayItoa
import Derived.Shelf.Strconv.Itoa3
import Derived.Lib.SmallJoins
import Derived.Lib.AppendIntMem
namespace Go.Proofs.YtfngcaoknahonaaDoor
open Go Go.RowKit
set_option linter.unusedVariables false

/-- The library's table of powers lies as it is told. -/
def PowTab (w : World) : Prop := Lib.TabIs Tryd.prog w "internal/strconv.uint64pow10" .u64 Lib.pow10Tab
theorem PowTab.below {w w' : World} (h : PowTab w) (hb : Below w.heap.size w w') : PowTab w' :=
  Go.Joins.tab_stays (g := 0) (by kernel_rfl) h hb (Nat.le_refl _)
end Go.Proofs.YtfngcaoknahonaaDoor
