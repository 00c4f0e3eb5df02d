/-
  What a contract of the library's shelf asks of the program (LaysM.n171), at this seat: the numbering, and the facts.
-/
import Derived.Shelf.LaysM
import Derived.Test.YtfngcaoknahonaaDoorProg
namespace Go.Proofs.YtfngcaoknahonaaDoor
open Go

end Go.Proofs.YtfngcaoknahonaaDoor
