/-
  What a contract of the library's shelf asks of the program (Lays.n156, Builder.Extra), at this seat: the numbering, and the facts.
-/
import Derived.Shelf.Lays
import Derived.Shelf.Strings.BuilderX
import Derived.Test.YtpneecneefeclaaProg
namespace Go.Proofs.Ytpneecneefeclaa
open Go

end Go.Proofs.Ytpneecneefeclaa
