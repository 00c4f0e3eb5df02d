/-
  What a contract of the library's shelf asks of the program (Lays.n137), at this seat: the numbering, and the facts.
-/
import Derived.Shelf.Lays
import Derived.Test.YtbclmafplaipaaaDoorProg
namespace Go.Proofs.YtbclmafplaipaaaDoor
open Go

def layIdx_ren : Go.Shelf.Ren := ⟨fun | 137 => 131 | 217 => 154 | 266 => 171 | n => n, fun | 3 => 3 | 5 => 5 | 9 => 9 | n => n, fun n => n⟩
set_option maxRecDepth 100000 in
theorem layIdx : Go.Proofs.Lays.n137 Tryd.prog layIdx_ren where
  mixed := by kernel_rfl
  f137 := Tryd.func131.trans (congrArg some (by kernel_rfl))
  f217 := Tryd.func154.trans (congrArg some (by kernel_rfl))
  f266 := Tryd.func171.trans (congrArg some (by kernel_rfl))
  t3 := Tryd.underlying3
  a3 := Tryd.isAgg3
  z3 := Tryd.sizeOf3
  v3 := Tryd.zeroValue3
  t5 := Tryd.underlying5
  a5 := Tryd.isAgg5
  z5 := Tryd.sizeOf5
  v5 := Tryd.zeroValue5
  t9 := Tryd.underlying9
  a9 := Tryd.isAgg9
  z9 := Tryd.sizeOf9
  v9 := Tryd.zeroValue9
end Go.Proofs.YtbclmafplaipaaaDoor
