/-
  What a contract of the library's shelf asks of the program (Lays.n102), at this seat: the numbering, and the facts.
-/
import Derived.Shelf.Lays
import Derived.Test.YtbclmafplaipaaaDoorProg
namespace Go.Proofs.YtbclmafplaipaaaDoor
open Go

def layTrm_ren : Go.Shelf.Ren := ⟨fun | 102 => 70 | 207 => 150 | 209 => 124 | n => n, fun | 3 => 3 | 4 => 4 | 9 => 9 | n => n, fun n => n⟩
set_option maxRecDepth 100000 in
theorem layTrm : Go.Proofs.Lays.n102 Tryd.prog layTrm_ren where
  mixed := by kernel_rfl
  f102 := Tryd.func70.trans (congrArg some (by kernel_rfl))
  f207 := Tryd.func150.trans (congrArg some (by kernel_rfl))
  f209 := Tryd.func124.trans (congrArg some (by kernel_rfl))
  t3 := Tryd.underlying3
  a3 := Tryd.isAgg3
  z3 := Tryd.sizeOf3
  v3 := Tryd.zeroValue3
  t4 := Tryd.underlying4
  a4 := Tryd.isAgg4
  z4 := Tryd.sizeOf4
  v4 := Tryd.zeroValue4
  t9 := Tryd.underlying9
  a9 := Tryd.isAgg9
  z9 := Tryd.sizeOf9
  v9 := Tryd.zeroValue9
end Go.Proofs.YtbclmafplaipaaaDoor
