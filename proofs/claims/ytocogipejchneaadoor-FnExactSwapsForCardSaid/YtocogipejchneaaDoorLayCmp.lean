/-
  What a contract of the library's shelf asks of the program (SlLaysN.n43), at this seat: the numbering, and the facts.
-/
import Derived.Shelf.SlLaysN
import Derived.Test.YtocogipejchneaaDoorProg
namespace Go.Proofs.YtocogipejchneaaDoor
open Go

def layCmp_ren : Go.Shelf.Ren := ⟨fun | 43 => 26 | n => n, fun | 0 => 0 | 3 => 3 | 4 => 4 | 22 => 22 | 23 => 2 | n => n, fun n => n⟩
set_option maxRecDepth 100000 in
theorem layCmp : Go.Proofs.SlLaysN.n43 Tryd.prog layCmp_ren where
  mixed := by kernel_rfl
  f43 := ⟨Tryd.f26.name, by kernel_rfl, Tryd.func26.trans (congrArg some (by kernel_rfl))⟩
  t0 := Tryd.underlying0
  a0 := Tryd.isAgg0
  z0 := Tryd.sizeOf0
  v0 := Tryd.zeroValue0
  t3 := Tryd.underlying3
  a3 := Tryd.isAgg3
  z3 := Tryd.sizeOf3
  v3 := Tryd.zeroValue3
  t4 := Tryd.underlying4
  a4 := Tryd.isAgg4
  z4 := Tryd.sizeOf4
  v4 := Tryd.zeroValue4
  t22 := Tryd.underlying22
  a22 := Tryd.isAgg22
  z22 := Tryd.sizeOf22
  v22 := Tryd.zeroValue22
  t23 := Tryd.underlying2
  a23 := Tryd.isAgg2
  z23 := Tryd.sizeOf2
  v23 := Tryd.zeroValue2
  i23 := by kernel_rfl
end Go.Proofs.YtocogipejchneaaDoor
