/-
  errors.Is at the errors of errors.New's make (after the guide's worked contracts), and the codes of this chapter's errors.
-/
import Derived.Test.YtnjhkmoinlikiaaDoorBase
import Derived.Test.YtnjhkmoinlikiaaDoorProg
import Derived.Test.YtnjhkmoinlikiaaDoorChecked
import Derived.WalkKit
import Derived.LaidEql
import Derived.Stop.Asserts
import Derived.RowKitTokens
namespace Go.Proofs.YtnjhkmoinlikiaaDoor
open Go.RowKit Go.Extern.Stop Go.Stop Go.Extern Go
set_option linter.unusedVariables false

theorem isComparable (w : World) : ((Extern.ReflectliteType.method fun t => do Extern.Rtype.noPackHeld "Comparable" t; (fun a => Value.bool a.comparable) <$> typeInfo t) #[.agg #[.pointer (some ⟨1, 61, none⟩)]]).run Tryd.prog w = .ok (.bool true) w := by kernel_rfl
theorem isComp : (Tryd.prog.info? 61).map (·.comparable) = some true := by kernel_rfl
theorem isSize : (Tryd.prog.info? 80).map (·.size) = some 1 := by kernel_rfl
end Go.Proofs.YtnjhkmoinlikiaaDoor
