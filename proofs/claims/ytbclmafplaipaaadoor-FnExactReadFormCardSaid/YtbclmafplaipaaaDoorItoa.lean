/-
  strconv.Itoa at the numbers of this project's texts, where the library's table of powers lies as it is told.
-/
import Derived.Test.YtbclmafplaipaaaDoorTs
import Derived.Test.YtbclmafplaipaaaDoorLayItoa
import Derived.Shelf.Strconv.Itoa3
import Derived.Lib.SmallJoins
import Derived.Lib.AppendIntMem
namespace Go.Proofs.YtbclmafplaipaaaDoor
open Go Go.RowKit
set_option linter.unusedVariables false

/-- The library's table of powers lies as it is told. -/
def PowTab (w : World) : Prop := Lib.TabIs Tryd.prog w "internal/strconv.uint64pow10" .u64 Lib.pow10Tab
theorem PowTab.below {w w' : World} (h : PowTab w) (hb : Below w.heap.size w w') : PowTab w' :=
  Go.Joins.tab_stays (g := 3) (by kernel_rfl) h hb (Nat.le_refl _)
theorem iitoa_any (n : Nat) (hn : n ≤ 1000000000) (w : World) (ht : PowTab w) :
    Calls Tryd.prog 122 #[.int .i64 (n : Int)] w fun e w' => e = .returned (.string (str (dec n))) ∧ Below w.heap.size w w' := by
  have h := Go.Proofs.Any.strconv_Itoa layItoa (n : Int) (by omega) (by omega) w ht
  refine Calls.mono (f := 122) h ?_
  rintro e w' ⟨he, k, os, hw⟩
  refine ⟨?_, ?_⟩
  · rw [he, dec_itoa]; rfl
  · rw [hw]; exact Lib.below_grow _ w (Nat.le_refl _) k os
end Go.Proofs.YtbclmafplaipaaaDoor
