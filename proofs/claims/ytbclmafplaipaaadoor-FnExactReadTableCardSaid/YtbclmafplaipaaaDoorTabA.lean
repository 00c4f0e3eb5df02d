/-
  Contracts of the laws' own helpers over [][]int16 and tables.
-/
import Derived.Test.YtbclmafplaipaaaDoorMat
import Derived.StillTailTactics
namespace Go.Proofs.YtbclmafplaipaaaDoor
open Go Go.RowKit
set_option linter.unusedVariables false

theorem info_h : (Tryd.prog.info? 33).map (fun i => (i.zero, i.size, i.bytes)) = some (some (.slice none 0 0), 1, 24) := by kernel_rfl

theorem IsRow.len_ok {k : IntKind} {w : World} {a : Option Addr} {len cap : Nat} {z : List Int} (hr : IsRow k w a len cap z) : len ≤ 9223372036854775807 := by
  rcases hr with ⟨_, rfl, _, _⟩ | ⟨x, _, h1, h2, _⟩
  · omega
  · unfold maxLen at h2; omega
theorem IsRows.len_ok {w : World} {a : Option Addr} {len cap : Nat} {R : List (List Int)} (hr : IsRows w a len cap R) : len ≤ 9223372036854775807 := by
  rcases hr with ⟨_, rfl, _, _⟩ | ⟨x, _, h1, h2, _⟩
  · omega
  · unfold maxLen at h2; omega

end Go.Proofs.YtbclmafplaipaaaDoor
