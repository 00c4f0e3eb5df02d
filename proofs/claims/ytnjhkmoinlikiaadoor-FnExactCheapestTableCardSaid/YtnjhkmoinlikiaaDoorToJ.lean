/-
  Contracts of the laws' own helpers over []int64: toInt64S (a copy in new memory) and eqInt64S.
-/
import Derived.Test.YtnjhkmoinlikiaaDoorBase
import Derived.Test.YtnjhkmoinlikiaaDoorProg
namespace Go.Proofs.YtnjhkmoinlikiaaDoor
open Go Go.RowKit
set_option linter.unusedVariables false

theorem info_i64 : (Tryd.prog.info? 2).map (fun i => (i.zero, i.size, i.bytes)) = some (some (.int .i64 0), 1, 8) := by kernel_rfl

/-- What 'toInt64S' has copied after k rounds. -/
def copied (xs : List Int) (k : Nat) : List Int := xs.take k ++ List.replicate (xs.length - k) 0
theorem copied_zero (xs : List Int) : copied xs 0 = List.replicate xs.length 0 := by simp [copied]
theorem copied_all (xs : List Int) : copied xs xs.length = xs := by simp [copied]
theorem copied_length (xs : List Int) (k : Nat) (h : k ≤ xs.length) : (copied xs k).length = xs.length := by simp [copied]; omega
theorem copied_set (xs : List Int) (k : Nat) (h : k < xs.length) : (copied xs k).set k (xs.getD k 0) = copied xs (k + 1) := by
  have h1 : (List.take k xs).length = k := by simp; omega
  have h2 : xs.length - k = (xs.length - (k + 1)) + 1 := by omega
  unfold copied
  rw [List.set_append_right _ _ (by omega), h1, Nat.sub_self, h2, List.replicate_succ, List.set_cons_zero]
  rw [List.take_succ_eq_append_getElem h, List.append_assoc]
  simp [List.getD, h]

theorem copied_map_set (xs : List Int) (k : Nat) (h : k < xs.length) : ((copied xs k).map (Value.int .i64)).set k (.int .i64 (xs.getD k 0)) = (copied xs (k + 1)).map (Value.int .i64) := by
  rw [← copied_set xs k h, List.map_set]

end Go.Proofs.YtnjhkmoinlikiaaDoor
