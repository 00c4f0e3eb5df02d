/-
  Contracts of the laws' helpers that copy and size rows of boxes.
-/
import Derived.Test.YtbclmafplaipaaaDoorTrip
namespace Go.Proofs.YtbclmafplaipaaaDoor
open Go Go.RowKit
set_option linter.unusedVariables false

/-- What 'toBoxS' has copied after k rounds. -/
def copiedB (ps : List Tri) (k : Nat) : List Tri := ps.take k ++ List.replicate (ps.length - k) (0, 0, 0)
theorem copiedB_zero (ps : List Tri) : copiedB ps 0 = List.replicate ps.length (0, 0, 0) := by simp [copiedB]
theorem copiedB_all (ps : List Tri) : copiedB ps ps.length = ps := by simp [copiedB]
theorem copiedB_length (ps : List Tri) (k : Nat) (h : k ≤ ps.length) : (copiedB ps k).length = ps.length := by simp [copiedB]; omega
theorem copiedB_set (ps : List Tri) (k : Nat) (h : k < ps.length) : (copiedB ps k).set k (ps.getD k (0, 0, 0)) = copiedB ps (k + 1) := by
  have h1 : (List.take k ps).length = k := by simp; omega
  have h2 : ps.length - k = (ps.length - (k + 1)) + 1 := by omega
  unfold copiedB
  rw [List.set_append_right _ _ (by omega), h1, Nat.sub_self, h2, List.replicate_succ, List.set_cons_zero]
  rw [List.take_succ_eq_append_getElem h, List.append_assoc]
  simp [List.getD, h]
theorem made_boxes (n : Nat) : (madeCells (Value.agg #[.int .i8 0, .int .i8 0, .int .i8 0]).cells (n * 3)).toList = flatB (List.replicate n (0, 0, 0)) := by
  apply List.ext_getElem?
  intro j
  have hs : (Value.agg #[.int .i8 0, .int .i8 0, .int .i8 0]).cells = #[.int .i8 0, .int .i8 0, .int .i8 0] := rfl
  rw [hs]
  have hl : (flatB (List.replicate n ((0 : Int), (0 : Int), (0 : Int)))).length = n * 3 := by rw [flatB_length]; simp
  by_cases hj : j < n * 3
  · have e : (flatB (List.replicate n ((0 : Int), (0 : Int), (0 : Int))))[j]? = some (.int .i8 0) := by
      have h2 : j = (j / 3) * 3 ∨ j = (j / 3) * 3 + 1 ∨ j = (j / 3) * 3 + 2 := by omega
      rcases h2 with h2 | h2 | h2
      · rw [h2, flatB_0 _ _ (by simp; omega)]; simp [List.getD, show j / 3 < n by omega]
      · rw [h2, flatB_1 _ _ (by simp; omega)]; simp [List.getD, show j / 3 < n by omega]
      · rw [h2, flatB_2 _ _ (by simp; omega)]; simp [List.getD, show j / 3 < n by omega]
    rw [e]
    have h2 : j % 3 = 0 ∨ j % 3 = 1 ∨ j % 3 = 2 := by omega
    rcases h2 with h2 | h2 | h2 <;> simp [madeCells, hj, h2]
  · rw [List.getElem?_eq_none (by rw [Array.length_toList, size_madeCells]; omega), List.getElem?_eq_none (by rw [hl]; omega)]

end Go.Proofs.YtbclmafplaipaaaDoor
