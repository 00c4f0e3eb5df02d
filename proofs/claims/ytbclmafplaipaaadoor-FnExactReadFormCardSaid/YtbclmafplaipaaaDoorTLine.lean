/-
  Contracts of the laws' helpers that copy and size rows of Line.
-/
import Derived.Test.YtbclmafplaipaaaDoorRLine
namespace Go.Proofs.YtbclmafplaipaaaDoor
open Go Go.RowKit
set_option linter.unusedVariables false

theorem infoR_L : (Tryd.prog.info? 124).map (fun i => (i.zero, i.size, i.bytes)) = some (some (.agg #[.int .i8 0, .int .i16 0, .int .i32 0, .int .i32 0]), 4, 12) := by kernel_rfl
theorem madeL (n : Nat) : (madeCells (Value.agg #[.int .i8 0, .int .i16 0, .int .i32 0, .int .i32 0]).cells (n * 4)).toList = flatL (List.replicate n (0, 0, 0, 0)) := by
  apply List.ext_getElem?
  intro j
  have hs : (Value.agg #[.int .i8 0, .int .i16 0, .int .i32 0, .int .i32 0]).cells = #[.int .i8 0, .int .i16 0, .int .i32 0, .int .i32 0] := rfl
  rw [hs]
  have hl : (flatL (List.replicate n ((0 : Int), (0 : Int), (0 : Int), (0 : Int)))).length = n * 4 := by rw [flatL_length]; simp
  by_cases hj : j < n * 4
  · have h2 : j = (j / 4) * 4 ∨ j = (j / 4) * 4 + 1 ∨ j = (j / 4) * 4 + 2 ∨ j = (j / 4) * 4 + 3 := by omega
    rcases h2 with h2 | h2 | h2 | h2
    · have e : (flatL (List.replicate n ((0 : Int), (0 : Int), (0 : Int), (0 : Int))))[j]? = some (.int .i8 0) := by
        rw [h2, flatL_0 _ _ (by simp; omega)]; simp [List.getD, show j / 4 < n by omega]
      have h3 : j % 4 = 0 := by omega
      rw [e]
      simp [madeCells, hj, h3]
    · have e : (flatL (List.replicate n ((0 : Int), (0 : Int), (0 : Int), (0 : Int))))[j]? = some (.int .i16 0) := by
        rw [h2, flatL_1 _ _ (by simp; omega)]; simp [List.getD, show j / 4 < n by omega]
      have h3 : j % 4 = 1 := by omega
      rw [e]
      simp [madeCells, hj, h3]
    · have e : (flatL (List.replicate n ((0 : Int), (0 : Int), (0 : Int), (0 : Int))))[j]? = some (.int .i32 0) := by
        rw [h2, flatL_2 _ _ (by simp; omega)]; simp [List.getD, show j / 4 < n by omega]
      have h3 : j % 4 = 2 := by omega
      rw [e]
      simp [madeCells, hj, h3]
    · have e : (flatL (List.replicate n ((0 : Int), (0 : Int), (0 : Int), (0 : Int))))[j]? = some (.int .i32 0) := by
        rw [h2, flatL_3 _ _ (by simp; omega)]; simp [List.getD, show j / 4 < n by omega]
      have h3 : j % 4 = 3 := by omega
      rw [e]
      simp [madeCells, hj, h3]
  · rw [List.getElem?_eq_none (by rw [Array.length_toList, size_madeCells]; omega), List.getElem?_eq_none (by rw [hl]; omega)]
/-- What the copy holds after k rounds. -/
def copiedL (ps : List (Int × Int × Int × Int)) (k : Nat) : List (Int × Int × Int × Int) := ps.take k ++ List.replicate (ps.length - k) (0, 0, 0, 0)
theorem copiedL_zero (ps : List (Int × Int × Int × Int)) : copiedL ps 0 = List.replicate ps.length (0, 0, 0, 0) := by simp [copiedL]
theorem copiedL_all (ps : List (Int × Int × Int × Int)) : copiedL ps ps.length = ps := by simp [copiedL]
theorem copiedL_length (ps : List (Int × Int × Int × Int)) (k : Nat) (h : k ≤ ps.length) : (copiedL ps k).length = ps.length := by simp [copiedL]; omega
theorem copiedL_set (ps : List (Int × Int × Int × Int)) (k : Nat) (h : k < ps.length) : (copiedL ps k).set k (ps.getD k (0, 0, 0, 0)) = copiedL ps (k + 1) := by
  have h1 : (List.take k ps).length = k := by simp; omega
  have h2 : ps.length - k = (ps.length - (k + 1)) + 1 := by omega
  unfold copiedL
  rw [List.set_append_right _ _ (by omega), h1, Nat.sub_self, h2, List.replicate_succ, List.set_cons_zero]
  rw [List.take_succ_eq_append_getElem h, List.append_assoc]
  simp [List.getD, h]
end Go.Proofs.YtbclmafplaipaaaDoor
