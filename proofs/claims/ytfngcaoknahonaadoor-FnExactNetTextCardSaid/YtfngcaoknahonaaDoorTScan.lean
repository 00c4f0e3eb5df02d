/-
  Contracts of the laws' helpers that copy and size rows of Scan.
-/
import Derived.Test.YtfngcaoknahonaaDoorRScan
namespace Go.Proofs.YtfngcaoknahonaaDoor
open Go Go.RowKit
set_option linter.unusedVariables false

theorem madeSc (n : Nat) : (madeCells (Value.agg #[.int .i8 0, .int .i16 0]).cells (n * 2)).toList = flatSc (List.replicate n (0, 0)) := by
  apply List.ext_getElem?
  intro j
  have hs : (Value.agg #[.int .i8 0, .int .i16 0]).cells = #[.int .i8 0, .int .i16 0] := rfl
  rw [hs]
  have hl : (flatSc (List.replicate n ((0 : Int), (0 : Int)))).length = n * 2 := by rw [flatSc_length]; simp
  by_cases hj : j < n * 2
  · have h2 : j = (j / 2) * 2 ∨ j = (j / 2) * 2 + 1 := by omega
    rcases h2 with h2 | h2
    · have e : (flatSc (List.replicate n ((0 : Int), (0 : Int))))[j]? = some (.int .i8 0) := by
        rw [h2, flatSc_0 _ _ (by simp; omega)]; simp [List.getD, show j / 2 < n by omega]
      have h3 : j % 2 = 0 := by omega
      rw [e]
      simp [madeCells, hj, h3]
    · have e : (flatSc (List.replicate n ((0 : Int), (0 : Int))))[j]? = some (.int .i16 0) := by
        rw [h2, flatSc_1 _ _ (by simp; omega)]; simp [List.getD, show j / 2 < n by omega]
      have h3 : j % 2 = 1 := by omega
      rw [e]
      simp [madeCells, hj, h3]
  · rw [List.getElem?_eq_none (by rw [Array.length_toList, size_madeCells]; omega), List.getElem?_eq_none (by rw [hl]; omega)]
/-- What the copy holds after k rounds. -/
def copiedSc (ps : List (Int × Int)) (k : Nat) : List (Int × Int) := ps.take k ++ List.replicate (ps.length - k) (0, 0)
theorem copiedSc_zero (ps : List (Int × Int)) : copiedSc ps 0 = List.replicate ps.length (0, 0) := by simp [copiedSc]
theorem copiedSc_all (ps : List (Int × Int)) : copiedSc ps ps.length = ps := by simp [copiedSc]
theorem copiedSc_length (ps : List (Int × Int)) (k : Nat) (h : k ≤ ps.length) : (copiedSc ps k).length = ps.length := by simp [copiedSc]; omega
theorem copiedSc_set (ps : List (Int × Int)) (k : Nat) (h : k < ps.length) : (copiedSc ps k).set k (ps.getD k (0, 0)) = copiedSc ps (k + 1) := by
  have h1 : (List.take k ps).length = k := by simp; omega
  have h2 : ps.length - k = (ps.length - (k + 1)) + 1 := by omega
  unfold copiedSc
  rw [List.set_append_right _ _ (by omega), h1, Nat.sub_self, h2, List.replicate_succ, List.set_cons_zero]
  rw [List.take_succ_eq_append_getElem h, List.append_assoc]
  simp [List.getD, h]
end Go.Proofs.YtfngcaoknahonaaDoor
