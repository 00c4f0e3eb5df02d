/-
  Contracts of markLaneS and heldLaneS.
-/
import Derived.Test.YtfngcaoknahonaaDoorRLane
import Derived.Test.YtfngcaoknahonaaDoorGrownT
namespace Go.Proofs.YtfngcaoknahonaaDoor
open Go Go.RowKit
set_option linter.unusedVariables false

/-- The marks k, k + 1, .. of m elements, as their fields hold them. -/
def mkLa (k : Int) (i : Nat) : Int × Int × Int × Int := (IntKind.i8.wrap (k + 4 * (i : Int)), IntKind.i8.wrap (k + 4 * (i : Int) + 1), IntKind.i16.wrap (k + 4 * (i : Int) + 1 + 1), IntKind.i16.wrap (k + 4 * (i : Int) + 1 + 1 + 1))
def iotaLa (k : Int) (m : Nat) : List (Int × Int × Int × Int) := (List.range m).map (mkLa k)
theorem iotaLa_length (k : Int) (m : Nat) : (iotaLa k m).length = m := by simp [iotaLa]
theorem iotaLa_get (k : Int) (m i : Nat) (h : i < m) : (iotaLa k m).getD i (0, 0, 0, 0) = mkLa k i := by simp [iotaLa, List.getD, h]
def markedLa (k : Int) (ps : List (Int × Int × Int × Int)) (j : Nat) : List (Int × Int × Int × Int) := iotaLa k j ++ ps.drop j
theorem markedLa_length (k : Int) (ps : List (Int × Int × Int × Int)) (j : Nat) (h : j ≤ ps.length) : (markedLa k ps j).length = ps.length := by simp [markedLa, iotaLa_length]; omega
theorem markedLa_zero (k : Int) (ps : List (Int × Int × Int × Int)) : markedLa k ps 0 = ps := by simp [markedLa, iotaLa]
theorem markedLa_all (k : Int) (ps : List (Int × Int × Int × Int)) : markedLa k ps ps.length = iotaLa k ps.length := by simp [markedLa]
theorem markedLa_set (k : Int) (ps : List (Int × Int × Int × Int)) (j : Nat) (h : j < ps.length) : (markedLa k ps j).set j (mkLa k j) = markedLa k ps (j + 1) := by
  unfold markedLa
  rw [List.set_append_right _ _ (by simp [iotaLa_length]), iotaLa_length, Nat.sub_self, List.drop_eq_getElem_cons h, List.set_cons_zero]
  simp [iotaLa, List.range_succ]

theorem flatLa_cells {w : World} {b : Nat} {ps : List (Int × Int × Int × Int)} (h : CellsLa w b ps) : ∀ j u, (flatLa ps)[j]? = some u → w.cell? ((⟨b, 0, none⟩ : Addr).add j) = some u := by
  intro j u hj
  have hjl : j < ps.length * 4 := by
    have := (List.getElem?_eq_some_iff.1 hj).1
    rwa [flatLa_length] at this
  rw [addr_add, Nat.zero_add]
  have h2 : j = (j / 4) * 4 ∨ j = (j / 4) * 4 + 1 ∨ j = (j / 4) * 4 + 2 ∨ j = (j / 4) * 4 + 3 := by omega
  obtain ⟨g0, g1, g2, g3⟩ := h (j / 4) (by omega)
  rcases h2 with h2 | h2 | h2 | h2
  · rw [h2, flatLa_0 _ _ (by omega)] at hj
    rw [h2, g0]; exact hj
  · rw [h2, flatLa_1 _ _ (by omega)] at hj
    rw [h2, g1]; exact hj
  · rw [h2, flatLa_2 _ _ (by omega)] at hj
    rw [h2, g2]; exact hj
  · rw [h2, flatLa_3 _ _ (by omega)] at hj
    rw [h2, g3]; exact hj
theorem flatLa_ones (ps : List (Int × Int × Int × Int)) : ∀ u ∈ flatLa ps, u.oneCell' = true := by
  intro u hu
  simp only [flatLa, flatE, List.mem_flatMap, encLa, List.mem_cons, List.not_mem_nil, or_false] at hu
  obtain ⟨a, _, rfl | rfl | rfl | rfl⟩ := hu <;> rfl
end Go.Proofs.YtfngcaoknahonaaDoor
