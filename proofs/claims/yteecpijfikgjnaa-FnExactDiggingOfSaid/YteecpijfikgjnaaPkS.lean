/-
  Parcels put into bags: plain lists that both programs build, the model stop by stop, the program by an array.
-/
import Derived.Test.YteecpijfikgjnaaPkP
namespace Go.Proofs.Yteecpijfikgjnaa
open Go Go.RowKit
set_option linter.unusedVariables false

theorem stopsTo_pre (ps : List (Int × Int)) (m d : Nat) : ∃ t, stopsTo ps (m + d) = stopsTo ps m ++ t := by
  induction d with
  | zero => exact ⟨[], by simp⟩
  | succ d ih =>
    obtain ⟨t, ht⟩ := ih
    rw [← Nat.add_assoc, stopsTo]
    split
    · exact ⟨t ++ [((m + d : Nat) : Int)], by rw [ht, List.append_assoc]⟩
    · exact ⟨t, ht⟩
/-- The stop that comes next behind those below m. -/
theorem stops_at {ps : List (Int × Int)} {m : Nat} (h9 : m < 9) (h : 0 < wt ps (m : Int)) : (stopsL ps).getD (stopsTo ps m).length 0 = m ∧ (stopsTo ps m).length < (stopsL ps).length := by
  obtain ⟨t, ht⟩ := stopsTo_pre ps (m + 1) (8 - m)
  have e : m + 1 + (8 - m) = 9 := by omega
  rw [e, stopsTo_yes h] at ht
  have e2 : stopsL ps = stopsTo ps m ++ ((m : Int) :: t) := by unfold stopsL; rw [ht]; simp
  rw [e2]
  exact ⟨by simp [List.getD], by simp⟩
/-- No parcel goes to a stop for which nothing weighs. -/
theorem wtTo_pos {ps : List (Int × Int)} {k : Nat} (h : OkTo ps k) (s : Int) (i : Nat) (hi : i < k) (he : (ps.getD i (0, 0)).1 = s) : 0 < wtTo ps s k := by
  induction k with
  | zero => omega
  | succ k ih =>
    have hb := wtTo_bd (fun i hi => h i (by omega) : OkTo ps k) s
    have hk := h k (by omega)
    unfold okQ at hk
    rw [wtTo]
    by_cases e : i = k
    · subst e; rw [if_pos he]; omega
    · have := ih (fun i hi => h i (by omega)) (by omega)
      split <;> omega
theorem wt_pos {ps : List (Int × Int)} (h : OkTo ps ps.length) (i : Nat) (hi : i < ps.length) : 0 < wt ps (ps.getD i (0, 0)).1 := wtTo_pos h _ i hi rfl

/-- The bag of the parcels for a stop. -/
def bagF (ps : List (Int × Int)) (most : Int) (s : Int) : Int := (fill ps most (s.toNat + 1)).1 - 1
/-- What the model's list holds when the stops below m are done, and of stop m the first j parcels. -/
def outK (ps : List (Int × Int)) (most : Int) (m j : Nat) : List Int := (List.range ps.length).map fun i => if (ps.getD i (0, 0)).1 < m ∨ ((ps.getD i (0, 0)).1 = m ∧ i < j) then bagF ps most (ps.getD i (0, 0)).1 else 0
theorem outK_len (ps : List (Int × Int)) (most : Int) (m j : Nat) : (outK ps most m j).length = ps.length := by simp [outK]
theorem outK_get (ps : List (Int × Int)) (most : Int) (m j i : Nat) (hi : i < ps.length) : (outK ps most m j).getD i 0 = if (ps.getD i (0, 0)).1 < m ∨ ((ps.getD i (0, 0)).1 = m ∧ i < j) then bagF ps most (ps.getD i (0, 0)).1 else 0 := by
  simp [outK, List.getD, hi]
theorem outK_ext {ps : List (Int × Int)} {most : Int} {m j m' j' : Nat} (h : ∀ i, i < ps.length → (((ps.getD i (0, 0)).1 < m ∨ ((ps.getD i (0, 0)).1 = m ∧ i < j)) ↔ ((ps.getD i (0, 0)).1 < m' ∨ ((ps.getD i (0, 0)).1 = m' ∧ i < j')))) : outK ps most m j = outK ps most m' j' := by
  unfold outK
  apply List.map_congr_left
  intro i hi
  have := h i (List.mem_range.1 hi)
  simp only [this]
theorem outK_zero {ps : List (Int × Int)} (h : OkTo ps ps.length) (most : Int) : outK ps most 0 0 = List.replicate ps.length 0 := by
  apply List.ext_getElem
  · simp [outK]
  · intro i h1 h2
    have hi : i < ps.length := by simpa using h2
    have := h i hi
    unfold okQ at this
    simp only [outK, List.getElem_map, List.getElem_range, List.getElem_replicate]
    rw [if_neg (by omega)]
theorem outK_next (ps : List (Int × Int)) (most : Int) (m : Nat) : outK ps most m ps.length = outK ps most (m + 1) 0 := outK_ext fun i hi => by omega
theorem outK_no {ps : List (Int × Int)} (most : Int) {m j : Nat} (h : (ps.getD j (0, 0)).1 ≠ m) : outK ps most m j = outK ps most m (j + 1) := outK_ext fun i hi => by
  by_cases e : i = j
  · subst e; omega
  · omega
theorem outK_set {ps : List (Int × Int)} (most : Int) {m j : Nat} (hj : j < ps.length) (h : (ps.getD j (0, 0)).1 = m) : (outK ps most m j).set j (bagF ps most m) = outK ps most m (j + 1) := by
  apply List.ext_getElem
  · simp [outK]
  · intro i h1 h2
    have hi : i < ps.length := by simpa [outK] using h2
    rw [List.getElem_set]
    simp only [outK, List.getElem_map, List.getElem_range]
    by_cases e : j = i
    · subst e
      rw [if_pos rfl, if_pos (by omega), h]
    · rw [if_neg e]
      have : ((ps.getD i (0, 0)).1 < m ∨ ((ps.getD i (0, 0)).1 = m ∧ i < j)) ↔ ((ps.getD i (0, 0)).1 < m ∨ ((ps.getD i (0, 0)).1 = m ∧ i < j + 1)) := by omega
      simp only [this]
/-- The bag of each parcel. -/
def splitL (ps : List (Int × Int)) (most : Int) : List Int := (List.range ps.length).map fun i => bagF ps most (ps.getD i (0, 0)).1
theorem splitL_len (ps : List (Int × Int)) (most : Int) : (splitL ps most).length = ps.length := by simp [splitL]
theorem outK_all {ps : List (Int × Int)} (h : OkTo ps ps.length) (most : Int) : outK ps most 9 0 = splitL ps most := by
  unfold outK splitL
  apply List.map_congr_left
  intro i hi
  have := h i (List.mem_range.1 hi)
  unfold okQ at this
  rw [if_pos (by omega)]
/-- To the next stop that has parcels, or to the end. -/
theorem next_stop {ps : List (Int × Int)} (h : OkTo ps ps.length) (h10 : ps.length ≤ 10) (most : Int) (hm : 0 ≤ most) (d : Nat) : ∀ m, m + d = 9 → FitTo ps most m →
    ∃ m', m ≤ m' ∧ m' ≤ 9 ∧ stopsTo ps m' = stopsTo ps m ∧ fill ps most m' = fill ps most m ∧ FitTo ps most m' ∧ outK ps most m' 0 = outK ps most m 0 ∧ (m' = 9 ∨ 0 < wt ps (m' : Int)) := by
  induction d with
  | zero => exact fun m he hf => ⟨m, Nat.le_refl _, by omega, rfl, rfl, hf, rfl, .inl (by omega)⟩
  | succ d ih =>
    intro m he hf
    by_cases hp : 0 < wt ps (m : Int)
    · exact ⟨m, Nat.le_refl _, by omega, rfl, rfl, hf, rfl, .inr hp⟩
    · have hb := wt_bd h h10 (m : Int)
      have h0 : wt ps (m : Int) = 0 := by omega
      obtain ⟨m', a, b, c, e, f, g, k⟩ := ih (m + 1) (by omega) (hf.succ (by omega))
      have hfb := fill_bd h h10 most hm m hf
      refine ⟨m', by omega, b, by rw [c, stopsTo_no hp], ?_, f, ?_, k⟩
      · rw [e, fill, if_neg (by omega), h0, Int.sub_zero]
      · rw [g]
        refine outK_ext fun i hi => ?_
        have hne : (ps.getD i (0, 0)).1 ≠ m := fun hx => by have := wt_pos h i hi; rw [hx] at this; omega
        omega
/-- What the program's array of bags holds behind the stops below m. -/
def bagsA (ps : List (Int × Int)) (most : Int) (m : Nat) : List Int := (List.range 9).map fun (s : Nat) => if s < m then (fill ps most (s + 1)).1 - 1 else 0
theorem bagsA_len (ps : List (Int × Int)) (most : Int) (m : Nat) : (bagsA ps most m).length = 9 := by simp [bagsA]
theorem bagsA_zero (ps : List (Int × Int)) (most : Int) : bagsA ps most 0 = List.replicate 9 0 := by simp [bagsA, List.map_const']
theorem bagsA_set {ps : List (Int × Int)} {most : Int} {m : Nat} (h : m < 9) : (bagsA ps most m).set m ((fill ps most (m + 1)).1 - 1) = bagsA ps most (m + 1) := by
  apply List.ext_getElem
  · simp [bagsA]
  · intro i h1 h2
    rw [List.getElem_set]
    simp only [bagsA, List.getElem_map, List.getElem_range]
    by_cases e : m = i
    · subst e; simp
    · rw [if_neg e]
      have : i < m ↔ i < m + 1 := by omega
      simp only [this]
theorem bagsA_get {ps : List (Int × Int)} {most : Int} {s : Nat} (h : s < 9) : (bagsA ps most 9).getD s 0 = bagF ps most (s : Int) := by
  simp [bagsA, List.getD, h, bagF]
theorem splitL_get (ps : List (Int × Int)) (most : Int) (i : Nat) (h : i < ps.length) : (splitL ps most).getD i 0 = bagF ps most (ps.getD i (0, 0)).1 := by simp [splitL, List.getD, h]
/-- The first j of the list. -/
def splitJ (ps : List (Int × Int)) (most : Int) (j : Nat) : List Int := (List.range ps.length).map fun i => if i < j then bagF ps most (ps.getD i (0, 0)).1 else 0
theorem splitJ_len (ps : List (Int × Int)) (most : Int) (j : Nat) : (splitJ ps most j).length = ps.length := by simp [splitJ]
theorem splitJ_zero (ps : List (Int × Int)) (most : Int) : splitJ ps most 0 = List.replicate ps.length 0 := by simp [splitJ, List.map_const']
theorem splitJ_all (ps : List (Int × Int)) (most : Int) : splitJ ps most ps.length = splitL ps most := by
  unfold splitJ splitL
  apply List.map_congr_left
  intro i hi
  rw [if_pos (List.mem_range.1 hi)]
theorem splitJ_set {ps : List (Int × Int)} (most : Int) {j : Nat} (hj : j < ps.length) : (splitJ ps most j).set j (bagF ps most (ps.getD j (0, 0)).1) = splitJ ps most (j + 1) := by
  apply List.ext_getElem
  · simp [splitJ]
  · intro i h1 h2
    rw [List.getElem_set]
    simp only [splitJ, List.getElem_map, List.getElem_range]
    by_cases e : j = i
    · subst e; simp
    · rw [if_neg e]
      have : i < j ↔ i < j + 1 := by omega
      simp only [this]

/-! ### answers -/
def splitOk (ps : List (Int × Int)) (most : Int) : Bool := vldQ ps && decide (1 ≤ most) && decide (FitTo ps most 9)
def splitR (ps : List (Int × Int)) (most : Int) : List Int := if splitOk ps most then splitL ps most else []
def splitN (ps : List (Int × Int)) (most : Int) : Int := if splitOk ps most then (fill ps most 9).1 else 0
def splitC (ps : List (Int × Int)) (most : Int) : Int := if vldQ ps = false then 1 else if most < 1 then 2 else if FitTo ps most 9 then 0 else 6
theorem splitR_len (ps : List (Int × Int)) (most : Int) (h : ps.length ≤ 1048576) : (splitR ps most).length ≤ 1048576 := by
  unfold splitR; split
  · rw [splitL_len]; exact h
  · simp
end Go.Proofs.Yteecpijfikgjnaa
