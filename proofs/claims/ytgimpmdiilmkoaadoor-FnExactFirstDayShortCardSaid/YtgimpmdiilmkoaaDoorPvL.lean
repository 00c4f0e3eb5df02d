/-
  The one sorted row of indices, and what is left by a payment with it: plain.
-/
import Derived.Test.YtgimpmdiilmkoaaDoorPvW
namespace Go.Proofs.YtgimpmdiilmkoaaDoor
open Go Go.RowKit
set_option linter.unusedVariables false

instance (ps : List (Int × Int)) (x y : Nat) : Decidable (LU ps x y) := inferInstanceAs (Decidable (_ ∨ _))
def leU (ps : List (Int × Int)) (x y : Nat) : Bool := decide (LU ps x y ∨ x = y)
def srtU (ps : List (Int × Int)) : List Nat := (List.range ps.length).mergeSort (leU ps)
theorem srtU_perm (ps : List (Int × Int)) : (srtU ps).Perm (List.range ps.length) := List.mergeSort_perm _ _
theorem srtU_len (ps : List (Int × Int)) : (srtU ps).length = ps.length := by rw [(srtU_perm ps).length_eq]; simp
theorem srtU_pair (ps : List (Int × Int)) : (srtU ps).Pairwise (LU ps) := by
  have h : (srtU ps).Pairwise (fun a b => leU ps a b = true) := List.pairwise_mergeSort (le := leU ps) (fun a b c h1 h2 => by
    unfold leU at *; simp only [decide_eq_true_eq] at *
    rcases h1 with h1 | rfl
    · rcases h2 with h2 | rfl
      · exact .inl (h1.trans h2)
      · exact .inl h1
    · exact h2) (fun a b => by
    unfold leU LU; simp only [Bool.or_eq_true, decide_eq_true_eq]; omega) _
  have hnd : (srtU ps).Nodup := (srtU_perm ps).nodup_iff.2 List.nodup_range
  refine (h.and hnd).imp fun {a b} hab => ?_
  have h1 := hab.1
  unfold leU at h1
  simp only [decide_eq_true_eq] at h1
  rcases h1 with h1 | h1
  · exact h1
  · exact absurd h1 hab.2
theorem sorted_is {ps : List (Int × Int)} {ms : List Nat} (hp : ms.Perm (List.range ps.length)) (hs : SortedU ps ms ps.length) : ms = srtU ps := by
  have hl : ms.length = ps.length := by rw [hp.length_eq]; simp
  refine sortedU_one ps ms (srtU ps) ?_ (srtU_pair ps) (fun k => by rw [hp.mem_iff, (srtU_perm ps).mem_iff])
  rw [List.pairwise_iff_getElem]
  intro a b ha hb hab
  have h := hs a b hab (by omega)
  simpa [List.getD, ha, hb] using h
/-- What is left, and what could not be paid. -/
def payL (ps : List (Int × Int)) (day due : Int) : List (Int × Int) := (payK ps day due (srtU ps) ps.length).1
def payD (ps : List (Int × Int)) (day due : Int) : Int := (payK ps day due (srtU ps) ps.length).2
theorem payL_len (ps : List (Int × Int)) (day due : Int) : (payL ps day due).length = ps.length := payK_len _ _ _ _ _
/-- Behind lapsed ones, or where nothing is due, nothing changes. -/
theorem payK_idle {ps : List (Int × Int)} {day due : Int} {t : Nat} (h : ∀ j, t ≤ j → j < ps.length → (vAt ps ((srtU ps).getD j 0)).2 < day) {u : Nat} (htu : t ≤ u) (hu : u ≤ ps.length) : payK ps day due (srtU ps) u = payK ps day due (srtU ps) t := by
  induction u with
  | zero => rw [show t = 0 by omega]
  | succ u ih =>
    by_cases e : t = u + 1
    · rw [e]
    · rw [payK, ih (by omega) (by omega), stepP, if_pos (h u (by omega) (by omega))]
theorem srtU_inj {ps : List (Int × Int)} {i j : Nat} (hi : i < ps.length) (hj : j < ps.length) (h : (srtU ps).getD i 0 = (srtU ps).getD j 0) : i = j := by
  have hnd : (srtU ps).Nodup := (srtU_perm ps).nodup_iff.2 List.nodup_range
  have hl := srtU_len ps
  rw [List.getD, List.getD, List.getElem?_eq_getElem (by omega), List.getElem?_eq_getElem (by omega)] at h
  exact (List.getElem_inj hnd).1 (by simpa using h)
theorem srtU_lt {ps : List (Int × Int)} {j : Nat} (hj : j < ps.length) : (srtU ps).getD j 0 < ps.length := by
  have hl := srtU_len ps
  have h : (srtU ps).getD j 0 ∈ srtU ps := by rw [List.getD, List.getElem?_eq_getElem (by omega)]; exact List.getElem_mem _
  exact List.mem_range.1 ((srtU_perm ps).mem_iff.1 h)
theorem srtU_has {ps : List (Int × Int)} {i : Nat} (hi : i < ps.length) : ∃ j, j < ps.length ∧ (srtU ps).getD j 0 = i := by
  have h : i ∈ srtU ps := (srtU_perm ps).mem_iff.2 (List.mem_range.2 hi)
  obtain ⟨j, hj, e⟩ := List.getElem_of_mem h
  exact ⟨j, by rw [← srtU_len ps]; exact hj, by rw [List.getD, List.getElem?_eq_getElem hj]; simpa using e⟩
theorem srtU_ord {ps : List (Int × Int)} {i j : Nat} (hij : i < j) (hj : j < ps.length) : LU ps ((srtU ps).getD i 0) ((srtU ps).getD j 0) := by
  have hl := srtU_len ps
  have h := List.pairwise_iff_getElem.1 (srtU_pair ps) i j (by omega) (by omega) hij
  simpa [List.getD, show i < (srtU ps).length by omega, show j < (srtU ps).length by omega] using h
theorem payK_nil {ps : List (Int × Int)} {day due : Int} {t : Nat} (hok : OkVoTo ps ps.length) (h : (payK ps day due (srtU ps) t).2 = 0) {u : Nat} (htu : t ≤ u) (hu : u ≤ ps.length) : payK ps day due (srtU ps) u = payK ps day due (srtU ps) t := by
  induction u with
  | zero => rw [show t = 0 by omega]
  | succ u ih =>
    by_cases e : t = u + 1
    · rw [e]
    · have ih := ih (by omega) (by omega)
      have hu0 : (payK ps day due (srtU ps) u).2 = 0 := by rw [ih]; exact h
      have hat : vAt (payK ps day due (srtU ps) u).1 ((srtU ps).getD u 0) = vAt ps ((srtU ps).getD u 0) := payK_at (fun j hj e => by have := srtU_inj (ps := ps) (by omega) (by omega) e; omega)
      have hm : mnI 0 (vAt ps ((srtU ps).getD u 0)).1 = 0 := if_pos (amt_in hok _).1
      rw [← ih, payK, stepP, hu0, hm]
      split
      · rfl
      · rw [← hat]
        refine Prod.ext ?_ (by rw [hu0]; rfl)
        simp only [Int.sub_zero]
        exact vset_same rfl (by rw [payK_len]; exact srtU_lt (by omega))
end Go.Proofs.YtgimpmdiilmkoaaDoor
