/-
  The contract of spec.l01Fewest: the table of the fewest stamps.
-/
import Derived.Test.YtmhjckbndhcbmaaToI
import Derived.Test.YtmhjckbndhcbmaaWayPos
namespace Go.Proofs.Ytmhjckbndhcbmaa
open Go Go.RowKit
set_option linter.unusedVariables false

theorem Pays.le {xs : List Int} (hx : ∀ v ∈ xs, 1 ≤ v) {a k : Nat} (h : Pays xs a k) : k ≤ a := by
  induction h with
  | zero => exact Nat.le_refl _
  | step v a k hv h ih => have := hx v hv; omega
theorem fewV_bounds {xs : List Int} (hx : ∀ v ∈ xs, 1 ≤ v) (a : Nat) : -1 ≤ fewV xs a ∧ fewV xs a ≤ a := by
  rcases fewV_few xs hx a with ⟨h, _⟩ | ⟨h, h2, _⟩
  · omega
  · have := h2.le hx; omega

/-- The current entry behind i values. -/
def fewCur (xs : List Int) (a i : Nat) : Int := (xs.take i).foldl (fewPick (fewTab xs a) a) (-1)
theorem fewCur_succ (xs : List Int) (a i : Nat) (h : i < xs.length) : fewCur xs a (i + 1) = fewPick (fewTab xs a) a (fewCur xs a i) (xs.getD i 0) := by
  unfold fewCur
  rw [List.take_succ_eq_append_getElem h, List.foldl_append]
  simp [List.getD, h]
theorem fewCur_all (xs : List Int) (a : Nat) (h : 1 ≤ a) : fewCur xs a xs.length = fewV xs a := by
  unfold fewCur fewV fewAt
  rw [List.take_length, if_neg (by omega)]
theorem fewCur_bounds {xs : List Int} (hx : ∀ v ∈ xs, 1 ≤ v) (a i : Nat) (hi : i ≤ xs.length) : -1 ≤ fewCur xs a i ∧ fewCur xs a i ≤ a + 1 := by
  induction i with
  | zero => simp [fewCur]; omega
  | succ i ih =>
    rw [fewCur_succ _ _ _ (by omega)]
    have h := ih (by omega)
    unfold fewPick
    cases hc : fewCand (fewTab xs a) a (xs.getD i 0) with
    | none => exact h
    | some x =>
      have hp := fewCand_pos hc
      have hv : 1 ≤ xs.getD i 0 := by
        have := hx (xs[i]'(by omega)) (List.getElem_mem _)
        simpa [List.getD, show i < xs.length by omega] using this
      rw [fewTab_get _ _ _ (by omega)] at hp
      have := fewV_bounds hx (a - (xs.getD i 0).toNat)
      dsimp only
      split <;> omega

/-- The memory of the table while a's entry is made. -/
def fewMem (xs : List Int) (most a i : Nat) : List Int := fewTab xs a ++ fewCur xs a i :: List.replicate (most - a) 0
theorem fewMem_length (xs : List Int) (most a i : Nat) (h : a ≤ most) : (fewMem xs most a i).length = most + 1 := by simp [fewMem, fewTab_length]; omega
theorem fewMem_at (xs : List Int) (most a i : Nat) : (fewMem xs most a i).getD a 0 = fewCur xs a i := by
  simp [fewMem, List.getD, fewTab_length]
theorem fewMem_old (xs : List Int) (most a i b : Nat) (h : b < a) : (fewMem xs most a i).getD b 0 = fewV xs b := by
  rw [fewMem, List.getD, List.getElem?_append_left (by rw [fewTab_length]; exact h)]
  exact fewTab_get xs a b h
theorem fewMem_set (xs : List Int) (most a i j : Nat) (x : Int) (h : fewCur xs a j = x) : (fewMem xs most a i).set a x = fewMem xs most a j := by
  unfold fewMem
  rw [List.set_append_right _ _ (by rw [fewTab_length]; exact Nat.le_refl _), fewTab_length, Nat.sub_self, List.set_cons_zero, h]
def fewRow (xs : List Int) (most a : Nat) : List Int := fewTab xs a ++ List.replicate (most + 1 - a) 0
theorem fewRow_length (xs : List Int) (most a : Nat) (h : a ≤ most + 1) : (fewRow xs most a).length = most + 1 := by simp [fewRow, fewTab_length]; omega
theorem fewRow_one (xs : List Int) (most : Nat) : fewRow xs most 1 = List.replicate (most + 1) 0 := by
  simp [fewRow, fewTab, fewAt, List.replicate_succ]
theorem fewRow_set (xs : List Int) (most a : Nat) (h : a ≤ most) : (fewRow xs most a).set a (-1) = fewMem xs most a 0 := by
  have e : most + 1 - a = (most - a) + 1 := by omega
  unfold fewRow fewMem
  rw [List.set_append_right _ _ (by rw [fewTab_length]; exact Nat.le_refl _), fewTab_length, Nat.sub_self, e, List.replicate_succ, List.set_cons_zero]
  rfl
theorem fewMem_all (xs : List Int) (most a : Nat) (h1 : 1 ≤ a) : fewMem xs most a xs.length = fewRow xs most (a + 1) := by
  unfold fewMem fewRow
  rw [fewCur_all xs a h1, fewTab]
  have e : most + 1 - (a + 1) = most - a := by omega
  rw [e, List.append_assoc]; rfl
theorem fewRow_all (xs : List Int) (most : Nat) : fewRow xs most (most + 1) = fewTab xs (most + 1) := by simp [fewRow]

end Go.Proofs.Ytmhjckbndhcbmaa
