/-
  The greatest step for a price: plainly.
-/
import Derived.Test.YtkhemijanhcibaaDoorBoundP
namespace Go.Proofs.YtkhemijanhcibaaDoor
open Go Go.RowKit
set_option linter.unusedVariables false

/-- The last of the first k steps whose price is no more than p. -/
def hvK (S : List Int) (R : List (List Int)) (z p : Int) : Nat → Int
  | 0 => 0
  | k + 1 => if (rowZ R z).getD k 0 ≤ p then S.getD k 0 else hvK S R z p k
theorem hvK_zero (S : List Int) (R : List (List Int)) (z p : Int) : hvK S R z p 0 = 0 := rfl
theorem hvK_yes {S : List Int} {R : List (List Int)} {z p : Int} {k : Nat} (h : (rowZ R z).getD k 0 ≤ p) : hvK S R z p (k + 1) = S.getD k 0 := by rw [hvK, if_pos h]
theorem hvK_no {S : List Int} {R : List (List Int)} {z p : Int} {k : Nat} (h : ¬ (rowZ R z).getD k 0 ≤ p) : hvK S R z p (k + 1) = hvK S R z p k := by rw [hvK, if_neg h]
theorem hvK_drop {S : List Int} {R : List (List Int)} {z p : Int} {k : Nat} (d : Nat) (h : ∀ j, k ≤ j → j < k + d → p < (rowZ R z).getD j 0) : hvK S R z p (k + d) = hvK S R z p k := by
  induction d with
  | zero => rfl
  | succ d ih =>
    have h1 := h (k + d) (by omega) (by omega)
    rw [← Nat.add_assoc, hvK_no (by omega)]
    exact ih (fun j a b => h j a (by omega))
theorem hv_hit {S : List Int} {R : List (List Int)} {z p : Int} {n i : Nat} (hi : i < n) (h1 : ∀ j, i < j → j < n → p < (rowZ R z).getD j 0) (h2 : (rowZ R z).getD i 0 ≤ p) : hvK S R z p n = S.getD i 0 := by
  have e := hvK_drop (S := S) (R := R) (z := z) (p := p) (k := i + 1) (n - (i + 1)) (fun j a b => h1 j (by omega) (by omega))
  rw [show i + 1 + (n - (i + 1)) = n by omega] at e
  rw [e, hvK_yes h2]
theorem hv_none {S : List Int} {R : List (List Int)} {z p : Int} {n : Nat} (h1 : ∀ j, j < n → p < (rowZ R z).getD j 0) : hvK S R z p n = 0 := by
  have e := hvK_drop (S := S) (R := R) (z := z) (p := p) (k := 0) n (fun j a b => h1 j (by omega))
  rw [Nat.zero_add] at e
  rw [e, hvK_zero]
theorem hvK_pos {S : List Int} {R : List (List Int)} {z p : Int} (hs : vldS S = true) (n : Nat) (hn : n ≤ S.length) : 0 ≤ hvK S R z p n ∧ hvK S R z p n ≤ 2000 := by
  induction n with
  | zero => rw [hvK_zero]; omega
  | succ n ih =>
    by_cases h : (rowZ R z).getD n 0 ≤ p
    · rw [hvK_yes h]
      have h3 := (vldS_spec hs).2.2 n (by omega)
      unfold okS at h3
      omega
    · rw [hvK_no h]; exact ih (by omega)
/-- The code of a table, a zone and a price. -/
def askP (S : List Int) (R : List (List Int)) (z p : Int) : Int := if chk S R z [] = 0 then (if 0 ≤ p then 0 else 2) else chk S R z []
theorem askP_eq (S : List Int) (R : List (List Int)) (z p : Int) : asked S R z (decide (0 ≤ p)) = askP S R z p := by
  unfold askP
  rw [chk_nil]
  unfold asked
  by_cases h1 : vldT S R = false
  · simp [h1]
  · by_cases h2 : inB z 0 (R.length - 1) = false
    · simp [h1, h2]
    · by_cases h3 : 0 ≤ p
      · simp [h1, h2, h3]
      · simp [h1, h2, h3]
theorem askP_spec {S : List Int} {R : List (List Int)} {z p : Int} (hc : askP S R z p = 0) : 0 ≤ p ∧ chk S R z [] = 0 := by
  unfold askP at hc
  by_cases h : chk S R z [] = 0
  · rw [if_pos h] at hc
    by_cases h0 : 0 ≤ p
    · exact ⟨h0, h⟩
    · rw [if_neg h0] at hc; omega
  · rw [if_neg h] at hc; exact absurd hc h
/-- The code where the greatest step is b. -/
def hvE (b : Int) : Int := if b = 0 then 6 else 0
theorem hvE_0 : hvE 0 = 6 := rfl
theorem hvE_ne {b : Int} (h : b ≠ 0) : hvE b = 0 := if_neg h
def hvX (S : List Int) (R : List (List Int)) (z p : Int) : Int := if askP S R z p = 0 then hvK S R z p S.length else 0
def hvC (S : List Int) (R : List (List Int)) (z p : Int) : Int := if askP S R z p = 0 then hvE (hvK S R z p S.length) else askP S R z p
theorem hv_c {S : List Int} {R : List (List Int)} {z p : Int} (h : askP S R z p ≠ 0) : hvX S R z p = 0 ∧ hvC S R z p = askP S R z p := ⟨if_neg h, if_neg h⟩
theorem hv_0 {S : List Int} {R : List (List Int)} {z p : Int} (h : askP S R z p = 0) : hvX S R z p = hvK S R z p S.length ∧ hvC S R z p = hvE (hvK S R z p S.length) := ⟨if_pos h, if_pos h⟩
end Go.Proofs.YtkhemijanhcibaaDoor
