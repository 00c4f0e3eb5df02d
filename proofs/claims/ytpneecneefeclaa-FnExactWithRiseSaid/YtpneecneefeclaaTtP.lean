/-
  The text of a table: plain.
-/
import Derived.Test.YtpneecneefeclaaVldT
import Derived.Test.YtpneecneefeclaaJn
namespace Go.Proofs.Ytpneecneefeclaa
open Go Go.RowKit
set_option linter.unusedVariables false

/-- The words of a line. -/
def rowW (r : List Int) : List (List UInt8) := r.map (fun x => dec x.toNat)
theorem rowW_len (r : List Int) : (rowW r).length = r.length := by simp [rowW]
theorem rowW_get (r : List Int) (k : Nat) (h : k < r.length) : (rowW r).getD k [] = dec (r.getD k 0).toNat := by simp [rowW, List.getD, h]
/-- A line, with its line feed. -/
def lineB (r : List Int) : List UInt8 := wJ (rowW r) r.length ++ [10]
/-- The line of the steps, and the first k lines of prices. -/
def lnT (S : List Int) (R : List (List Int)) : Nat → List UInt8
  | 0 => lineB S
  | k + 1 => lnT S R k ++ lineB (R.getD k [])
def textT (S : List Int) (R : List (List Int)) : List UInt8 := if vldT S R = true then lnT S R R.length else []
theorem textT_ok {S : List Int} {R : List (List Int)} (h : vldT S R = true) : textT S R = lnT S R R.length := if_pos h
theorem textT_no {S : List Int} {R : List (List Int)} (h : vldT S R = false) : textT S R = [] := if_neg (by rw [h]; simp)
/-- A line that is told: one to ten numbers of 0 to 10000. -/
def okN (r : List Int) : Prop := 1 ≤ r.length ∧ r.length ≤ 10 ∧ ∀ i, i < r.length → 0 ≤ r.getD i 0 ∧ r.getD i 0 ≤ 10000
theorem vldT_okS {S : List Int} {R : List (List Int)} (h : vldT S R = true) : okN S := by
  obtain ⟨h1, _, _, _⟩ := vldT_spec h
  obtain ⟨k1, k2, k3⟩ := vldS_spec h1
  refine ⟨k1, k2, fun i hi => ?_⟩
  have := k3 i hi
  unfold okS at this
  omega
theorem vldT_okR {S : List Int} {R : List (List Int)} (h : vldT S R = true) {j : Nat} (hj : j < R.length) : okN (R.getD j []) := by
  obtain ⟨h1, _, _, h4⟩ := vldT_spec h
  obtain ⟨k1, k2, _⟩ := vldS_spec h1
  obtain ⟨e, g⟩ := h4 j hj
  exact ⟨by omega, by omega, fun i hi => g i hi⟩
theorem okN.ne {r : List Int} (h : okN r) : r ≠ [] := by
  intro e
  have := h.1
  rw [e] at this
  simp at this
theorem okN.nat {r : List Int} (h : okN r) {k : Nat} (hk : k < r.length) : ∃ n : Nat, r.getD k 0 = (n : Int) ∧ n ≤ 10000 := by
  have h1 := h.2.2 k hk
  exact ⟨(r.getD k 0).toNat, by omega, by omega⟩
theorem okN.wlen {r : List Int} (h : okN r) (k : Nat) (hk : k ≤ r.length) : (wJ (rowW r) k).length ≤ 10002 * k :=
  wJ_len _ 10001 (fun i hi => by
    rw [rowW_len] at hi
    obtain ⟨n, hn, hb⟩ := h.nat hi
    rw [rowW_get r i hi, hn, Int.toNat_natCast]
    have := dec_len n
    omega) k (by rw [rowW_len]; exact hk)
theorem okN.blen {r : List Int} (h : okN r) : (lineB r).length ≤ 100021 := by
  have h1 := h.wlen r.length (Nat.le_refl _)
  have h2 := h.2.1
  unfold lineB
  rw [List.length_append]
  simp only [List.length_cons, List.length_nil]
  omega
theorem lnT_len {S : List Int} {R : List (List Int)} (h : vldT S R = true) (k : Nat) (hk : k ≤ R.length) : (lnT S R k).length ≤ 100021 * (k + 1) := by
  induction k with
  | zero => have := (vldT_okS h).blen; simpa [lnT] using this
  | succ k ih =>
    have h1 := ih (by omega)
    have h2 := (vldT_okR h (j := k) (by omega)).blen
    rw [lnT, List.length_append]
    omega
end Go.Proofs.Ytpneecneefeclaa
