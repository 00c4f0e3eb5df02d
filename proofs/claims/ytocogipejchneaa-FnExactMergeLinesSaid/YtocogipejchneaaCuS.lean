/-
  Shares of amounts; RoundShare on both sides.
-/
import Derived.Test.YtocogipejchneaaCuR
namespace Go.Proofs.Ytocogipejchneaa
open Go Go.RowKit
set_option linter.unusedVariables false

/-! ### RoundShare -/
def rsOk (am num den how : Int) : Prop := (0 ≤ am ∧ am ≤ 1000000000) ∧ (0 ≤ num ∧ num ≤ 1000) ∧ (0 ≤ den ∧ den ≤ 1000) ∧ (0 ≤ how ∧ how ≤ 3)
instance (am num den how : Int) : Decidable (rsOk am num den how) := inferInstanceAs (Decidable (_ ∧ _))
def rsRes (am num den how : Int) : Int := if rsOk am num den how then (if den = 0 then 0 else roundR am num den how) else 0
def rsCode (am num den how : Int) : Int := if rsOk am num den how then (if den = 0 then 4 else 0) else 2
theorem rs_bad {am num den how : Int} (h : ¬ rsOk am num den how) : rsRes am num den how = 0 ∧ rsCode am num den how = 2 := by
  unfold rsRes rsCode; rw [if_neg h, if_neg h]; exact ⟨rfl, rfl⟩
theorem rs_zero {am num den how : Int} (h : rsOk am num den how) (h0 : den = 0) : rsRes am num den how = 0 ∧ rsCode am num den how = 4 := by
  unfold rsRes rsCode; rw [if_pos h, if_pos h, if_pos h0, if_pos h0]; exact ⟨rfl, rfl⟩
theorem rs_ok {am num den how : Int} (h : rsOk am num den how) (h0 : ¬ den = 0) : rsRes am num den how = roundR am num den how ∧ rsCode am num den how = 0 := by
  unfold rsRes rsCode; rw [if_pos h, if_pos h, if_neg h0, if_neg h0]; exact ⟨rfl, rfl⟩
theorem ret_two {a b a' b' : Int} (h : a' = a ∧ b' = b) : Ending.returned (.tuple #[.int .i64 a, .int .i64 b]) = .returned (.tuple #[.int .i64 a', .int .i64 b']) := by rw [h.1, h.2]

theorem share_in {am num den : Int} (ha0 : 0 ≤ am) (ha1 : am ≤ 1000000000) (hn0 : 0 ≤ num) (hn1 : num ≤ 1000) (hd0 : 1 ≤ den) : (0 ≤ am * num / den ∧ am * num / den ≤ 1000000000000) ∧ (0 ≤ am * num % den ∧ am * num % den < den) := by
  obtain ⟨p0, p1⟩ := prod_in ha0 ha1 hn0 hn1
  obtain ⟨q0, q1⟩ := div_in p0 hd0
  exact ⟨⟨q0, by omega⟩, mod_in hd0⟩

end Go.Proofs.Ytocogipejchneaa
