/-
  DutyOf, DutyOfLine and WithAllowance on both sides.
-/
import Derived.Test.YtocogipejchneaaCuE
namespace Go.Proofs.Ytocogipejchneaa
open Go Go.RowKit
set_option linter.unusedVariables false

/-- The code of classes, a form and whether numbers are as told. -/
def askF (cs ls : List (Int × Int × Int × Int)) (fine : Bool) : Int := if vldF cs ls = false then 1 else if fine = false then 2 else 0
theorem askF_1 {cs ls : List (Int × Int × Int × Int)} {fine : Bool} (h : vldF cs ls = false) : askF cs ls fine = 1 := if_pos h
theorem askF_2 {cs ls : List (Int × Int × Int × Int)} (h : vldF cs ls = true) : askF cs ls false = 2 := by unfold askF; rw [if_neg (by rw [h]; simp), if_pos rfl]
theorem askF_0 {cs ls : List (Int × Int × Int × Int)} (h : vldF cs ls = true) : askF cs ls true = 0 := by unfold askF; rw [if_neg (by rw [h]; simp), if_neg (by simp)]

/-! ### DutyOf -/
def dutyRes (cs ls : List (Int × Int × Int × Int)) (how : Int) : Int := if askF cs ls (isHow how) = 0 then dutyTo cs ls how ls.length else 0
theorem askF_ok {cs ls : List (Int × Int × Int × Int)} {fine : Bool} (h : askF cs ls fine = 0) : vldF cs ls = true ∧ fine = true := by
  unfold askF at h
  split at h
  · omega
  · rename_i h1
    split at h
    · omega
    · rename_i h2; exact ⟨by simpa using h1, by simpa using h2⟩
theorem askF_or (cs ls : List (Int × Int × Int × Int)) (fine : Bool) : askF cs ls fine = 0 ∨ askF cs ls fine = 1 ∨ askF cs ls fine = 2 := by
  unfold askF; split
  · exact .inr (.inl rfl)
  · split
    · exact .inr (.inr rfl)
    · exact .inl rfl

/-! ### WithAllowance -/
def fineA (al how : Int) : Bool := decide (0 ≤ al ∧ al ≤ 1000000) && isHow how
def waRes (cs ls : List (Int × Int × Int × Int)) (al how : Int) : Int := if askF cs ls (fineA al how) = 0 then (if worthTo ls ls.length ≤ al then 0 else dutyTo cs ls how ls.length) else 0

end Go.Proofs.Ytocogipejchneaa
