/-
  Vouchers: plain functions. What they are worth on a day, and what they are no longer worth; the codes of vouchers, a day and amounts.
-/
import Derived.Test.YtgimpmdiilmkoaaDoorVlVo
import Derived.Test.YtgimpmdiilmkoaaDoorBetw
namespace Go.Proofs.YtgimpmdiilmkoaaDoor
open Go Go.RowKit
set_option linter.unusedVariables false

theorem ret_tw {a b a' b' : Int} (h : a = a' ∧ b = b') : Ending.returned (.tuple #[.int .i64 a, .int .i64 b]) = .returned (.tuple #[.int .i64 a', .int .i64 b']) := by rw [h.1, h.2]
/-- The code of vouchers and a day. -/
def onC (ps : List (Int × Int)) (day : Int) : Int := if vldVo ps = false then 1 else if dayB day = false then 2 else 0
theorem onC_1 {ps : List (Int × Int)} {day : Int} (h : vldVo ps = false) : onC ps day = 1 := if_pos h
theorem onC_2 {ps : List (Int × Int)} {day : Int} (h : vldVo ps = true) (g : dayB day = false) : onC ps day = 2 := by unfold onC; rw [if_neg (by rw [h]; simp), if_pos g]
theorem onC_0 {ps : List (Int × Int)} {day : Int} (h : vldVo ps = true) (g : dayB day = true) : onC ps day = 0 := by unfold onC; rw [if_neg (by rw [h]; simp), if_neg (by rw [g]; simp)]
theorem onC_in (ps : List (Int × Int)) (day : Int) : onC ps day = 0 ∨ onC ps day = 1 ∨ onC ps day = 2 ∨ onC ps day = 3 := by
  unfold onC
  split
  · omega
  · split <;> omega
theorem onC_ok {ps : List (Int × Int)} {day : Int} (h : onC ps day = 0) : vldVo ps = true ∧ dayB day = true := by
  unfold onC at h
  split at h
  · omega
  · rename_i h1
    split at h
    · omega
    · rename_i h2
      exact ⟨by simpa using h1, by simpa using h2⟩
/-- The code of vouchers, a day and amounts, as the program asks for it. -/
def askC (ps : List (Int × Int)) (day : Int) (xs : List Int) : Int := if vldVo ps = false then 1 else if 1000 < xs.length then 3 else if (dayB day && betwB xs 0 1000000) = false then 2 else 0
theorem askC_1 {ps : List (Int × Int)} {day : Int} {xs : List Int} (h : vldVo ps = false) : askC ps day xs = 1 := if_pos h
theorem askC_3 {ps : List (Int × Int)} {day : Int} {xs : List Int} (h : vldVo ps = true) (g : 1000 < xs.length) : askC ps day xs = 3 := by unfold askC; rw [if_neg (by rw [h]; simp), if_pos g]
theorem askC_2 {ps : List (Int × Int)} {day : Int} {xs : List Int} (h : vldVo ps = true) (g : ¬ 1000 < xs.length) (f : (dayB day && betwB xs 0 1000000) = false) : askC ps day xs = 2 := by unfold askC; rw [if_neg (by rw [h]; simp), if_neg g, if_pos f]
theorem askC_0 {ps : List (Int × Int)} {day : Int} {xs : List Int} (h : vldVo ps = true) (g : ¬ 1000 < xs.length) (f : (dayB day && betwB xs 0 1000000) = true) : askC ps day xs = 0 := by unfold askC; rw [if_neg (by rw [h]; simp), if_neg g, if_neg (by rw [f]; simp)]
theorem askC_in (ps : List (Int × Int)) (day : Int) (xs : List Int) : askC ps day xs = 0 ∨ askC ps day xs = 1 ∨ askC ps day xs = 2 ∨ askC ps day xs = 3 := by
  unfold askC
  split
  · omega
  · split
    · omega
    · split <;> omega
theorem betw_nil (lo hi : Int) : betwB [] lo hi = true := betwB_true (betw.zero _ _ _)
theorem askC_nil (ps : List (Int × Int)) (day : Int) : askC ps day [] = onC ps day := by
  unfold askC onC
  rw [betw_nil, Bool.and_true, if_neg (by simp : ¬ 1000 < ([] : List Int).length)]

/-- What the first k vouchers are worth on a day, and what they are no longer worth. -/
def worthV (ps : List (Int × Int)) (day : Int) : Nat → Int
  | 0 => 0
  | k + 1 => if day ≤ (ps.getD k (0, 0)).2 then worthV ps day k + (ps.getD k (0, 0)).1 else worthV ps day k
def lostV (ps : List (Int × Int)) (day : Int) : Nat → Int
  | 0 => 0
  | k + 1 => if day ≤ (ps.getD k (0, 0)).2 then lostV ps day k else lostV ps day k + (ps.getD k (0, 0)).1
theorem worthV_in {ps : List (Int × Int)} {day : Int} {k : Nat} (h : OkVoTo ps k) : (0 ≤ worthV ps day k ∧ worthV ps day k ≤ 1000000 * k) ∧ (0 ≤ lostV ps day k ∧ lostV ps day k ≤ 1000000 * k) := by
  induction k with
  | zero => simp [worthV, lostV]
  | succ k ih =>
    have h1 := ih (fun i hi => h i (by omega))
    have h2 := h k (by omega)
    unfold okVo at h2
    rw [worthV, lostV]
    by_cases t : day ≤ (ps.getD k (0, 0)).2
    · rw [if_pos t, if_pos t]; omega
    · rw [if_neg t, if_neg t]; omega
def worthRes (ps : List (Int × Int)) (day : Int) : Int := if onC ps day = 0 then worthV ps day ps.length else 0
def lostRes (ps : List (Int × Int)) (day : Int) : Int := if onC ps day = 0 then lostV ps day ps.length else 0
end Go.Proofs.YtgimpmdiilmkoaaDoor
