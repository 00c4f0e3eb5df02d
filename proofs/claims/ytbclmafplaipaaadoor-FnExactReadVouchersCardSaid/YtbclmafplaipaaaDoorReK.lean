/-
  Returns: days, buyers and items that there are; what orders and returns have in common; on both sides.
-/
import Derived.Test.YtbclmafplaipaaaDoorIn
namespace Go.Proofs.YtbclmafplaipaaaDoor
open Go Go.RowKit
set_option linter.unusedVariables false

def dayB (n : Int) : Bool := decide ((0 : Int) ≤ n ∧ n ≤ 1000)
theorem dayB_true {n : Int} (h : (0 : Int) ≤ n ∧ n ≤ 1000) : dayB n = true := decide_eq_true h
theorem dayB_false {n : Int} (h : ¬ ((0 : Int) ≤ n ∧ n ≤ 1000)) : dayB n = false := decide_eq_false h
theorem dayB_spec {n : Int} (h : dayB n = true) : (0 : Int) ≤ n ∧ n ≤ 1000 := of_decide_eq_true h
theorem dayB_in (n : Int) : dayB n = inB n 0 1000 := rfl
def knownB (b i : Int) : Bool := decide ((0 ≤ b ∧ b ≤ 8) ∧ (0 ≤ i ∧ i ≤ 11))
theorem knownB_true {b i : Int} (h : (0 ≤ b ∧ b ≤ 8) ∧ (0 ≤ i ∧ i ≤ 11)) : knownB b i = true := decide_eq_true h
theorem knownB_false {b i : Int} (h : ¬ ((0 ≤ b ∧ b ≤ 8) ∧ (0 ≤ i ∧ i ≤ 11))) : knownB b i = false := decide_eq_false h
def goodsB (b i n d : Int) : Bool := decide ((0 ≤ b ∧ b ≤ 8) ∧ (0 ≤ i ∧ i ≤ 11) ∧ (1 ≤ n ∧ n ≤ 100) ∧ (0 ≤ d ∧ d ≤ 1000))
theorem goodsB_true {b i n d : Int} (h : (0 ≤ b ∧ b ≤ 8) ∧ (0 ≤ i ∧ i ≤ 11) ∧ (1 ≤ n ∧ n ≤ 100) ∧ (0 ≤ d ∧ d ≤ 1000)) : goodsB b i n d = true := decide_eq_true h
theorem goodsB_false {b i n d : Int} (h : ¬ ((0 ≤ b ∧ b ≤ 8) ∧ (0 ≤ i ∧ i ≤ 11) ∧ (1 ≤ n ∧ n ≤ 100) ∧ (0 ≤ d ∧ d ≤ 1000))) : goodsB b i n d = false := decide_eq_false h

theorem sdays_any (n : Int) (w : World) : Calls Tryd.prog 100 #[.int .i64 n] w fun e w' => e = .returned (.bool (dayB n)) ∧ w' = w := by
  go_enter Tryd.func100, Tryd.ntmps100
  go_wp2_with (go_at_call 115; refine (in_any _ _ _ _).mono ?_; rintro e w2 ⟨rfl, hw2⟩; subst hw2)
  go_ret
  exact ⟨(ret_bool (dayB_in n)).symm, rfl⟩

theorem iday_any (n : Int) (w : World) : Calls Tryd.prog 156 #[.int .i64 n] w fun e w' => e = .returned (.bool (dayB n)) ∧ w' = w := by
  by_cases h1 : 0 ≤ n
  · by_cases h2 : n ≤ 1000
    · have hd : decide (n ≤ 1000) = true := decide_eq_true h2
      go_enter Tryd.func156, Tryd.ntmps156
      go_wp2
      go_ret
      exact ⟨(ret_bool (dayB_true ⟨h1, h2⟩)).symm, rfl⟩
    · have hd : decide (n ≤ 1000) = false := decide_eq_false h2
      go_enter Tryd.func156, Tryd.ntmps156
      go_wp2
      go_ret
      exact ⟨(ret_bool (dayB_false (by omega))).symm, rfl⟩
  · have hd : decide (0 ≤ n) = false := decide_eq_false h1
    go_enter Tryd.func156, Tryd.ntmps156
    go_wp2
    go_ret
    exact ⟨(ret_bool (dayB_false (by omega))).symm, rfl⟩

end Go.Proofs.YtbclmafplaipaaaDoor
