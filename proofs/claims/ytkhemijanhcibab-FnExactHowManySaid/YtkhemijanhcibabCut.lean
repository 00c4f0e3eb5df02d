/-
  The contract of impl.leastCut.
-/
import Derived.Test.YtkhemijanhcibabPaper
namespace Go.Proofs.Ytkhemijanhcibab
open Go Go.RowKit Go.Shelf
set_option linter.unusedVariables false
attribute [local go_sem] Oper.semAt_some

theorem Boxed.alloc {W : World} {B : Nat} {t : TypeId} {v : Value} (h : Boxed W B t v) (o : Obj) : Boxed (W.alloc o) B t v := (heap_alloc_old _ _ (Array.getElem?_eq_some_iff.1 h).1).trans h
theorem BlockI.eq1 {W : World} {B : Nat} {T : TypeId} {v u : Int} (h : BlockI W B T [v]) (e : v = u) : BlockI W B T [u] := by subst e; exact h
def foundOf (b : Int) : Bool := decide (0 ≤ b)
/-- The program's two steps, on the least length so far and on whether there is one. -/
theorem cut_step {wide b : Int} {t : Tri} (hb : CutBd b) (ht : OkT t) :
    leastOf (cutStep wide b t) = (if needL t ≤ wide then (if needW t < (if needW t ≤ wide then (if needL t < leastOf b then needL t else leastOf b) else leastOf b) then needW t else (if needW t ≤ wide then (if needL t < leastOf b then needL t else leastOf b) else leastOf b)) else (if needW t ≤ wide then (if needL t < leastOf b then needL t else leastOf b) else leastOf b))
    ∧ foundOf (cutStep wide b t) = (foundOf b || decide (needW t ≤ wide) || decide (needL t ≤ wide)) := by
  have h := need_bd ht
  unfold CutBd at hb
  obtain ⟨nw, hnw⟩ : ∃ v, needW t = v := ⟨_, rfl⟩
  obtain ⟨nl, hnl⟩ : ∃ v, needL t = v := ⟨_, rfl⟩
  unfold cutStep
  dsimp only
  rw [hnw, hnl] at h ⊢
  unfold leastOf foundOf
  by_cases h1 : nw ≤ wide <;> by_cases h2 : nl ≤ wide <;> by_cases h3 : b < 0 <;> simp only [h1, h2, h3, true_and, false_and, true_or, false_or, if_true, if_false, decide_true, decide_false, Bool.or_true, Bool.or_false]
  all_goals
    refine ⟨?_, ?_⟩
    · (repeat' split) <;> omega
    · first | rfl | exact decide_eq_true (by (repeat' split) <;> omega) | exact decide_eq_false (by (repeat' split) <;> omega)

end Go.Proofs.Ytkhemijanhcibab
