/-
  The rounds of otherValues, folded, give the best value (plain).
-/
import Derived.Test.YtmhjckbndhcbmaaOther
namespace Go.Proofs.Ytmhjckbndhcbmaa
open Go Go.RowKit
set_option linter.unusedVariables false

/-- One round: the value v, when s is the best so far. -/
noncomputable def bStep (xs : List Int) (m : Nat) (s : Int × Int) (v : Int) : Int × Int := if s.2 < rv (xs ++ [v]) m then (v, rv (xs ++ [v]) m) else s
noncomputable def bPre (xs : List Int) (m : Nat) (pre : List (Fin 500)) : Int × Int := pre.foldl (fun s x => bStep xs m s ((x.1 : Int) + 1)) (0, -1)
theorem bPre_nil (xs : List Int) (m : Nat) : bPre xs m [] = (0, -1) := rfl
theorem bPre_snoc (xs : List Int) (m : Nat) (pre : List (Fin 500)) (x : Fin 500) : bPre xs m (pre ++ [x]) = bStep xs m (bPre xs m pre) ((x.1 : Int) + 1) := by simp [bPre]
theorem bStep_new {xs : List Int} {m : Nat} {s : Int × Int} {v r : Int} (hr : rv (xs ++ [v]) m = r) (g : s.2 < r) : bStep xs m s v = (v, r) := by unfold bStep; rw [hr, if_pos g]
theorem bStep_old {xs : List Int} {m : Nat} {s : Int × Int} {v r : Int} (hr : rv (xs ++ [v]) m = r) (g : ¬ s.2 < r) : bStep xs m s v = s := by unfold bStep; rw [hr, if_neg g]
theorem bPre_oth (xs : List Int) (m : Nat) (k : Nat) (hk : k ≤ 500) : bPre xs m (othK xs k) = bestK xs m k := by
  induction k with
  | zero => rw [bestK_zero]; rfl
  | succ k ih =>
    obtain ⟨hb, hhb⟩ : ∃ hb, hasB xs ((k : Int) + 1) = hb := ⟨_, rfl⟩
    cases hb
    · rw [othK_new hhb, bPre_snoc, ih (by omega), rnd_val (by omega) (show k < 500 by omega)]
      by_cases g : (bestK xs m k).2 < rv (xs ++ [(k : Int) + 1]) m
      · rw [bStep_new rfl g, bestK_new hhb rfl g]
      · rw [bStep_old rfl g, bestK_old hhb rfl g]
    · rw [othK_has hhb, bestK_has hhb, ih (by omega)]
end Go.Proofs.Ytmhjckbndhcbmaa
