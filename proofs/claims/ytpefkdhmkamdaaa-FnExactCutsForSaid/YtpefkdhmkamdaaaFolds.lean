/-
  What both sides reckon out of the turns: paper, cuts, boxes in a carton: plain folds.
-/
import Derived.Test.YtpefkdhmkamdaaaTurnsP
namespace Go.Proofs.Ytpefkdhmkamdaaa
open Go Go.RowKit
set_option linter.unusedVariables false

def needW (t : Tri) : Int := 2 * (t.2.1 + t.2.2) + 2
def needL (t : Tri) : Int := t.1 + t.2.2
theorem need_bd {t : Tri} (h : OkT t) : 6 ≤ needW t ∧ needW t ≤ 242 ∧ 2 ≤ needL t ∧ needL t ≤ 120 := by
  unfold OkT at h; unfold needW needL; omega
theorem mul_bd {a b A B : Int} (h0 : 0 ≤ a) (h1 : a ≤ A) (h2 : 0 ≤ b) (h3 : b ≤ B) : 0 ≤ a * b ∧ a * b ≤ A * B :=
  ⟨Int.mul_nonneg h0 h2, Int.mul_le_mul h1 h3 h2 (by omega)⟩
theorem area_bd {t : Tri} (h : OkT t) : 0 ≤ needW t * needL t ∧ needW t * needL t ≤ 29040 := by
  obtain ⟨a, b, c, d⟩ := need_bd h
  exact mul_bd (A := 242) (B := 120) (by omega) b (by omega) d

/-- The better one of a piece and of that which a turn needs. -/
def papStep (s : Int × Int) (t : Tri) : Int × Int := if needW t * needL t < s.1 * s.2 ∨ (needW t * needL t = s.1 * s.2 ∧ needW t < s.1) then (needW t, needL t) else s
def papOf (l : List Tri) : Int × Int := l.foldl papStep (400, 400)
theorem papOf_snoc (l : List Tri) (t : Tri) : papOf (l ++ [t]) = papStep (papOf l) t := by simp [papOf]
theorem papOf_first {t : Tri} (h : OkT t) : papOf [t] = (needW t, needL t) := by
  have := area_bd h
  unfold papOf papStep
  rw [List.foldl_cons, List.foldl_nil, if_pos]
  left; show needW t * needL t < 400 * 400; omega
def PapBd (s : Int × Int) : Prop := 0 ≤ s.1 ∧ s.1 ≤ 400 ∧ 0 ≤ s.2 ∧ s.2 ≤ 400
theorem papStep_bd {s : Int × Int} {t : Tri} (h : PapBd s) (ht : OkT t) : PapBd (papStep s t) := by
  unfold papStep
  split
  · have := need_bd ht; exact ⟨by show 0 ≤ needW t; omega, by show needW t ≤ 400; omega, by show 0 ≤ needL t; omega, by show needL t ≤ 400; omega⟩
  · exact h
theorem papOf_bd (l : List Turn) : PapBd (papOf (l.map (·.1))) := by
  unfold papOf
  have h : ∀ (l : List Turn) (s : Int × Int), PapBd s → PapBd ((l.map (·.1)).foldl papStep s) := by
    intro l
    induction l with
    | nil => intro s hs; exact hs
    | cons a l ih => intro s hs; rw [List.map_cons, List.foldl_cons]; exact ih _ (papStep_bd hs a.2)
  exact h l _ (by unfold PapBd; simp)

/-- The least cut so far, -1 if there is none. -/
def cutStep (wide b : Int) (t : Tri) : Int :=
  let b1 := if needW t ≤ wide ∧ (b < 0 ∨ needL t < b) then needL t else b
  if needL t ≤ wide ∧ (b1 < 0 ∨ needW t < b1) then needW t else b1
def cutOf (wide : Int) (l : List Tri) : Int := l.foldl (cutStep wide) (-1)
theorem cutOf_snoc (wide : Int) (l : List Tri) (t : Tri) : cutOf wide (l ++ [t]) = cutStep wide (cutOf wide l) t := by simp [cutOf]
def CutBd (b : Int) : Prop := -1 ≤ b ∧ b ≤ 242
theorem cutStep_bd {wide b : Int} {t : Tri} (h : CutBd b) (ht : OkT t) : CutBd (cutStep wide b t) := by
  have := need_bd ht
  unfold CutBd at *
  unfold cutStep
  dsimp only
  split <;> split <;> omega
theorem cutOf_bd (wide : Int) (l : List Turn) : CutBd (cutOf wide (l.map (·.1))) := by
  unfold cutOf
  have h : ∀ (l : List Turn) (s : Int), CutBd s → CutBd ((l.map (·.1)).foldl (cutStep wide) s) := by
    intro l
    induction l with
    | nil => intro s hs; exact hs
    | cons a l ih => intro s hs; rw [List.map_cons, List.foldl_cons]; exact ih _ (cutStep_bd hs a.2)
  exact h l _ (by unfold CutBd; omega)
/-- The program's way to tell the same: the least length (400 at first), and whether there is one. -/
def leastOf (b : Int) : Int := if b < 0 then 400 else b

/-- How many go into a carton, and the first turn with it. -/
def rowsOf (c t : Tri) : Int := c.1 / t.1 * (c.2.1 / t.2.1) * (c.2.2 / t.2.2)
def manyStep (c : Tri) (s : Int × Tri) (t : Tri) : Int × Tri := if s.1 < rowsOf c t then (rowsOf c t, t) else s
def manyOf (c : Tri) (l : List Tri) : Int × Tri := l.foldl (manyStep c) (-1, (0, 0, 0))
theorem manyOf_snoc (c : Tri) (l : List Tri) (t : Tri) : manyOf c (l ++ [t]) = manyStep c (manyOf c l) t := by simp [manyOf]
end Go.Proofs.Ytpefkdhmkamdaaa
