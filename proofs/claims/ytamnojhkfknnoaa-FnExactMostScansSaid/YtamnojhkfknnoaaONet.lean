/-
  A net that came in: its lanes, opened.
-/
import Derived.Test.YtamnojhkfknnoaaOLane
namespace Go.Proofs.Ytamnojhkfknnoaa
open Go Go.RowKit Go.ChangeShapes Go.WideShapes
set_option linter.unusedVariables false

theorem openNetLanes {H : Type} {enc : TypeId × Value → H} {w : World} {base n : Nat} {held : Bool} {v : Value} {y : DataW H × List MemPlace}
    (h : DataW.trod enc Try.prog w base (fun _ => true) held n 24 [v] = some y) : ∃ a len cap ps, v = .slice a len cap ∧ IsRowLa w a len cap ps ∧ FitsLa ps := by
  rcases Go.Deep.open_slice Try.underlying24 h with ⟨hcs, _⟩ | ⟨x, l, c, m, n, D, Pl, hcs, _⟩
  · simp only [List.cons.injEq, and_true] at hcs
    subst hcs
    obtain ⟨ps, h1⟩ := openLane h
    exact ⟨_, _, _, ps, rfl, h1⟩
  · simp only [List.cons.injEq, and_true] at hcs
    subst hcs
    obtain ⟨ps, h1⟩ := openLane h
    exact ⟨_, _, _, ps, rfl, h1⟩
end Go.Proofs.Ytamnojhkfknnoaa
