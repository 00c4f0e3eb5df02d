/-
  The program's ArrivalsAt.
-/
import Derived.Test.YtloelbaaolhlhaaArW
import Derived.Test.YtloelbaaolhlhaaAvS
namespace Go.Proofs.Ytloelbaaolhlhaa
open Go Go.RowKit
set_option linter.unusedVariables false

theorem aa_chk (st sy : Int) (ps : List Lan) (x0 x1 y : Int) : chkC st sy ps [(x0, x1)] [y] [] = aaC st sy ps x0 x1 y := by
  unfold chkC aaC askC
  have h2 : betwB [] 0 300 = true := betwB_true (betw.zero _ _ _)
  have h1 : betwB [y] 0 (st - 1) = inB y 0 (st - 1) := betw1 y 0 (st - 1)
  have h3 : scsB st [(x0, x1)] = scB st x0 x1 := by
    rw [Bool.eq_iff_iff]
    unfold scsB scB
    simp only [decide_eq_true_eq]
    constructor
    · intro h; exact h 0 (by simp)
    · rintro h i hi
      match i, hi with
      | 0, _ => exact h
  rw [h1, h2, h3]
  cases scB st x0 x1 <;> cases inB y 0 (st - 1) <;> simp
/-- One scan in a row. -/
theorem reads_sc1 {w : World} {b : Nat} {x0 x1 : Int} (h0 : w.cell? ⟨b, 0, none⟩ = some (.int .i8 x0)) (h1 : w.cell? ⟨b, 1, none⟩ = some (.int .i16 x1)) : ReadsSc w (.slice (some ⟨b, 0, none⟩) 1 1) [(x0, x1)] :=
  ⟨_, 1, rfl, fun _ => ⟨b, rfl, fun i hi => by
    match i, hi with
    | 0, _ => exact ⟨h0, h1⟩⟩⟩

end Go.Proofs.Ytloelbaaolhlhaa
