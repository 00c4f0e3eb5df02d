/-
  The contract of l02Cut, and of both FitsPaper.
-/
import Derived.Test.YtkhemijanhcibabCut
import Derived.Test.YtkhemijanhcibabPaper2
namespace Go.Proofs.Ytkhemijanhcibab
open Go Go.RowKit
set_option linter.unusedVariables false

theorem int_eq {k : IntKind} {a b : Int} (h : a = b) : Value.int k a = Value.int k b := by rw [h]
theorem cutOf_okbd {wide : Int} {l : List Tri} (h : ∀ t ∈ l, OkT t) : CutBd (cutOf wide l) := by
  have e : (l.attach.map (fun t => (⟨t.1, h t.1 t.2⟩ : Turn))).map (fun t : Turn => t.1) = l := by
    rw [List.map_map]; exact List.attach_map_subtype_val l
  rw [← e]; exact cutOf_bd wide _

end Go.Proofs.Ytkhemijanhcibab
