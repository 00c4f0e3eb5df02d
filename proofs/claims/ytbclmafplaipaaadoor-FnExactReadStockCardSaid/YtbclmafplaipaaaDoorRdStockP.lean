/-
  Reading the text of Stock: plain: the model's way and the program's way are the same.
-/
import Derived.Test.YtbclmafplaipaaaDoorRdP
import Derived.Test.YtbclmafplaipaaaDoorWdStockP
import Derived.Test.YtbclmafplaipaaaDoorStock
import Derived.Test.YtbclmafplaipaaaDoorPairs
namespace Go.Proofs.YtbclmafplaipaaaDoor
open Go Go.RowKit
set_option linter.unusedVariables false

def okWStock (a b : Nat) : Bool := decide (a ≤ 500) && decide (b ≤ 50)
def rdStock (text : List UInt8) : Option (List (Int × Int)) := rdM (pairM 120 okWStock) vldS text
def rdRStock (text : List UInt8) : List (Int × Int) := (rdStock text).getD []
def rdCStock (text : List UInt8) : Int := if (rdStock text).isSome = true then 0 else 5
theorem rdStock_same (text : List UInt8) : rdStock text = rdI (pairI 120 (IntKind.i16.wrap) (IntKind.i16.wrap)) textStock text := by
  unfold rdStock
  refine rd_same (g := wordStock) (fun w q h => pairM_of h) (fun L hv q hq => ?_) (fun L hv => ?_) (fun L hv => textStock_no hv) text
  · obtain ⟨k, hk, e⟩ := List.getElem_of_mem hq
    obtain ⟨n0, n1, he, h0, h1⟩ := natsStock hv hk
    have hqe : q = ((n0 : Int), (n1 : Int)) := by rw [← he, ← e]; simp [List.getD, hk]
    subst hqe
    refine ⟨pairM_at (by decide) (by omega) (by omega) ?_, pairI_at (by decide) (by omega) (by omega) (IntWalk.i16_in _ (by omega)) (IntWalk.i16_in _ (by omega)), pairW_free (by decide) (by decide) _⟩
    unfold okWStock
    simp; omega
  · rw [textStock_ok hv]
    have := wJ_all (wordsStock L)
    rw [wordsStock_len] at this
    exact this
theorem rdRStock_len (text : List UInt8) : (rdRStock text).length ≤ 1048575 := by
  unfold rdRStock rdStock rdM
  split
  · simp
  · split
    · simp
    · split
      · rename_i L _ hv
        have := capStock hv
        simp only [Option.getD_some]
        omega
      · simp
end Go.Proofs.YtbclmafplaipaaaDoor
