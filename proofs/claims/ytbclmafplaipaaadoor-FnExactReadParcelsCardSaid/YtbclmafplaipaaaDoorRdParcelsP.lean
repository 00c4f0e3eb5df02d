/-
  Reading the text of Parcels: plain: the model's way and the program's way are the same.
-/
import Derived.Test.YtbclmafplaipaaaDoorRdP
import Derived.Test.YtbclmafplaipaaaDoorWdParcelsP
import Derived.Test.YtbclmafplaipaaaDoorPkV
import Derived.Test.YtbclmafplaipaaaDoorRParcel
namespace Go.Proofs.YtbclmafplaipaaaDoor
open Go Go.RowKit
set_option linter.unusedVariables false

def okWParcels (a b : Nat) : Bool := decide (a ≤ 8) && decide (b ≤ 5000)
def rdParcels (text : List UInt8) : Option (List (Int × Int)) := rdM (pairM 58 okWParcels) vldQ text
def rdRParcels (text : List UInt8) : List (Int × Int) := (rdParcels text).getD []
def rdCParcels (text : List UInt8) : Int := if (rdParcels text).isSome = true then 0 else 5
theorem rdParcels_same (text : List UInt8) : rdParcels text = rdI (pairI 58 (IntKind.i8.wrap) (IntKind.i16.wrap)) textParcels text := by
  unfold rdParcels
  refine rd_same (g := wordParcels) (fun w q h => pairM_of h) (fun L hv q hq => ?_) (fun L hv => ?_) (fun L hv => textParcels_no hv) text
  · obtain ⟨k, hk, e⟩ := List.getElem_of_mem hq
    obtain ⟨n0, n1, he, h0, h1⟩ := natsParcels hv hk
    have hqe : q = ((n0 : Int), (n1 : Int)) := by rw [← he, ← e]; simp [List.getD, hk]
    subst hqe
    refine ⟨pairM_at (by decide) (by omega) (by omega) ?_, pairI_at (by decide) (by omega) (by omega) (IntWalk.i8_in _ (by omega)) (IntWalk.i16_in _ (by omega)), pairW_free (by decide) (by decide) _⟩
    unfold okWParcels
    simp; omega
  · rw [textParcels_ok hv]
    have := wJ_all (wordsParcels L)
    rw [wordsParcels_len] at this
    exact this
theorem rdRParcels_len (text : List UInt8) : (rdRParcels text).length ≤ 1048575 := by
  unfold rdRParcels rdParcels rdM
  split
  · simp
  · split
    · simp
    · split
      · rename_i L _ hv
        have := capParcels hv
        simp only [Option.getD_some]
        omega
      · simp
end Go.Proofs.YtbclmafplaipaaaDoor
