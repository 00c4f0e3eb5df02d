/-
  Reading the text of Vouchers: plain: the model's way and the program's way are the same.
-/
import Derived.Test.YtbclmafplaipaaaDoorRdP
import Derived.Test.YtbclmafplaipaaaDoorWdVouchersP
import Derived.Test.YtbclmafplaipaaaDoorVlVo
import Derived.Test.YtbclmafplaipaaaDoorRVoucher
import Derived.Test.YtbclmafplaipaaaDoorBetw
namespace Go.Proofs.YtbclmafplaipaaaDoor
open Go Go.RowKit
set_option linter.unusedVariables false

def okWVouchers (a b : Nat) : Bool := decide (a ≤ 1000000) && decide (b ≤ 1000)
def rdVouchers (text : List UInt8) : Option (List (Int × Int)) := rdM (pairM 64 okWVouchers) vldVo text
def rdRVouchers (text : List UInt8) : List (Int × Int) := (rdVouchers text).getD []
def rdCVouchers (text : List UInt8) : Int := if (rdVouchers text).isSome = true then 0 else 5
theorem rdVouchers_same (text : List UInt8) : rdVouchers text = rdI (pairI 64 (IntKind.i32.wrap) (IntKind.i16.wrap)) textVouchers text := by
  unfold rdVouchers
  refine rd_same (g := wordVouchers) (fun w q h => pairM_of h) (fun L hv q hq => ?_) (fun L hv => ?_) (fun L hv => textVouchers_no hv) text
  · obtain ⟨k, hk, e⟩ := List.getElem_of_mem hq
    obtain ⟨n0, n1, he, h0, h1⟩ := natsVouchers hv hk
    have hqe : q = ((n0 : Int), (n1 : Int)) := by rw [← he, ← e]; simp [List.getD, hk]
    subst hqe
    refine ⟨pairM_at (by decide) (by omega) (by omega) ?_, pairI_at (by decide) (by omega) (by omega) (IntWalk.i32_in _ (by omega)) (IntWalk.i16_in _ (by omega)), pairW_free (by decide) (by decide) _⟩
    unfold okWVouchers
    simp; omega
  · rw [textVouchers_ok hv]
    have := wJ_all (wordsVouchers L)
    rw [wordsVouchers_len] at this
    exact this
theorem rdRVouchers_len (text : List UInt8) : (rdRVouchers text).length ≤ 1048575 := by
  unfold rdRVouchers rdVouchers rdM
  split
  · simp
  · split
    · simp
    · split
      · rename_i L _ hv
        have := capVouchers hv
        simp only [Option.getD_some]
        omega
      · simp
end Go.Proofs.YtbclmafplaipaaaDoor
