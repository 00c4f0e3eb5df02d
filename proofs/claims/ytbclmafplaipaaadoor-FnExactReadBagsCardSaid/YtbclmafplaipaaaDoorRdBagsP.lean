/-
  Reading the text of bags (plain).
-/
import Derived.Test.YtbclmafplaipaaaDoorRdP
import Derived.Test.YtbclmafplaipaaaDoorBgP
namespace Go.Proofs.YtbclmafplaipaaaDoor
open Go Go.RowKit
set_option linter.unusedVariables false

/-- An owner's digit. -/
def ow (b : UInt8) : Int := (b.toNat : Int) - 48
def bagOf (x : List UInt8) : List Int := x.map ow
def bagsOf (l : List UInt8) : List (List Int) := (spl 47 l).map bagOf
def rdRBags (l : List UInt8) : List (List Int) := if vldM (bagsOf l) = true then bagsOf l else []
def rdCBags (l : List UInt8) : Int := if vldM (bagsOf l) = true then 0 else 5
theorem rdBags_yes {l : List UInt8} (h : vldM (bagsOf l) = true) : rdRBags l = bagsOf l ∧ rdCBags l = 0 := ⟨by unfold rdRBags; rw [if_pos h], by unfold rdCBags; rw [if_pos h]⟩
theorem rdBags_no {l : List UInt8} (h : vldM (bagsOf l) = false) : rdRBags l = [] ∧ rdCBags l = 5 := ⟨by unfold rdRBags; rw [if_neg (by rw [h]; decide)], by unfold rdCBags; rw [if_neg (by rw [h]; decide)]⟩
theorem bagOf_len (x : List UInt8) : (bagOf x).length = x.length := List.length_map ..
theorem bagsOf_len (l : List UInt8) : (bagsOf l).length = (spl 47 l).length := List.length_map ..
theorem bagOf_at (x : List UInt8) (i : Nat) (h : i < x.length) : (bagOf x).getD i 0 = ow (x.getD i 0) := by simp [bagOf, List.getD, h]
theorem bagsOf_at (l : List UInt8) (i : Nat) (h : i < (spl 47 l).length) : (bagsOf l).getD i [] = bagOf ((spl 47 l).getD i []) := by simp [bagsOf, List.getD, h]
/-- What is no digit makes the bags invalid. -/
theorem bags_bad {l : List UInt8} {k i : Nat} (hk : k < (spl 47 l).length) (hi : i < ((spl 47 l).getD k []).length) (h : ((spl 47 l).getD k []).getD i 0 < 48 ∨ 57 < ((spl 47 l).getD k []).getD i 0) : vldM (bagsOf l) = false := by
  cases hv : vldM (bagsOf l)
  · rfl
  · exfalso
    obtain ⟨h1, h4, hr⟩ := vldM_spec hv
    have hok := (hr k (by rw [bagsOf_len]; exact hk)).2 i (by rw [bagsOf_at l k hk, bagOf_len]; exact hi)
    rw [bagsOf_at l k hk, bagOf_at _ i hi] at hok
    generalize ((spl 47 l).getD k []).getD i 0 = b at h hok
    unfold ow at hok
    rcases h with h | h
    · have : b.toNat < 48 := h
      omega
    · have : 57 < b.toNat := h
      omega
theorem bagOf_snoc (x : List UInt8) (i : Nat) (h : i < x.length) : bagOf (x.take (i + 1)) = bagOf (x.take i) ++ [ow (x.getD i 0)] := by
  unfold bagOf
  rw [List.take_succ_eq_append_getElem h, List.map_append]
  simp [List.getD, h]
end Go.Proofs.YtbclmafplaipaaaDoor
