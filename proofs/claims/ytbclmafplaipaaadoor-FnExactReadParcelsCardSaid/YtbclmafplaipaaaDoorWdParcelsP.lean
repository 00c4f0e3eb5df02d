/-
  The text of a list of Parcel: plain.
-/
import Derived.Test.YtbclmafplaipaaaDoorPkP
import Derived.Test.YtbclmafplaipaaaDoorJn
namespace Go.Proofs.YtbclmafplaipaaaDoor
open Go Go.RowKit
set_option linter.unusedVariables false

def wordParcels (q : Int × Int) : List UInt8 := dec q.1.toNat ++ [58] ++ dec q.2.toNat
def wordsParcels (ps : List (Int × Int)) : List (List UInt8) := ps.map wordParcels
theorem wordsParcels_len (ps : List (Int × Int)) : (wordsParcels ps).length = ps.length := by simp [wordsParcels]
theorem wordsParcels_get (ps : List (Int × Int)) (k : Nat) (h : k < ps.length) : (wordsParcels ps).getD k [] = wordParcels (ps.getD k (0, 0)) := by simp [wordsParcels, List.getD, h]
def textParcels (ps : List (Int × Int)) : List UInt8 := if vldQ ps = true then wJ (wordsParcels ps) ps.length else []
theorem textParcels_ok {ps : List (Int × Int)} (h : vldQ ps = true) : textParcels ps = wJ (wordsParcels ps) ps.length := if_pos h
theorem textParcels_no {ps : List (Int × Int)} (h : vldQ ps = false) : textParcels ps = [] := if_neg (by rw [h]; simp)
theorem wordParcels_len {n0 n1 : Nat} (h0 : n0 ≤ 8) (h1 : n1 ≤ 5000) : (wordParcels ((n0 : Int), (n1 : Int))).length ≤ 5012 := by
  have e0 := dec_len n0
  have e1 := dec_len n1
  unfold wordParcels
  simp only [List.length_append, List.length_cons, List.length_nil, Int.toNat_natCast]
  omega
theorem natsParcels {ps : List (Int × Int)} (h : vldQ ps = true) {k : Nat} (hk : k < ps.length) : ∃ n0 n1 : Nat, ps.getD k (0, 0) = ((n0 : Int), (n1 : Int)) ∧ n0 ≤ 8 ∧ n1 ≤ 5000 := by
  have h2 := (vldQ_spec h).2 k hk
  unfold okQ at h2
  obtain ⟨q, hq⟩ : ∃ q, ps.getD k (0, 0) = q := ⟨_, rfl⟩
  rw [hq] at h2
  obtain ⟨x0, x1⟩ := q
  simp only at h2
  refine ⟨x0.toNat, x1.toNat, ?_, by omega, by omega⟩
  rw [hq, Int.toNat_of_nonneg (by omega), Int.toNat_of_nonneg (by omega)]
theorem wlenParcels {ps : List (Int × Int)} (h : vldQ ps = true) (k : Nat) (hk : k ≤ ps.length) : (wJ (wordsParcels ps) k).length ≤ 5013 * k :=
  wJ_len _ 5012 (fun i hi => by
    rw [wordsParcels_len] at hi
    obtain ⟨n0, n1, hq, h0, h1⟩ := natsParcels h hi
    rw [wordsParcels_get ps i hi, hq]
    exact wordParcels_len h0 h1) k (by rw [wordsParcels_len]; exact hk)
theorem capParcels {ps : List (Int × Int)} (h : vldQ ps = true) : ps.length ≤ 10 := (vldQ_spec h).1
end Go.Proofs.YtbclmafplaipaaaDoor
