/-
  The text of a list of Stamp: plain.
-/
import Derived.Test.YtbclmafplaipaaaDoorStock
import Derived.Test.YtbclmafplaipaaaDoorJn
namespace Go.Proofs.YtbclmafplaipaaaDoor
open Go Go.RowKit
set_option linter.unusedVariables false

def FitsP (ps : List (Int × Int)) : Prop := I16 ps
def wordStock (q : Int × Int) : List UInt8 := dec q.1.toNat ++ [120] ++ dec q.2.toNat
def wordsStock (ps : List (Int × Int)) : List (List UInt8) := ps.map wordStock
theorem wordsStock_len (ps : List (Int × Int)) : (wordsStock ps).length = ps.length := by simp [wordsStock]
theorem wordsStock_get (ps : List (Int × Int)) (k : Nat) (h : k < ps.length) : (wordsStock ps).getD k [] = wordStock (ps.getD k (0, 0)) := by simp [wordsStock, List.getD, h]
def textStock (ps : List (Int × Int)) : List UInt8 := if vldS ps = true then wJ (wordsStock ps) ps.length else []
theorem textStock_ok {ps : List (Int × Int)} (h : vldS ps = true) : textStock ps = wJ (wordsStock ps) ps.length := if_pos h
theorem textStock_no {ps : List (Int × Int)} (h : vldS ps = false) : textStock ps = [] := if_neg (by rw [h]; simp)
theorem wordStock_len {n0 n1 : Nat} (h0 : n0 ≤ 500) (h1 : n1 ≤ 50) : (wordStock ((n0 : Int), (n1 : Int))).length ≤ 554 := by
  have e0 := dec_len n0
  have e1 := dec_len n1
  unfold wordStock
  simp only [List.length_append, List.length_cons, List.length_nil, Int.toNat_natCast]
  omega
theorem natsStock {ps : List (Int × Int)} (h : vldS ps = true) {k : Nat} (hk : k < ps.length) : ∃ n0 n1 : Nat, ps.getD k (0, 0) = ((n0 : Int), (n1 : Int)) ∧ n0 ≤ 500 ∧ n1 ≤ 50 := by
  have h2 := (vldS_spec h).2 k hk
  have h3 := RiseS.prev (ps := ps) (k := k) (fun i hi => (vldS_spec h).2 i (by omega))
  unfold okS at h2
  obtain ⟨q, hq⟩ : ∃ q, ps.getD k (0, 0) = q := ⟨_, rfl⟩
  rw [hq] at h2
  obtain ⟨x0, x1⟩ := q
  simp only at h2
  refine ⟨x0.toNat, x1.toNat, ?_, by omega, by omega⟩
  rw [hq, Int.toNat_of_nonneg (by omega), Int.toNat_of_nonneg (by omega)]
theorem wlenStock {ps : List (Int × Int)} (h : vldS ps = true) (k : Nat) (hk : k ≤ ps.length) : (wJ (wordsStock ps) k).length ≤ 555 * k :=
  wJ_len _ 554 (fun i hi => by
    rw [wordsStock_len] at hi
    obtain ⟨n0, n1, hq, h0, h1⟩ := natsStock h hi
    rw [wordsStock_get ps i hi, hq]
    exact wordStock_len h0 h1) k (by rw [wordsStock_len]; exact hk)
theorem capStock {ps : List (Int × Int)} (h : vldS ps = true) : ps.length ≤ 8 := (vldS_spec h).1
end Go.Proofs.YtbclmafplaipaaaDoor
