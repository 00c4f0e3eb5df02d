/-
  The text of a list of Box: plain.
-/
import Derived.Test.YtbclmafplaipaaaDoorBxV
import Derived.Test.YtbclmafplaipaaaDoorJn
namespace Go.Proofs.YtbclmafplaipaaaDoor
open Go Go.RowKit
set_option linter.unusedVariables false

def FitsB (ps : List Tri) : Prop := All8 ps
def wordBoxes (q : Int × Int × Int) : List UInt8 := dec q.1.toNat ++ [120] ++ dec q.2.1.toNat ++ [120] ++ dec q.2.2.toNat
def wordsBoxes (ps : List (Int × Int × Int)) : List (List UInt8) := ps.map wordBoxes
theorem wordsBoxes_len (ps : List (Int × Int × Int)) : (wordsBoxes ps).length = ps.length := by simp [wordsBoxes]
theorem wordsBoxes_get (ps : List (Int × Int × Int)) (k : Nat) (h : k < ps.length) : (wordsBoxes ps).getD k [] = wordBoxes (ps.getD k (0, 0, 0)) := by simp [wordsBoxes, List.getD, h]
def textBoxes (ps : List (Int × Int × Int)) : List UInt8 := if vldX ps = true then wJ (wordsBoxes ps) ps.length else []
theorem textBoxes_ok {ps : List (Int × Int × Int)} (h : vldX ps = true) : textBoxes ps = wJ (wordsBoxes ps) ps.length := if_pos h
theorem textBoxes_no {ps : List (Int × Int × Int)} (h : vldX ps = false) : textBoxes ps = [] := if_neg (by rw [h]; simp)
theorem wordBoxes_len {n0 n1 n2 : Nat} (h0 : n0 ≤ 60) (h1 : n1 ≤ 60) (h2 : n2 ≤ 60) : (wordBoxes ((n0 : Int), (n1 : Int), (n2 : Int))).length ≤ 186 := by
  have e0 := dec_len n0
  have e1 := dec_len n1
  have e2 := dec_len n2
  unfold wordBoxes
  simp only [List.length_append, List.length_cons, List.length_nil, Int.toNat_natCast]
  omega
theorem natsBoxes {ps : List (Int × Int × Int)} (h : vldX ps = true) {k : Nat} (hk : k < ps.length) : ∃ n0 n1 n2 : Nat, ps.getD k (0, 0, 0) = ((n0 : Int), (n1 : Int), (n2 : Int)) ∧ n0 ≤ 60 ∧ n1 ≤ 60 ∧ n2 ≤ 60 := by
  have h2 := vldX_sides h hk
  obtain ⟨q, hq⟩ : ∃ q, ps.getD k (0, 0, 0) = q := ⟨_, rfl⟩
  rw [hq] at h2
  obtain ⟨x0, x1, x2⟩ := q
  simp only at h2
  refine ⟨x0.toNat, x1.toNat, x2.toNat, ?_, by omega, by omega, by omega⟩
  rw [hq, Int.toNat_of_nonneg (by omega), Int.toNat_of_nonneg (by omega), Int.toNat_of_nonneg (by omega)]
theorem wlenBoxes {ps : List (Int × Int × Int)} (h : vldX ps = true) (k : Nat) (hk : k ≤ ps.length) : (wJ (wordsBoxes ps) k).length ≤ 187 * k :=
  wJ_len _ 186 (fun i hi => by
    rw [wordsBoxes_len] at hi
    obtain ⟨n0, n1, n2, hq, h0, h1, h2⟩ := natsBoxes h hi
    rw [wordsBoxes_get ps i hi, hq]
    exact wordBoxes_len h0 h1 h2) k (by rw [wordsBoxes_len]; exact hk)
theorem capBoxes {ps : List (Int × Int × Int)} (h : vldX ps = true) : ps.length ≤ 10 := (vldX_spec h).1
end Go.Proofs.YtbclmafplaipaaaDoor
