/-
  The text of a list of Voucher: plain.
-/
import Derived.Test.YtbclmafplaipaaaDoorVlVo
import Derived.Test.YtbclmafplaipaaaDoorJn
namespace Go.Proofs.YtbclmafplaipaaaDoor
open Go Go.RowKit
set_option linter.unusedVariables false

def wordVouchers (q : Int × Int) : List UInt8 := dec q.1.toNat ++ [64] ++ dec q.2.toNat
def wordsVouchers (ps : List (Int × Int)) : List (List UInt8) := ps.map wordVouchers
theorem wordsVouchers_len (ps : List (Int × Int)) : (wordsVouchers ps).length = ps.length := by simp [wordsVouchers]
theorem wordsVouchers_get (ps : List (Int × Int)) (k : Nat) (h : k < ps.length) : (wordsVouchers ps).getD k [] = wordVouchers (ps.getD k (0, 0)) := by simp [wordsVouchers, List.getD, h]
def textVouchers (ps : List (Int × Int)) : List UInt8 := if vldVo ps = true then wJ (wordsVouchers ps) ps.length else []
theorem textVouchers_ok {ps : List (Int × Int)} (h : vldVo ps = true) : textVouchers ps = wJ (wordsVouchers ps) ps.length := if_pos h
theorem textVouchers_no {ps : List (Int × Int)} (h : vldVo ps = false) : textVouchers ps = [] := if_neg (by rw [h]; simp)
theorem wordVouchers_len {n0 n1 : Nat} (h0 : n0 ≤ 1000000) (h1 : n1 ≤ 1000) : (wordVouchers ((n0 : Int), (n1 : Int))).length ≤ 1001004 := by
  have e0 := dec_len n0
  have e1 := dec_len n1
  unfold wordVouchers
  simp only [List.length_append, List.length_cons, List.length_nil, Int.toNat_natCast]
  omega
theorem natsVouchers {ps : List (Int × Int)} (h : vldVo ps = true) {k : Nat} (hk : k < ps.length) : ∃ n0 n1 : Nat, ps.getD k (0, 0) = ((n0 : Int), (n1 : Int)) ∧ n0 ≤ 1000000 ∧ n1 ≤ 1000 := by
  have h2 := (vldVo_spec h).2 k hk
  unfold okVo at h2
  obtain ⟨q, hq⟩ : ∃ q, ps.getD k (0, 0) = q := ⟨_, rfl⟩
  rw [hq] at h2
  obtain ⟨x0, x1⟩ := q
  simp only at h2
  refine ⟨x0.toNat, x1.toNat, ?_, by omega, by omega⟩
  rw [hq, Int.toNat_of_nonneg (by omega), Int.toNat_of_nonneg (by omega)]
theorem wlenVouchers {ps : List (Int × Int)} (h : vldVo ps = true) (k : Nat) (hk : k ≤ ps.length) : (wJ (wordsVouchers ps) k).length ≤ 1001005 * k :=
  wJ_len _ 1001004 (fun i hi => by
    rw [wordsVouchers_len] at hi
    obtain ⟨n0, n1, hq, h0, h1⟩ := natsVouchers h hi
    rw [wordsVouchers_get ps i hi, hq]
    exact wordVouchers_len h0 h1) k (by rw [wordsVouchers_len]; exact hk)
theorem capVouchers {ps : List (Int × Int)} (h : vldVo ps = true) : ps.length ≤ 12 := (vldVo_spec h).1
end Go.Proofs.YtbclmafplaipaaaDoor
