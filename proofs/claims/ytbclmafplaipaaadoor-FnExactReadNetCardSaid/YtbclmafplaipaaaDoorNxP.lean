/-
  The text of a net: plain.
-/
import Derived.Test.YtbclmafplaipaaaDoorNtA
import Derived.Test.YtbclmafplaipaaaDoorTs
namespace Go.Proofs.YtbclmafplaipaaaDoor
open Go Go.RowKit
set_option linter.unusedVariables false

def lnT (l : Lan) : List UInt8 := (((dec l.1.toNat ++ [45]) ++ dec l.2.1.toNat) ++ [32]) ++ ((dec l.2.2.1.toNat ++ [45]) ++ dec l.2.2.2.toNat) ++ [10]
def ntK (st sy : Int) (ps : List Lan) : Nat → List UInt8
  | 0 => ((dec st.toNat ++ [32]) ++ dec sy.toNat) ++ [10]
  | k + 1 => ntK st sy ps k ++ lnT (ps.getD k (0, 0, 0, 0))
def netT (st sy : Int) (ps : List Lan) : List UInt8 := if vldN st sy ps = true then ntK st sy ps ps.length else []
theorem netT_ok {st sy : Int} {ps : List Lan} (h : vldN st sy ps = true) : netT st sy ps = ntK st sy ps ps.length := if_pos h
theorem netT_no {st sy : Int} {ps : List Lan} (h : vldN st sy ps = false) : netT st sy ps = [] := if_neg (by rw [h]; simp)
theorem ntK_len {st sy : Int} {ps : List Lan} {k : Nat} (h : okNet st sy ps) (hk : k ≤ ps.length) : (ntK st sy ps k).length ≤ 1000 + 1000 * k := by
  induction k with
  | zero =>
    have h1 := dec_len st.toNat
    have h2 := dec_len sy.toNat
    have := h.1
    have := h.2.1
    rw [ntK]
    simp only [List.length_append, List.length_cons, List.length_nil]
    omega
  | succ k ih =>
    have h1 := ih (by omega)
    have h2 := h.2.2.2 k (by omega)
    unfold okLa at h2
    have hs := h.1
    have q1 := dec_len (ps.getD k (0, 0, 0, 0)).1.toNat
    have q2 := dec_len (ps.getD k (0, 0, 0, 0)).2.1.toNat
    have q3 := dec_len (ps.getD k (0, 0, 0, 0)).2.2.1.toNat
    have q4 := dec_len (ps.getD k (0, 0, 0, 0)).2.2.2.toNat
    rw [ntK, lnT]
    simp only [List.length_append, List.length_cons, List.length_nil]
    omega
/-- The numbers of a lane of a valid net, as natural numbers. -/
theorem lane_nats {st sy : Int} {ps : List Lan} (h : okNet st sy ps) {k : Nat} (hk : k < ps.length) : ∃ n0 n1 n2 n3 : Nat, ps.getD k (0, 0, 0, 0) = ((n0 : Int), (n1 : Int), (n2 : Int), (n3 : Int)) ∧ n0 ≤ 7 ∧ n1 ≤ 7 ∧ n2 ≤ 40 ∧ n3 ≤ 40 := by
  have h2 := h.2.2.2 k hk
  have hs := h.1
  obtain ⟨q, hq⟩ : ∃ q, ps.getD k (0, 0, 0, 0) = q := ⟨_, rfl⟩
  rw [hq] at h2
  obtain ⟨x0, x1, x2, x3⟩ := q
  unfold okLa at h2
  simp only at h2
  exact ⟨x0.toNat, x1.toNat, x2.toNat, x3.toNat, by rw [hq]; simp only [Prod.mk.injEq]; omega, by omega, by omega, by omega, by omega⟩
end Go.Proofs.YtbclmafplaipaaaDoor
