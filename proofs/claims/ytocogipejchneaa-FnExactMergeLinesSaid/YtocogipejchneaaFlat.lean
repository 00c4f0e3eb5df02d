/-
  Rows of records in memory, told as one list of cells.
-/
import Derived.Test.YtocogipejchneaaBase
import Derived.Test.YtocogipejchneaaProg
namespace Go.Proofs.Ytocogipejchneaa
open Go Go.RowKit
set_option linter.unusedVariables false

/-! ### Rows of records: each element is k cells -/
def flatE {α : Type} (enc : α → List Value) (ps : List α) : List Value := ps.flatMap enc
theorem flatE_length {α : Type} {enc : α → List Value} {k : Nat} (hk : ∀ p, (enc p).length = k) (ps : List α) : (flatE enc ps).length = ps.length * k := by
  induction ps with
  | nil => simp [flatE]
  | cons p ps ih =>
    have e : flatE enc (p :: ps) = enc p ++ flatE enc ps := rfl
    rw [e, List.length_append, ih, hk, List.length_cons, Nat.succ_mul, Nat.add_comm]
theorem flatE_get {α : Type} {enc : α → List Value} {k : Nat} (hk : ∀ p, (enc p).length = k) (ps : List α) (i j : Nat) (hi : i < ps.length) (hj : j < k) : (flatE enc ps)[i * k + j]? = (enc (ps[i]))[j]? := by
  induction ps generalizing i with
  | nil => simp at hi
  | cons p ps ih =>
    have e : flatE enc (p :: ps) = enc p ++ flatE enc ps := rfl
    rw [e]
    cases i with
    | zero => rw [Nat.zero_mul, Nat.zero_add, List.getElem?_append_left (by rw [hk]; exact hj)]; rfl
    | succ i =>
      rw [List.getElem?_append_right (by rw [hk, Nat.succ_mul]; omega), hk]
      have e2 : (i + 1) * k + j - k = i * k + j := by rw [Nat.succ_mul]; omega
      rw [e2, ih i (by simpa using hi)]
      rfl
/-- A field written: the list with the same element changed by that field. -/
theorem flatE_set {α : Type} {enc : α → List Value} {k : Nat} (hk : ∀ p, (enc p).length = k) (ps : List α) (i j : Nat) (u : Value) (q : α) (hi : i < ps.length) (hj : j < k) (hq : enc q = (enc (ps[i])).set j u) :
    (flatE enc ps).set (i * k + j) u = flatE enc (ps.set i q) := by
  induction ps generalizing i with
  | nil => simp at hi
  | cons p ps ih =>
    have e : flatE enc (p :: ps) = enc p ++ flatE enc ps := rfl
    rw [e]
    cases i with
    | zero =>
      have e3 : flatE enc ((p :: ps).set 0 q) = enc q ++ flatE enc ps := rfl
      rw [Nat.zero_mul, Nat.zero_add, List.set_append_left _ _ (by rw [hk]; exact hj), e3, hq]; rfl
    | succ i =>
      have e3 : flatE enc ((p :: ps).set (i + 1) q) = enc p ++ flatE enc (ps.set i q) := rfl
      rw [List.set_append_right _ _ (by rw [hk, Nat.succ_mul]; omega), hk, e3]
      have e2 : (i + 1) * k + j - k = i * k + j := by rw [Nat.succ_mul]; omega
      rw [e2, ih i (by simpa using hi) (by simpa using hq)]
end Go.Proofs.Ytocogipejchneaa
