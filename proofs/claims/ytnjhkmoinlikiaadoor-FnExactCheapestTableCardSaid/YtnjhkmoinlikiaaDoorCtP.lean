/-
  The cheapest table (plain).
-/
import Derived.Test.YtnjhkmoinlikiaaDoorTbB
import Derived.Test.YtnjhkmoinlikiaaDoorPrice
namespace Go.Proofs.YtnjhkmoinlikiaaDoor
open Go Go.RowKit
set_option linter.unusedVariables false

/-- The best table of the first k ones, and its price. -/
def ctS (z n : Int) (ts : List Tb) : Nat → Int × Int
  | 0 => (-1, 0)
  | k + 1 => if inB z 0 ((ts.getD k tb0).2.length - 1) = true ∧ stp (ts.getD k tb0).1 n < (ts.getD k tb0).1.length ∧ ((ctS z n ts k).1 < 0 ∨ prc (ts.getD k tb0).1 (ts.getD k tb0).2 z n < (ctS z n ts k).2) then ((k : Int), prc (ts.getD k tb0).1 (ts.getD k tb0).2 z n) else ctS z n ts k
theorem ctS_yes {z n : Int} {ts : List Tb} {k : Nat} {S : List Int} {R : List (List Int)} (ht : ts.getD k tb0 = (S, R)) (h1 : inB z 0 (R.length - 1) = true) (h2 : stp S n < S.length) (h3 : (ctS z n ts k).1 < 0 ∨ prc S R z n < (ctS z n ts k).2) : ctS z n ts (k + 1) = ((k : Int), prc S R z n) := by
  rw [ctS, ht]; exact if_pos ⟨h1, h2, h3⟩
theorem ctS_no {z n : Int} {ts : List Tb} {k : Nat} {S : List Int} {R : List (List Int)} (ht : ts.getD k tb0 = (S, R)) (h : ¬ (inB z 0 (R.length - 1) = true ∧ stp S n < S.length ∧ ((ctS z n ts k).1 < 0 ∨ prc S R z n < (ctS z n ts k).2))) : ctS z n ts (k + 1) = ctS z n ts k := by
  rw [ctS, ht]; exact if_neg h
def allVT (ts : List Tb) : Bool := ts.all (fun t => vldT t.1 t.2)
theorem allVT_get {ts : List Tb} (h : allVT ts = true) {k : Nat} (hk : k < ts.length) : vldT (ts.getD k tb0).1 (ts.getD k tb0).2 = true := by
  have := List.all_eq_true.1 h ts[k] (List.getElem_mem hk)
  simpa [List.getD, hk] using this
theorem allVT_bad {ts : List Tb} {k : Nat} (hk : k < ts.length) (h : vldT (ts.getD k tb0).1 (ts.getD k tb0).2 = false) : allVT ts = false := by
  cases e : allVT ts with
  | false => rfl
  | true => rw [allVT_get e hk] at h; cases h
theorem allVT_true {ts : List Tb} (h : ∀ k, k < ts.length → vldT (ts.getD k tb0).1 (ts.getD k tb0).2 = true) : allVT ts = true := by
  refine List.all_eq_true.2 (fun t ht => ?_)
  obtain ⟨k, hk, rfl⟩ := List.getElem_of_mem ht
  have := h k hk
  simpa [List.getD, hk] using this
theorem ctS_in {z n : Int} {ts : List Tb} (hv : allVT ts = true) : ∀ k, k ≤ ts.length → (-1 ≤ (ctS z n ts k).1 ∧ (ctS z n ts k).1 < k) ∧ (0 ≤ (ctS z n ts k).2 ∧ (ctS z n ts k).2 ≤ 10000)
  | 0, _ => by simp [ctS]
  | k + 1, hk => by
    have ih := ctS_in (z := z) (n := n) hv k (by omega)
    have hvk := allVT_get hv (show k < ts.length by omega)
    rw [ctS]
    split
    · rename_i h
      have := prc_bound hvk h.1 h.2.1
      simp only
      omega
    · omega
def ctC (z n : Int) (ts : List Tb) : Int := if allVT ts = false then 1 else if z < 0 ∨ inB n 1 2000 = false then 2 else if 6 < ts.length then 3 else if (ctS z n ts ts.length).1 < 0 then 6 else 0
def ctB (z n : Int) (ts : List Tb) : Int := if ctC z n ts = 0 then (ctS z n ts ts.length).1 else 0
def ctL (z n : Int) (ts : List Tb) : Int := if ctC z n ts = 0 then (ctS z n ts ts.length).2 else 0
def ctV (z n : Int) (ts : List Tb) : Value := .tuple #[.int .i64 (ctB z n ts), .int .i64 (ctL z n ts), .int .i64 (ctC z n ts)]
theorem ctV_c {z n : Int} {ts : List Tb} {c : Int} (h : ctC z n ts = c) (hc : c ≠ 0) : ctV z n ts = .tuple #[.int .i64 0, .int .i64 0, .int .i64 c] := by
  unfold ctV ctB ctL; rw [h, if_neg hc, if_neg hc]
theorem ctV_1 {z n : Int} {ts : List Tb} (h : allVT ts = false) : ctV z n ts = .tuple #[.int .i64 0, .int .i64 0, .int .i64 1] := ctV_c (if_pos h) (by decide)
theorem ctV_2 {z n : Int} {ts : List Tb} (h : allVT ts = true) (h2 : z < 0 ∨ inB n 1 2000 = false) : ctV z n ts = .tuple #[.int .i64 0, .int .i64 0, .int .i64 2] := ctV_c (by unfold ctC; rw [if_neg (by rw [h]; simp), if_pos h2]) (by decide)
theorem ctV_3 {z n : Int} {ts : List Tb} (h : allVT ts = true) (h2 : ¬ (z < 0 ∨ inB n 1 2000 = false)) (h3 : 6 < ts.length) : ctV z n ts = .tuple #[.int .i64 0, .int .i64 0, .int .i64 3] := ctV_c (by unfold ctC; rw [if_neg (by rw [h]; simp), if_neg h2, if_pos h3]) (by decide)
theorem ctV_6 {z n : Int} {ts : List Tb} (h : allVT ts = true) (h2 : ¬ (z < 0 ∨ inB n 1 2000 = false)) (h3 : ¬ 6 < ts.length) (h4 : (ctS z n ts ts.length).1 < 0) : ctV z n ts = .tuple #[.int .i64 0, .int .i64 0, .int .i64 6] := ctV_c (by unfold ctC; rw [if_neg (by rw [h]; simp), if_neg h2, if_neg h3, if_pos h4]) (by decide)
theorem ctV_0 {z n : Int} {ts : List Tb} (h : allVT ts = true) (h2 : ¬ (z < 0 ∨ inB n 1 2000 = false)) (h3 : ¬ 6 < ts.length) (h4 : ¬ (ctS z n ts ts.length).1 < 0) : ctV z n ts = .tuple #[.int .i64 (ctS z n ts ts.length).1, .int .i64 (ctS z n ts ts.length).2, .int .i64 0] := by
  have e : ctC z n ts = 0 := by unfold ctC; rw [if_neg (by rw [h]; simp), if_neg h2, if_neg h3, if_neg h4]
  unfold ctV ctB ctL; rw [e, if_pos rfl, if_pos rfl]
end Go.Proofs.YtnjhkmoinlikiaaDoor
