/-
  Walks: how far one walks along a visit (plain).
-/
import Derived.Test.YteecpijfikgjnaaVsP
import Derived.Test.YteecpijfikgjnaaPkS
namespace Go.Proofs.Yteecpijfikgjnaa
open Go Go.RowKit
set_option linter.unusedVariables false

theorem stopsTo_bd (ps : List (Int × Int)) : ∀ m : Nat, ∀ x, x ∈ stopsTo ps m → 0 ≤ x ∧ x < (m : Int)
  | 0, x, h => by simp [stopsTo] at h
  | m + 1, x, h => by
    have ih := stopsTo_bd ps m
    rw [stopsTo] at h
    split at h
    · rcases List.mem_append.1 h with h | h
      · have := ih x h; omega
      · simp at h; omega
    · have := ih x h; omega
theorem stopsTo_asc (ps : List (Int × Int)) : ∀ m : Nat, (stopsTo ps m).Pairwise (· < ·)
  | 0 => by simp [stopsTo]
  | m + 1 => by
    have ih := stopsTo_asc ps m
    rw [stopsTo]
    split
    · rw [List.pairwise_append]
      exact ⟨ih, by simp, fun a ha b hb => by have := stopsTo_bd ps m a ha; simp at hb; omega⟩
    · exact ih
theorem stops_asc (ps : List (Int × Int)) : (stopsL ps).Pairwise (· < ·) := stopsTo_asc ps 9
theorem stops_bd (ps : List (Int × Int)) {x : Int} (h : x ∈ stopsL ps) : 0 ≤ x ∧ x < 9 := stopsTo_bd ps 9 x h
theorem stops_len20 (ps : List (Int × Int)) : (stopsL ps).length ≤ 1048576 := by have := stopsL_len ps; omega
/-- Where one stands ahead of place k. -/
def beforeW (xs : List Int) : Nat → Int
  | 0 => 0
  | k + 1 => xs.getD k 0
def walkTo (xs : List Int) : Nat → Int
  | 0 => 0
  | k + 1 => walkTo xs k + max (beforeW xs k - xs.getD k 0) (xs.getD k 0 - beforeW xs k)
theorem walkTo_succ (xs : List Int) (k : Nat) : walkTo xs (k + 1) = walkTo xs k + max (beforeW xs k - xs.getD k 0) (xs.getD k 0 - beforeW xs k) := rfl
theorem walkTo_succ' (xs : List Int) (k : Nat) : walkTo xs (k + 1) = walkTo xs k + max (xs.getD k 0 - beforeW xs k) (beforeW xs k - xs.getD k 0) := by rw [walkTo_succ, Int.max_comm]
/-- A visit: at most nine stops, each of them from 0 to 8. -/
def OkW (xs : List Int) : Prop := xs.length ≤ 9 ∧ ∀ k, k < xs.length → 0 ≤ xs.getD k 0 ∧ xs.getD k 0 ≤ 8
theorem okW {ps : List (Int × Int)} {xs : List Int} (h : visB (stopsL ps) xs = true) : OkW xs := by
  obtain ⟨h1, h2⟩ := (visB_iff (stops_asc ps)).1 h
  refine ⟨by rw [h2]; exact stopsL_len ps, fun k hk => ?_⟩
  have := stops_bd ps (h1 k hk).1
  omega
theorem beforeW_bd {xs : List Int} (h : OkW xs) {k : Nat} (hk : k ≤ xs.length) : 0 ≤ beforeW xs k ∧ beforeW xs k ≤ 8 := by
  cases k with
  | zero => simp [beforeW]
  | succ k => exact h.2 k (by omega)
theorem walkTo_bd {xs : List Int} (h : OkW xs) : ∀ k : Nat, k ≤ xs.length → 0 ≤ walkTo xs k ∧ walkTo xs k ≤ 8 * k
  | 0, _ => by simp [walkTo]
  | k + 1, hk => by
    have ih := walkTo_bd h k (by omega)
    have h1 := h.2 k (by omega)
    have h2 := beforeW_bd h (k := k) (by omega)
    rw [walkTo]
    omega
def wkC (ps : List (Int × Int)) (xs : List Int) : Int := if vldQ ps = true then (if visB (stopsL ps) xs = true then 0 else 4) else 1
def wkR (ps : List (Int × Int)) (xs : List Int) : Int := if vldQ ps = true ∧ visB (stopsL ps) xs = true then walkTo xs xs.length else 0
end Go.Proofs.Yteecpijfikgjnaa
