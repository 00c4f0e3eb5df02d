/-
  Contracts of both GapsUpTo.
-/
import Derived.Test.YtmhjckbndhcbmaaCan
namespace Go.Proofs.Ytmhjckbndhcbmaa
open Go Go.RowKit
set_option linter.unusedVariables false

/-- The gaps below k. -/
def gapsK (xs : List Int) : Nat → List Int
  | 0 => []
  | k + 1 => if fewV xs k < 0 then gapsK xs k ++ [(k : Int)] else gapsK xs k
theorem gapsK_hit {xs : List Int} {k : Nat} (h : fewV xs k < 0) : gapsK xs (k + 1) = gapsK xs k ++ [(k : Int)] := if_pos h
theorem gapsK_miss {xs : List Int} {k : Nat} (h : ¬ fewV xs k < 0) : gapsK xs (k + 1) = gapsK xs k := if_neg h
theorem gapsK_len (xs : List Int) (k : Nat) : (gapsK xs k).length ≤ k := by
  induction k with
  | zero => simp [gapsK]
  | succ k ih =>
    rw [gapsK]
    split
    · rw [List.length_append]; simp; exact ih
    · omega
theorem gapsK_one (xs : List Int) : gapsK xs 1 = [] := by
  have h : ¬ fewV xs 0 < 0 := by simp [fewV, fewAt]
  rw [gapsK_miss h]; rfl
theorem gapsK_pos (xs : List Int) (k : Nat) : ∀ x ∈ gapsK xs k, 1 ≤ x := by
  induction k with
  | zero => intro x hx; simp [gapsK] at hx
  | succ k ih =>
    intro x hx
    rw [gapsK] at hx
    split at hx
    · rename_i h
      rcases List.mem_append.1 hx with hx | hx
      · exact ih x hx
      · simp at hx
        have h0 : k ≠ 0 := fun e => by subst e; simp [fewV, fewAt] at h
        omega
    · exact ih x hx
def gapsRes (xs : List Int) (n : Int) : List Int := if codeOf xs (inB n 0 1000) = 0 then gapsK xs (n.toNat + 1) else []
theorem gapsRes_ok {xs : List Int} {n : Nat} (h : codeOf xs (inB (n : Int) 0 1000) = 0) : gapsRes xs (n : Int) = gapsK xs (n + 1) := by rw [gapsRes, if_pos h, Int.toNat_natCast]
theorem gapsRes_not {xs : List Int} {n : Int} (h : codeOf xs (inB n 0 1000) ≠ 0) : gapsRes xs n = [] := if_neg h
theorem gapsRes_len (xs : List Int) (n : Int) : (gapsRes xs n).length ≤ 1001 := by
  by_cases h : codeOf xs (inB n 0 1000) = 0
  · obtain ⟨_, _, _, g0, g1⟩ := code_facts h
    rw [gapsRes, if_pos h]
    have := gapsK_len xs (n.toNat + 1)
    omega
  · rw [gapsRes_not h]; simp

/-- A result: a slice that is the call's own, and a code. -/
def RetRow (B : Nat) (w : World) (xs : List Int) (c : Int) (e : Ending) (w' : World) : Prop := ∃ v, e = .returned (.tuple #[v, .int .i64 c]) ∧ OwnI B w' v xs ∧ Below w.heap.size w w'

theorem OwnI.of_row {B n : Nat} {w : World} {v : Value} {xs : List Int} (h : w.ownsRow B 2 1 v n (xs.map (Value.int .i64))) : OwnI B w v xs := by
  have hl : xs.length = n := by simpa using h.1
  subst hl
  exact h

end Go.Proofs.Ytmhjckbndhcbmaa
