/-
  The lines of a text, one after the other (plain).
-/
import Derived.Test.YtbclmafplaipaaaDoorRdP
import Derived.Test.YtbclmafplaipaaaDoorTrm
import Derived.Lib.Bytealg
namespace Go.Proofs.YtbclmafplaipaaaDoor
open Go Go.RowKit
set_option linter.unusedVariables false

/-- The lines of a text: what strings.Lines gives, each without its line feed. -/
def lns (rest : List UInt8) : List (List UInt8) := if (spl 10 rest).getLast? = some [] then (spl 10 rest).dropLast else spl 10 rest
theorem split10 : ∀ r : List UInt8, (10 : UInt8) ∉ r ∨ ∃ x y, r = x ++ 10 :: y ∧ (10 : UInt8) ∉ x
  | [] => .inl (by simp)
  | b :: r => by
    by_cases h : b = 10
    · exact .inr ⟨[], r, by rw [h]; rfl, by simp⟩
    · rcases split10 r with h1 | ⟨x, y, e, hx⟩
      · exact .inl (by simp only [List.mem_cons, not_or]; exact ⟨fun e => h e.symm, h1⟩)
      · exact .inr ⟨b :: x, y, by rw [e]; rfl, by simp only [List.mem_cons, not_or]; exact ⟨fun e => h e.symm, hx⟩⟩
theorem idx_none : ∀ {r : List UInt8}, (10 : UInt8) ∉ r → Lib.indexByte r 10 = -1
  | [], _ => rfl
  | b :: r, h => by
    simp only [List.mem_cons, not_or] at h
    unfold Lib.indexByte
    rw [idx_none h.2]
    have : (b == 10) = false := by rw [beq_eq_false_iff_ne]; exact fun e => h.1 e.symm
    rw [this]; rfl
theorem idx_some : ∀ {x : List UInt8} (y : List UInt8), (10 : UInt8) ∉ x → Lib.indexByte (x ++ 10 :: y) 10 = x.length
  | [], y, _ => by simp [Lib.indexByte]
  | b :: x, y, h => by
    simp only [List.mem_cons, not_or] at h
    rw [List.cons_append]
    unfold Lib.indexByte
    rw [idx_some y h.2]
    have h1 : (b == 10) = false := by rw [beq_eq_false_iff_ne]; exact fun e => h.1 e.symm
    have h2 : ((x.length : Int) == -1) = false := by rw [beq_eq_false_iff_ne]; omega
    rw [h1, h2]
    simp
/-- The first line, with its line feed, and what is left behind it. -/
def lnN (r : List UInt8) : List UInt8 := if 0 ≤ Lib.indexByte r 10 then r.take ((Lib.indexByte r 10).toNat + 1) else r
def rsN (r : List UInt8) : List UInt8 := if 0 ≤ Lib.indexByte r 10 then r.drop ((Lib.indexByte r 10).toNat + 1) else []
theorem ln_none {r : List UInt8} (h : (10 : UInt8) ∉ r) : lnN r = r ∧ rsN r = [] := by unfold lnN rsN; rw [idx_none h]; simp
theorem ln_some {x : List UInt8} (y : List UInt8) (h : (10 : UInt8) ∉ x) : lnN (x ++ 10 :: y) = x ++ [10] ∧ rsN (x ++ 10 :: y) = y := by
  unfold lnN rsN
  rw [idx_some y h]
  simp [List.take_append, List.drop_append]
  exact List.take_of_length_le (by omega)
theorem lns_nil : lns [] = [] := rfl
theorem trim_free {x : List UInt8} (h : (10 : UInt8) ∉ x) : trimS x = x := by
  unfold trimS
  rw [if_neg]
  intro e
  exact h (List.mem_of_getLast? e)
theorem trim_feed (x : List UInt8) : trimS (x ++ [10]) = x := by
  unfold trimS
  rw [if_pos (by simp), List.dropLast_concat]
theorem lns_cons {r : List UInt8} (h : r ≠ []) : lns r = trimS (lnN r) :: lns (rsN r) := by
  rcases split10 r with h1 | ⟨x, y, rfl, hx⟩
  · rw [(ln_none h1).1, (ln_none h1).2, trim_free h1, lns_nil]
    unfold lns
    rw [spl_free h1, if_neg (by simpa using h)]
  · rw [(ln_some y hx).1, (ln_some y hx).2, trim_feed]
    unfold lns
    rw [spl_app y hx]
    have hne := spl_ne 10 y
    rw [List.getLast?_cons_of_ne_nil hne, List.dropLast_cons_of_ne_nil hne]
    split <;> rfl
/-- What is left behind k lines. -/
def rsK (rest : List UInt8) : Nat → List UInt8
  | 0 => rest
  | k + 1 => rsN (rsK rest k)
theorem lns_drop (rest : List UInt8) : ∀ k, k ≤ (lns rest).length → lns (rsK rest k) = (lns rest).drop k
  | 0, _ => rfl
  | k + 1, h => by
    have ih := lns_drop rest k (by omega)
    have hne : rsK rest k ≠ [] := by
      intro e
      rw [e, lns_nil] at ih
      have := congrArg List.length ih
      simp at this
      omega
    rw [lns_cons hne] at ih
    rw [rsK, ← List.drop_drop, ← ih]
    rfl
theorem rs_end {rest : List UInt8} {k : Nat} (h : k ≤ (lns rest).length) : rsK rest k = [] ↔ k = (lns rest).length := by
  have e := lns_drop rest k h
  constructor
  · intro h0
    rw [h0, lns_nil] at e
    have := congrArg List.length e
    simp at this
    omega
  · intro h0
    cases hr : rsK rest k with
    | nil => rfl
    | cons b r =>
      rw [hr, lns_cons (by simp), h0, List.drop_length] at e
      cases e
theorem ln_at {rest : List UInt8} {k : Nat} (h : k < (lns rest).length) : trimS (lnN (rsK rest k)) = (lns rest).getD k [] := by
  have e := lns_drop rest k (by omega)
  have hne : rsK rest k ≠ [] := fun h0 => by have := (rs_end (by omega)).1 h0; omega
  rw [lns_cons hne] at e
  have := congrArg (fun l => l.getD 0 []) e
  simpa [List.getD] using this
theorem rsN_len (r : List UInt8) : (rsN r).length ≤ r.length := by unfold rsN; split <;> simp
theorem lnN_len (r : List UInt8) : (lnN r).length ≤ r.length := by unfold lnN; split <;> simp <;> omega
theorem rsK_len (rest : List UInt8) : ∀ k, (rsK rest k).length ≤ rest.length
  | 0 => Nat.le_refl _
  | k + 1 => Nat.le_trans (rsN_len _) (rsK_len rest k)
theorem lns_len : ∀ (n : Nat) (r : List UInt8), r.length ≤ n → (lns r).length ≤ r.length
  | 0, r, h => by
    have : r = [] := List.eq_nil_of_length_eq_zero (by omega)
    rw [this]; simp [lns_nil]
  | n + 1, r, h => by
    by_cases hne : r = []
    · rw [hne]; simp [lns_nil]
    · rw [lns_cons hne, List.length_cons]
      have hlt : (rsN r).length < r.length := by
        rcases split10 r with h1 | ⟨x, y, rfl, hx⟩
        · rw [(ln_none h1).2]; exact List.length_pos_iff.2 hne
        · rw [(ln_some y hx).2]; simp; omega
      have := lns_len n (rsN r) (by omega)
      omega
end Go.Proofs.YtbclmafplaipaaaDoor
