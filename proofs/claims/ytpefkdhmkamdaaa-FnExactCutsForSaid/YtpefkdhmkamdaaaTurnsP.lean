/-
  The turns of a box, told by its sides in order (x ≤ y ≤ z): plain lists.
-/
import Derived.Test.YtpefkdhmkamdaaaTrip
namespace Go.Proofs.Ytpefkdhmkamdaaa
open Go Go.RowKit
set_option linter.unusedVariables false

def turnsL (x y z : Int) : List Tri :=
  if x = y then (if y = z then [(x, y, z)] else [(x, y, z), (x, z, y), (z, x, y)])
  else if y = z then [(x, y, z), (y, x, z), (y, z, x)]
  else [(x, y, z), (x, z, y), (y, x, z), (y, z, x), (z, x, y), (z, y, x)]
def all6 (x y z : Int) : List Tri := [(x, y, z), (x, z, y), (y, x, z), (y, z, x), (z, x, y), (z, y, x)]
/-- What has been kept of a list's first elements: each one once. -/
def fresh1 (acc : List Tri) (t : Tri) : List Tri := if t ∈ acc then acc else acc ++ [t]
def dedup (l : List Tri) : List Tri := l.foldl fresh1 []
theorem dedup_snoc (l : List Tri) (t : Tri) : dedup (l ++ [t]) = fresh1 (dedup l) t := by simp [dedup]
theorem fresh1_length (acc : List Tri) (t : Tri) : (fresh1 acc t).length ≤ acc.length + 1 := by unfold fresh1; split <;> simp
theorem dedup_length (l : List Tri) : (dedup l).length ≤ l.length := by
  have h : ∀ (l acc : List Tri), (l.foldl fresh1 acc).length ≤ acc.length + l.length := by
    intro l
    induction l with
    | nil => intro acc; simp
    | cons a l ih =>
      intro acc
      have h1 := ih (fresh1 acc a)
      have h2 := fresh1_length acc a
      rw [List.foldl_cons, List.length_cons]; omega
  have := h l []
  simpa [dedup] using this
theorem dedup_all6 {x y z : Int} (h1 : x ≤ y) (h2 : y ≤ z) : dedup (all6 x y z) = turnsL x y z := by
  unfold turnsL
  by_cases e1 : x = y
  · by_cases e2 : y = z
    · subst e1; subst e2; simp [dedup, all6, fresh1]
    · subst e1
      have e3 : ¬ z = x := fun h => e2 h.symm
      simp [dedup, all6, fresh1, e2, e3]
  · have e1' : ¬ y = x := fun h => e1 h.symm
    by_cases e2 : y = z
    · subst e2; simp [dedup, all6, fresh1, e1, e1']
    · have e2' : ¬ z = y := fun h => e2 h.symm
      have e3 : ¬ x = z := by omega
      have e3' : ¬ z = x := by omega
      simp [dedup, all6, fresh1, e1, e1', e2, e2', e3, e3']
/-- A turn whose sides are in range. -/
def OkT (t : Tri) : Prop := 1 ≤ t.1 ∧ t.1 ≤ 60 ∧ 1 ≤ t.2.1 ∧ t.2.1 ≤ 60 ∧ 1 ≤ t.2.2 ∧ t.2.2 ≤ 60
theorem turnsL_ok {x y z : Int} (hx : 1 ≤ x) (hxy : x ≤ y) (hyz : y ≤ z) (hz : z ≤ 60) : ∀ t ∈ turnsL x y z, OkT t := by
  intro t ht
  unfold turnsL at ht
  unfold OkT
  split at ht
  · split at ht
    · simp only [List.mem_cons, List.not_mem_nil, or_false] at ht; subst ht; simp only; omega
    · simp only [List.mem_cons, List.not_mem_nil, or_false] at ht; rcases ht with rfl | rfl | rfl <;> (simp only; omega)
  · split at ht
    · simp only [List.mem_cons, List.not_mem_nil, or_false] at ht; rcases ht with rfl | rfl | rfl <;> (simp only; omega)
    · simp only [List.mem_cons, List.not_mem_nil, or_false] at ht; rcases ht with rfl | rfl | rfl | rfl | rfl | rfl <;> (simp only; omega)
theorem turnsL_len (x y z : Int) : 1 ≤ (turnsL x y z).length ∧ (turnsL x y z).length ≤ 6 := by
  unfold turnsL
  split <;> split <;> simp
abbrev Turn := { t : Tri // OkT t }
/-- The order that is next. -/
def nextT (t : Tri) : Tri := if t.2.1 < t.2.2 then (t.1, t.2.2, t.2.1) else if t.1 < t.2.2 then (t.2.2, t.1, t.2.1) else (t.2.1, t.2.2, t.1)
/-- A number that grows from turn to turn. -/
def rankT (t : Tri) : Int := t.1 * 100000 + t.2.1 * 300 + t.2.2
theorem turnsL_first (x y z : Int) : (turnsL x y z).getD 0 (0, 0, 0) = (x, y, z) := by unfold turnsL; split <;> split <;> rfl
theorem turnsL_last (x y z : Int) (k : Nat) (hk : k + 1 = (turnsL x y z).length) : (turnsL x y z).getD k (0, 0, 0) = (z, y, x) := by
  unfold turnsL at hk ⊢
  by_cases e1 : x = y
  · by_cases e2 : y = z
    · subst e1; subst e2
      simp only [if_true] at hk ⊢
      obtain rfl : k = 0 := by simpa using hk
      rfl
    · subst e1
      simp only [if_true, if_neg e2] at hk ⊢
      obtain rfl : k = 2 := by simpa using hk
      rfl
  · by_cases e2 : y = z
    · subst e2
      simp only [if_true, if_neg e1] at hk ⊢
      obtain rfl : k = 2 := by simpa using hk
      rfl
    · simp only [if_neg e1, if_neg e2] at hk ⊢
      obtain rfl : k = 5 := by simpa using hk
      rfl
theorem nextT_a {x y z : Int} (h : y < z) : nextT (x, y, z) = (x, z, y) := by unfold nextT; rw [if_pos h]
theorem nextT_b {x y z : Int} (h : ¬ y < z) (g : x < z) : nextT (x, y, z) = (z, x, y) := by unfold nextT; rw [if_neg h, if_pos g]
theorem nextT_c {x y z : Int} (h : ¬ y < z) (g : ¬ x < z) : nextT (x, y, z) = (y, z, x) := by unfold nextT; rw [if_neg h, if_neg g]
theorem tri_ne {a b c x y z : Int} (h : a ≠ x ∨ b ≠ y ∨ c ≠ z) : ((a, b, c) : Tri) ≠ (x, y, z) := fun e => by
  simp only [Prod.mk.injEq] at e; omega
theorem turnsL_step {x y z : Int} (h1 : x ≤ y) (h2 : y ≤ z) (hx : 1 ≤ x) (hz : z ≤ 60) (k : Nat) (hk : k + 1 < (turnsL x y z).length) :
    nextT ((turnsL x y z).getD k (0, 0, 0)) = (turnsL x y z).getD (k + 1) (0, 0, 0) ∧ (turnsL x y z).getD k (0, 0, 0) ≠ (z, y, x) ∧ rankT ((turnsL x y z).getD k (0, 0, 0)) < rankT ((turnsL x y z).getD (k + 1) (0, 0, 0)) := by
  unfold turnsL at hk ⊢
  by_cases e1 : x = y
  · by_cases e2 : y = z
    · subst e1; subst e2
      simp only [if_true] at hk ⊢
      simp at hk
    · subst e1
      simp only [if_true, if_neg e2] at hk ⊢
      have hk2 : k < 2 := by simp at hk; omega
      obtain rfl | rfl : k = 0 ∨ k = 1 := by omega
      · exact ⟨nextT_a (by omega), tri_ne (by omega), by show x * 100000 + x * 300 + z < x * 100000 + z * 300 + x; omega⟩
      · exact ⟨nextT_c (by omega) (by omega), tri_ne (by omega), by show x * 100000 + z * 300 + x < z * 100000 + x * 300 + x; omega⟩
  · by_cases e2 : y = z
    · subst e2
      simp only [if_true, if_neg e1] at hk ⊢
      have hk2 : k < 2 := by simp at hk; omega
      obtain rfl | rfl : k = 0 ∨ k = 1 := by omega
      · exact ⟨nextT_b (by omega) (by omega), tri_ne (by omega), by show x * 100000 + y * 300 + y < y * 100000 + x * 300 + y; omega⟩
      · exact ⟨nextT_a (by omega), tri_ne (by omega), by show y * 100000 + x * 300 + y < y * 100000 + y * 300 + x; omega⟩
    · simp only [if_neg e1, if_neg e2] at hk ⊢
      have hk2 : k < 5 := by simp at hk; omega
      obtain rfl | rfl | rfl | rfl | rfl : k = 0 ∨ k = 1 ∨ k = 2 ∨ k = 3 ∨ k = 4 := by omega
      · exact ⟨nextT_a (by omega), tri_ne (by omega), by show x * 100000 + y * 300 + z < x * 100000 + z * 300 + y; omega⟩
      · exact ⟨nextT_b (by omega) (by omega), tri_ne (by omega), by show x * 100000 + z * 300 + y < y * 100000 + x * 300 + z; omega⟩
      · exact ⟨nextT_a (by omega), tri_ne (by omega), by show y * 100000 + x * 300 + z < y * 100000 + z * 300 + x; omega⟩
      · exact ⟨nextT_c (by omega) (by omega), tri_ne (by omega), by show y * 100000 + z * 300 + x < z * 100000 + x * 300 + y; omega⟩
      · exact ⟨nextT_a (by omega), tri_ne (by omega), by show z * 100000 + x * 300 + y < z * 100000 + y * 300 + x; omega⟩
end Go.Proofs.Ytpefkdhmkamdaaa
