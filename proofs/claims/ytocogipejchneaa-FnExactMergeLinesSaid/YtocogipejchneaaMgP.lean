/-
  Lines merged by classes (plain).
-/
import Derived.Test.YtocogipejchneaaCuK
namespace Go.Proofs.Ytocogipejchneaa
open Go Go.RowKit
set_option linter.unusedVariables false

def mgOne (ls : List Quad) (j : Nat) : Quad := ((j : Int), q1 ls j ls.length, q2 ls j ls.length, q3 ls j ls.length)
def mgT (ls : List Quad) : Nat → List Quad
  | 0 => []
  | k + 1 => if q0 ls k ls.length = 0 then mgT ls k else mgT ls k ++ [mgOne ls k]
theorem mgT_skip {ls : List Quad} {k : Nat} (h : q0 ls k ls.length = 0) : mgT ls (k + 1) = mgT ls k := by rw [mgT, if_pos h]
theorem mgT_add {ls : List Quad} {k : Nat} (h : ¬ q0 ls k ls.length = 0) : mgT ls (k + 1) = mgT ls k ++ [mgOne ls k] := by rw [mgT, if_neg h]
theorem mgT_len (ls : List Quad) : ∀ k, (mgT ls k).length ≤ k
  | 0 => Nat.le_refl _
  | k + 1 => by
    unfold mgT
    have := mgT_len ls k
    split
    · omega
    · rw [List.length_append]; simp; exact this
theorem mgT_mem (ls : List Quad) : ∀ (k : Nat) (x : Quad), x ∈ mgT ls k ↔ ∃ j, j < k ∧ q0 ls j ls.length ≠ 0 ∧ x = mgOne ls j
  | 0, x => by simp [mgT]
  | k + 1, x => by
    have ih := mgT_mem ls k x
    by_cases h : q0 ls k ls.length = 0
    · rw [mgT_skip h, ih]
      constructor
      · rintro ⟨j, hj, h1, h2⟩; exact ⟨j, by omega, h1, h2⟩
      · rintro ⟨j, hj, h1, h2⟩
        refine ⟨j, ?_, h1, h2⟩
        by_cases e : j = k
        · subst e; exact absurd h h1
        · omega
    · rw [mgT_add h, List.mem_append, ih]
      constructor
      · rintro (⟨j, hj, h1, h2⟩ | hx)
        · exact ⟨j, by omega, h1, h2⟩
        · exact ⟨k, by omega, h, by simpa using hx⟩
      · rintro ⟨j, hj, h1, h2⟩
        by_cases e : j = k
        · subst e; exact .inr (by simp [h2])
        · exact .inl ⟨j, by omega, h1, h2⟩
theorem mgT_asc (ls : List Quad) : ∀ k, (mgT ls k).Pairwise (fun a b => a.1 < b.1)
  | 0 => List.Pairwise.nil
  | k + 1 => by
    have ih := mgT_asc ls k
    unfold mgT
    split
    · exact ih
    · refine List.pairwise_append.2 ⟨ih, by simp, fun a ha b hb => ?_⟩
      obtain ⟨j, hj, _, rfl⟩ := (mgT_mem ls k a).1 ha
      have : b = mgOne ls k := by simpa using hb
      subst this
      show ((j : Nat) : Int) < ((k : Nat) : Int)
      omega
/-- Two rising lists of the same things are the same. -/
theorem quad_one : ∀ {A B : List Quad}, A.Pairwise (fun a b => a.1 < b.1) → B.Pairwise (fun a b => a.1 < b.1) → (∀ x, x ∈ A ↔ x ∈ B) → A = B
  | [], [], _, _, _ => rfl
  | [], b :: B, _, _, h => by have := (h b).2 (by simp); cases this
  | a :: A, [], _, _, h => by have := (h a).1 (by simp); cases this
  | a :: A, b :: B, ha, hb, h => by
    have ha' := List.pairwise_cons.1 ha
    have hb' := List.pairwise_cons.1 hb
    have e : a = b := by
      rcases List.mem_cons.1 ((h a).1 (by simp)) with e | e
      · exact e
      · rcases List.mem_cons.1 ((h b).2 (by simp)) with e2 | e2
        · exact e2.symm
        · have h1 := hb'.1 a e
          have h2 := ha'.1 b e2
          omega
    subst e
    congr 1
    refine quad_one ha'.2 hb'.2 (fun x => ?_)
    constructor
    · intro hx
      rcases List.mem_cons.1 ((h x).1 (List.mem_cons_of_mem _ hx)) with e | e
      · subst e
        have := ha'.1 x hx
        omega
      · exact e
    · intro hx
      rcases List.mem_cons.1 ((h x).2 (List.mem_cons_of_mem _ hx)) with e | e
      · subst e
        have := hb'.1 x hx
        omega
      · exact e
theorem q1_ge {n : Nat} {ls : List Quad} {c : Int} : ∀ {k : Nat}, OkLTo n ls k → q0 ls c k ≤ q1 ls c k
  | 0, _ => by simp [q0, q1, sumIf]
  | k + 1, h => by
    have ih := q1_ge (c := c) (fun i hi => h i (by omega) : OkLTo n ls k)
    have hk := h k (by omega)
    unfold okL at hk
    unfold q0 q1 at ih ⊢
    rw [sumIf, sumIf]
    split <;> omega
def mgBad (ls : List Quad) (j : Nat) : Prop := q0 ls j ls.length ≠ 0 ∧ ¬ (q1 ls j ls.length ≤ 1000 ∧ q2 ls j ls.length ≤ 1000000 ∧ q3 ls j ls.length ≤ 1000000)
theorem mg_ok {cs ls : List Quad} (h : vldF cs ls = true) {j : Nat} (hj : j < cs.length) (h0 : q0 ls j ls.length ≠ 0) : okL cs.length (mgOne ls j) ↔ (q1 ls j ls.length ≤ 1000 ∧ q2 ls j ls.length ≤ 1000000 ∧ q3 ls j ls.length ≤ 1000000) := by
  obtain ⟨hvc, h10, hok⟩ := vldF_spec h
  have h1 := qs_in (n := cs.length) (j : Int) hok
  have h2 := q1_ge (c := (j : Int)) hok
  unfold okL mgOne
  simp only
  omega
def mgC (cs ls : List Quad) : Int := if vldF cs ls = true then (if vldF cs (mgT ls cs.length) = true then 0 else 3) else 1
def mgR (cs ls : List Quad) : List Quad := if mgC cs ls = 0 then mgT ls cs.length else []
theorem mg_inv {cs ls : List Quad} (h : vldF cs ls = false) : mgR cs ls = [] ∧ mgC cs ls = 1 := by
  have e : mgC cs ls = 1 := by unfold mgC; rw [if_neg (by rw [h]; simp)]
  exact ⟨by unfold mgR; rw [e, if_neg (by decide)], e⟩
theorem mg_lim {cs ls : List Quad} (h : vldF cs ls = true) (h2 : vldF cs (mgT ls cs.length) = false) : mgR cs ls = [] ∧ mgC cs ls = 3 := by
  have e : mgC cs ls = 3 := by unfold mgC; rw [if_pos h, if_neg (by rw [h2]; simp)]
  exact ⟨by unfold mgR; rw [e, if_neg (by decide)], e⟩
theorem mg_yes {cs ls : List Quad} (h : vldF cs ls = true) (h2 : vldF cs (mgT ls cs.length) = true) : mgR cs ls = mgT ls cs.length ∧ mgC cs ls = 0 := by
  have e : mgC cs ls = 0 := by unfold mgC; rw [if_pos h, if_pos h2]
  exact ⟨by unfold mgR; rw [e, if_pos rfl], e⟩
theorem mg_bad {cs ls : List Quad} (h : vldF cs ls = true) {j : Nat} (hj : j < cs.length) (hb : mgBad ls j) : vldF cs (mgT ls cs.length) = false := by
  obtain ⟨i, hi, e⟩ := List.getElem_of_mem ((mgT_mem ls cs.length (mgOne ls j)).2 ⟨j, hj, hb.1, rfl⟩)
  exact vldF_bad (k := i) hi (by
    rw [show (mgT ls cs.length).getD i (0, 0, 0, 0) = mgOne ls j by rw [← e]; simp [List.getD, hi]]
    rw [mg_ok h hj hb.1]
    exact hb.2)
theorem mg_good {cs ls : List Quad} (h : vldF cs ls = true) (hb : ∀ j, j < cs.length → ¬ mgBad ls j) : vldF cs (mgT ls cs.length) = true := by
  have hvc := (vldF_spec h).1
  refine vldF_true hvc (by have := mgT_len ls cs.length; have := (vldC_spec hvc).1.2; omega) (fun i hi => ?_)
  have hm : (mgT ls cs.length)[i] ∈ mgT ls cs.length := List.getElem_mem hi
  obtain ⟨j, hj, h0, e⟩ := (mgT_mem ls cs.length _).1 hm
  rw [show (mgT ls cs.length).getD i (0, 0, 0, 0) = mgOne ls j by rw [← e]; simp [List.getD, hi]]
  rw [mg_ok h hj h0]
  by_cases hc : (q1 ls j ls.length ≤ 1000 ∧ q2 ls j ls.length ≤ 1000000 ∧ q3 ls j ls.length ≤ 1000000)
  · exact hc
  · exact absurd ⟨h0, hc⟩ (hb j hj)
/-- Validity asks nothing of the order. -/
theorem vldF_perm {cs A B : List Quad} (h : A.Perm B) (hv : vldF cs A = true) : vldF cs B = true := by
  obtain ⟨h1, h2, h3⟩ := vldF_spec hv
  refine vldF_true h1 (by rw [← h.length_eq]; exact h2) (fun i hi => ?_)
  have hm : B[i] ∈ A := h.mem_iff.2 (List.getElem_mem hi)
  obtain ⟨k, hk, e⟩ := List.getElem_of_mem hm
  have := h3 k hk
  rw [show A.getD k (0, 0, 0, 0) = B[i] by rw [← e]; simp [List.getD, hk]] at this
  rw [show B.getD i (0, 0, 0, 0) = B[i] by simp [List.getD, hi]]
  exact this
theorem mgR_len (cs ls : List Quad) : (mgR cs ls).length ≤ 10 := by
  unfold mgR
  split
  · rename_i h
    unfold mgC at h
    split at h
    · split at h
      · rename_i h2; exact (vldF_spec h2).2.1
      · cases h
    · cases h
  · simp
end Go.Proofs.Ytocogipejchneaa
