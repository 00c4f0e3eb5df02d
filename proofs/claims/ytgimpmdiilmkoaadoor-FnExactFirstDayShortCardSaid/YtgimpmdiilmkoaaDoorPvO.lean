/-
  A stable sort of indices by the days of vouchers: plain, what an insertion sort keeps.
-/
import Derived.Test.YtgimpmdiilmkoaaDoorVoP
namespace Go.Proofs.YtgimpmdiilmkoaaDoor
open Go Go.RowKit
set_option linter.unusedVariables false

def unt (ps : List (Int × Int)) (x : Nat) : Int := (ps.getD x (0, 0)).2
/-- cmp.Compare. -/
def cmpY (x y : Int) : Int := if x < y then -1 else if y < x then 1 else 0
theorem cmpY_neg (x y : Int) : cmpY x y < 0 ↔ x < y := by unfold cmpY; split <;> (try split) <;> omega
def LU (ps : List (Int × Int)) (x y : Nat) : Prop := unt ps x < unt ps y ∨ (unt ps x = unt ps y ∧ x < y)
theorem LU.trans {ps : List (Int × Int)} {x y z : Nat} (h : LU ps x y) (k : LU ps y z) : LU ps x z := by unfold LU at *; omega
theorem LU.irr {ps : List (Int × Int)} {x y : Nat} (h : LU ps x y) (k : LU ps y x) : False := by unfold LU at *; omega
theorem LU.of_le {ps : List (Int × Int)} {x y : Nat} (h : ¬ unt ps y < unt ps x) (k : x < y) : LU ps x y := by unfold LU; omega

def SortedU (ps : List (Int × Int)) (ns : List Nat) (k : Nat) : Prop := ∀ a b, a < b → b < k → LU ps (ns.getD a 0) (ns.getD b 0)
def InsU (ps : List (Int × Int)) (ns : List Nat) (k j : Nat) : Prop := (∀ a b, a < b → b ≤ k → a ≠ j → b ≠ j → LU ps (ns.getD a 0) (ns.getD b 0)) ∧ ∀ b, j < b → b ≤ k → LU ps (ns.getD j 0) (ns.getD b 0)
def swU (ns : List Nat) (j : Nat) : List Nat := (ns.set j (ns.getD (j - 1) 0)).set (j - 1) (ns.getD j 0)
theorem swU_len (ns : List Nat) (j : Nat) : (swU ns j).length = ns.length := by simp [swU]
theorem swU_perm {ns : List Nat} {j : Nat} (hj : j < ns.length) : (swU ns j).Perm ns := by
  have h := @List.set_set_perm Nat ns j (j - 1) hj (by omega)
  have e1 : ns.getD (j - 1) 0 = ns[j - 1] := by simp [List.getD, show j - 1 < ns.length by omega]
  have e2 : ns.getD j 0 = ns[j] := by simp [List.getD, hj]
  unfold swU
  rw [e1, e2]
  exact h
theorem swU_get {ns : List Nat} {j c : Nat} (hj : j < ns.length) (h1 : 1 ≤ j) : (swU ns j).getD c 0 = if c = j then ns.getD (j - 1) 0 else if c = j - 1 then ns.getD j 0 else ns.getD c 0 := by
  unfold swU
  by_cases e1 : c = j
  · subst e1
    rw [if_pos rfl, List.getD, List.getElem?_set_ne (by omega)]
    simp [hj]
  · rw [if_neg e1]
    by_cases e2 : c = j - 1
    · subst e2
      rw [if_pos rfl, List.getD]
      simp [show j - 1 < ns.length by omega]
    · rw [if_neg e2, List.getD, List.getElem?_set_ne (by omega), List.getElem?_set_ne (by omega)]
      rfl
theorem InsU.start {ps : List (Int × Int)} {ns : List Nat} {k : Nat} (h : SortedU ps ns k) : InsU ps ns k k :=
  ⟨fun a b hab hb ha hbk => h a b hab (by omega), fun b h1 h2 => by omega⟩
theorem InsU.swap {ps : List (Int × Int)} {ns : List Nat} {k j : Nat} (h : InsU ps ns k j) (hj : j < ns.length) (h1 : 1 ≤ j) (hl : LU ps (ns.getD j 0) (ns.getD (j - 1) 0)) : InsU ps (swU ns j) k (j - 1) := by
  refine ⟨fun a b hab hb ha hbj => ?_, fun b hb hbk => ?_⟩
  · rw [swU_get hj h1, swU_get hj h1]
    by_cases e1 : a = j
    · rw [if_pos e1, if_neg (by omega), if_neg (by omega)]
      exact h.1 (j - 1) b (by omega) hb (by omega) (by omega)
    · rw [if_neg e1, if_neg ha]
      by_cases e2 : b = j
      · rw [if_pos e2]
        exact h.1 a (j - 1) (by omega) (by omega) e1 (by omega)
      · rw [if_neg e2, if_neg hbj]
        exact h.1 a b hab hb e1 e2
  · rw [swU_get hj h1, swU_get hj h1, if_neg (by omega), if_pos rfl]
    by_cases e : b = j
    · rw [if_pos e]; exact hl
    · rw [if_neg e, if_neg (by omega)]
      exact h.2 b (by omega) hbk
theorem InsU.done {ps : List (Int × Int)} {ns : List Nat} {k j : Nat} (h : InsU ps ns k j) (hl : 1 ≤ j → LU ps (ns.getD (j - 1) 0) (ns.getD j 0)) : SortedU ps ns (k + 1) := fun a b hab hb => by
  by_cases e1 : a = j
  · subst e1; exact h.2 b hab (by omega)
  · by_cases e2 : b = j
    · subst e2
      by_cases e3 : a = b - 1
      · subst e3; exact hl (by omega)
      · exact (h.1 a (b - 1) (by omega) (by omega) e1 (by omega)).trans (hl (by omega))
    · exact h.1 a b hab (by omega) e1 e2


/-- The first k indices are the first k of the row, the others stand where they stood. -/
def PreU (ns : List Nat) (n k : Nat) : Prop := (∀ i, i < k → ns.getD i 0 < k) ∧ ∀ i, k ≤ i → i < n → ns.getD i 0 = i
def OldU (ns : List Nat) (n k j : Nat) : Prop := ns.getD j 0 = k ∧ (∀ i, i ≤ k → i ≠ j → ns.getD i 0 < k) ∧ ∀ i, k < i → i < n → ns.getD i 0 = i
theorem range_getD {n i : Nat} (h : i < n) : (List.range n).getD i 0 = i := by simp [List.getD, h]
theorem PreU.one {n : Nat} (h : 1 ≤ n) : PreU (List.range n) n 1 := ⟨fun i hi => by rw [range_getD (by omega)]; omega, fun i _ hi => range_getD hi⟩
theorem OldU.start {ns : List Nat} {n k : Nat} (h : PreU ns n k) (hk : k < n) : OldU ns n k k := ⟨h.2 k (Nat.le_refl _) hk, fun i hi hne => h.1 i (by omega), fun i hi hn => h.2 i (by omega) hn⟩
theorem OldU.swap {ns : List Nat} {n k j : Nat} (h : OldU ns n k j) (hj : j < ns.length) (h1 : 1 ≤ j) (hk : j ≤ k) : OldU (swU ns j) n k (j - 1) := by
  refine ⟨?_, fun i hi hne => ?_, fun i hi hn => ?_⟩
  · rw [swU_get hj h1, if_neg (by omega), if_pos rfl]; exact h.1
  · rw [swU_get hj h1]
    by_cases e : i = j
    · rw [if_pos e]; exact h.2.1 (j - 1) (by omega) (by omega)
    · rw [if_neg e, if_neg hne]; exact h.2.1 i hi e
  · rw [swU_get hj h1, if_neg (by omega), if_neg (by omega)]; exact h.2.2 i hi hn
theorem OldU.done {ns : List Nat} {n k j : Nat} (h : OldU ns n k j) : PreU ns n (k + 1) := ⟨fun i hi => by
    by_cases e : i = j
    · subst e; rw [h.1]; omega
    · have := h.2.1 i (by omega) e; omega, fun i hi hn => h.2.2 i (by omega) hn⟩
theorem sortedU_one (ps : List (Int × Int)) : ∀ (A B : List Nat), A.Pairwise (LU ps) → B.Pairwise (LU ps) → (∀ k, k ∈ A ↔ k ∈ B) → A = B
  | [], [], _, _, _ => rfl
  | [], b :: B, _, _, h => absurd ((h b).2 List.mem_cons_self) (by simp)
  | a :: A, [], _, _, h => absurd ((h a).1 List.mem_cons_self) (by simp)
  | a :: A, b :: B, hA, hB, h => by
    rw [List.pairwise_cons] at hA hB
    have e : a = b := by
      rcases Decidable.em (a = b) with e | e
      · exact e
      · have h1 : a ∈ B := by
          rcases List.mem_cons.1 ((h a).1 List.mem_cons_self) with e1 | e1
          · exact absurd e1 e
          · exact e1
        have h2 : b ∈ A := by
          rcases List.mem_cons.1 ((h b).2 List.mem_cons_self) with e1 | e1
          · exact absurd e1.symm e
          · exact e1
        exact (LU.irr (hA.1 b h2) (hB.1 a h1)).elim
    subst e
    have na : a ∉ A := fun h1 => LU.irr (hA.1 a h1) (hA.1 a h1)
    have nb : a ∉ B := fun h1 => LU.irr (hB.1 a h1) (hB.1 a h1)
    rw [sortedU_one ps A B hA.2 hB.2 (fun k => ⟨fun hk => by
      rcases List.mem_cons.1 ((h k).1 (List.mem_cons_of_mem _ hk)) with e1 | e1
      · subst e1; exact absurd hk na
      · exact e1, fun hk => by
      rcases List.mem_cons.1 ((h k).2 (List.mem_cons_of_mem _ hk)) with e1 | e1
      · subst e1; exact absurd hk nb
      · exact e1⟩)]
end Go.Proofs.YtgimpmdiilmkoaaDoor
