/-
  The order of a load: what the insertion sort keeps, and that the model's list is the one that is sorted.
-/
import Derived.Test.YtadhoodddedjjaaLdD
namespace Go.Proofs.Ytadhoodddedjjaa
open Go Go.RowKit
set_option linter.unusedVariables false

def stp (ps : List (Int × Int)) (x : Nat) : Int := (ps.getD x (0, 0)).1
def LL (ps : List (Int × Int)) (x y : Nat) : Prop := stp ps y < stp ps x ∨ (stp ps y = stp ps x ∧ y < x)
theorem LL.trans {ps : List (Int × Int)} {x y z : Nat} (h : LL ps x y) (k : LL ps y z) : LL ps x z := by unfold LL at *; omega
theorem LL.total {ps : List (Int × Int)} {x y : Nat} (h : ¬ LL ps x y) (hn : x ≠ y) : LL ps y x := by unfold LL at *; omega
theorem LL.irr {ps : List (Int × Int)} {x y : Nat} (h : LL ps x y) (k : LL ps y x) : False := by unfold LL at *; omega
theorem cmpZ_neg (x y : Int) : cmpZ x y < 0 ↔ x < y := by unfold cmpZ; split <;> (try split) <;> omega
theorem cmpZ_zero (x y : Int) : cmpZ x y = 0 ↔ x = y := by unfold cmpZ; split <;> (try split) <;> omega
theorem cmpL_neg (ps : List (Int × Int)) (x y : Nat) : cmpL ps x y < 0 ↔ LL ps x y := by
  have h1 := cmpZ_neg (stp ps y) (stp ps x)
  have h2 := cmpZ_zero (stp ps y) (stp ps x)
  have h3 := cmpZ_neg (y : Int) (x : Int)
  have e : cmpL ps x y = orZ (cmpZ (stp ps y) (stp ps x)) (cmpZ (y : Int) (x : Int)) := rfl
  rw [e]
  unfold orZ LL
  split <;> omega

def SortedTo (ps : List (Int × Int)) (ns : List Nat) (k : Nat) : Prop := ∀ a b, a < b → b < k → LL ps (ns.getD a 0) (ns.getD b 0)
def InsTo (ps : List (Int × Int)) (ns : List Nat) (k j : Nat) : Prop := (∀ a b, a < b → b ≤ k → a ≠ j → b ≠ j → LL ps (ns.getD a 0) (ns.getD b 0)) ∧ ∀ b, j < b → b ≤ k → LL ps (ns.getD j 0) (ns.getD b 0)
def swp (ns : List Nat) (j : Nat) : List Nat := (ns.set j (ns.getD (j - 1) 0)).set (j - 1) (ns.getD j 0)
theorem swp_len (ns : List Nat) (j : Nat) : (swp ns j).length = ns.length := by simp [swp]
theorem swp_perm {ns : List Nat} {j : Nat} (hj : j < ns.length) : (swp ns j).Perm ns := by
  have h := @List.set_set_perm Nat ns j (j - 1) hj (by omega)
  have e1 : ns.getD (j - 1) 0 = ns[j - 1] := by simp [List.getD, show j - 1 < ns.length by omega]
  have e2 : ns.getD j 0 = ns[j] := by simp [List.getD, hj]
  unfold swp
  rw [e1, e2]
  exact h
theorem swp_get {ns : List Nat} {j c : Nat} (hj : j < ns.length) (h1 : 1 ≤ j) : (swp ns j).getD c 0 = if c = j then ns.getD (j - 1) 0 else if c = j - 1 then ns.getD j 0 else ns.getD c 0 := by
  unfold swp
  by_cases e1 : c = j
  · subst e1
    rw [if_pos rfl, List.getD, List.getElem?_set_ne (by omega)]
    simp [hj]
  · rw [if_neg e1]
    by_cases e2 : c = j - 1
    · subst e2
      rw [if_pos rfl, List.getD]
      simp [show j - 1 < ns.length by omega]
    · rw [if_neg e2, List.getD, List.getElem?_set_ne (by omega), List.getElem?_set_ne (by omega)]
      rfl
theorem InsTo.start {ps : List (Int × Int)} {ns : List Nat} {k : Nat} (h : SortedTo ps ns k) : InsTo ps ns k k :=
  ⟨fun a b hab hb ha hbk => h a b hab (by omega), fun b h1 h2 => by omega⟩
theorem InsTo.swap {ps : List (Int × Int)} {ns : List Nat} {k j : Nat} (h : InsTo ps ns k j) (hj : j < ns.length) (h1 : 1 ≤ j) (hl : LL ps (ns.getD j 0) (ns.getD (j - 1) 0)) : InsTo ps (swp ns j) k (j - 1) := by
  refine ⟨fun a b hab hb ha hbj => ?_, fun b hb hbk => ?_⟩
  · rw [swp_get hj h1, swp_get hj h1]
    by_cases e1 : a = j
    · rw [if_pos e1, if_neg (by omega), if_neg (by omega)]
      exact h.1 (j - 1) b (by omega) hb (by omega) (by omega)
    · rw [if_neg e1, if_neg ha]
      by_cases e2 : b = j
      · rw [if_pos e2]
        exact h.1 a (j - 1) (by omega) (by omega) e1 (by omega)
      · rw [if_neg e2, if_neg hbj]
        exact h.1 a b hab hb e1 e2
  · rw [swp_get hj h1, swp_get hj h1, if_neg (by omega), if_pos rfl]
    by_cases e : b = j
    · rw [if_pos e]; exact hl
    · rw [if_neg e, if_neg (by omega)]
      exact h.2 b (by omega) hbk
theorem InsTo.done {ps : List (Int × Int)} {ns : List Nat} {k j : Nat} (h : InsTo ps ns k j) (hl : 1 ≤ j → LL ps (ns.getD (j - 1) 0) (ns.getD j 0)) : SortedTo ps ns (k + 1) := fun a b hab hb => by
  by_cases e1 : a = j
  · subst e1; exact h.2 b hab (by omega)
  · by_cases e2 : b = j
    · subst e2
      by_cases e3 : a = b - 1
      · subst e3; exact hl (by omega)
      · exact (h.1 a (b - 1) (by omega) (by omega) e1 (by omega)).trans (hl (by omega))
    · exact h.1 a b hab (by omega) e1 e2

/-! The model's list. -/
def ldTn (ps : List (Int × Int)) (s : Int) : Nat → List Nat
  | 0 => []
  | r + 1 => (if (ps.getD r (0, 0)).1 = s then [r] else []) ++ ldTn ps s r
def ldUn (ps : List (Int × Int)) : Nat → List Nat
  | 0 => []
  | m + 1 => ldTn ps (m : Int) ps.length ++ ldUn ps m
theorem ldT_n (ps : List (Int × Int)) (s : Int) (r : Nat) : ldT ps s r = (ldTn ps s r).map Int.ofNat := by
  induction r with
  | zero => rfl
  | succ r ih => rw [ldT, ldTn, List.map_append, ih]; split <;> rfl
theorem ldU_n (ps : List (Int × Int)) (m : Nat) : ldU ps m = (ldUn ps m).map Int.ofNat := by
  induction m with
  | zero => rfl
  | succ m ih => rw [ldU, ldUn, List.map_append, ih, ldT_n]
theorem mem_ldTn (ps : List (Int × Int)) (s : Int) (r k : Nat) : k ∈ ldTn ps s r ↔ k < r ∧ stp ps k = s := by
  induction r with
  | zero => simp [ldTn]
  | succ r ih =>
    rw [ldTn, List.mem_append, ih]
    by_cases h : (ps.getD r (0, 0)).1 = s
    · rw [if_pos h]
      simp only [List.mem_singleton]
      constructor
      · rintro (rfl | ⟨h1, h2⟩)
        · exact ⟨by omega, h⟩
        · exact ⟨by omega, h2⟩
      · rintro ⟨h1, h2⟩
        by_cases e : k = r
        · exact .inl e
        · exact .inr ⟨by omega, h2⟩
    · rw [if_neg h]
      constructor
      · rintro (h1 | ⟨h1, h2⟩)
        · cases h1
        · exact ⟨by omega, h2⟩
      · rintro ⟨h1, h2⟩
        refine .inr ⟨?_, h2⟩
        rcases Nat.lt_or_ge k r with h3 | h3
        · exact h3
        · obtain rfl : k = r := by omega
          exact absurd h2 h
theorem mem_ldUn (ps : List (Int × Int)) (m k : Nat) : k ∈ ldUn ps m ↔ k < ps.length ∧ 0 ≤ stp ps k ∧ stp ps k < m := by
  induction m with
  | zero => simp [ldUn]
  | succ m ih => rw [ldUn, List.mem_append, ih, mem_ldTn]; omega
theorem ldTn_sorted (ps : List (Int × Int)) (s : Int) (r : Nat) : (ldTn ps s r).Pairwise (LL ps) := by
  induction r with
  | zero => simp [ldTn]
  | succ r ih =>
    rw [ldTn, List.pairwise_append]
    refine ⟨by split <;> simp, ih, fun x hx y hy => ?_⟩
    rw [mem_ldTn] at hy
    split at hx
    · rename_i h
      simp only [List.mem_singleton] at hx
      subst hx
      exact .inr ⟨by rw [hy.2]; exact h.symm, hy.1⟩
    · cases hx
theorem ldUn_sorted (ps : List (Int × Int)) (m : Nat) : (ldUn ps m).Pairwise (LL ps) := by
  induction m with
  | zero => simp [ldUn]
  | succ m ih =>
    rw [ldUn, List.pairwise_append]
    refine ⟨ldTn_sorted ps m ps.length, ih, fun x hx y hy => ?_⟩
    rw [mem_ldTn] at hx
    rw [mem_ldUn] at hy
    exact .inl (by omega)
theorem sorted_one (ps : List (Int × Int)) : ∀ (A B : List Nat), A.Pairwise (LL ps) → B.Pairwise (LL ps) → (∀ k, k ∈ A ↔ k ∈ B) → A = B
  | [], [], _, _, _ => rfl
  | [], b :: B, _, _, h => absurd ((h b).2 List.mem_cons_self) (by simp)
  | a :: A, [], _, _, h => absurd ((h a).1 List.mem_cons_self) (by simp)
  | a :: A, b :: B, hA, hB, h => by
    rw [List.pairwise_cons] at hA hB
    have e : a = b := by
      rcases Decidable.em (a = b) with e | e
      · exact e
      · have h1 : a ∈ B := by
          rcases List.mem_cons.1 ((h a).1 List.mem_cons_self) with e1 | e1
          · exact absurd e1 e
          · exact e1
        have h2 : b ∈ A := by
          rcases List.mem_cons.1 ((h b).2 List.mem_cons_self) with e1 | e1
          · exact absurd e1.symm e
          · exact e1
        exact (LL.irr (hA.1 b h2) (hB.1 a h1)).elim
    subst e
    have na : a ∉ A := fun h1 => LL.irr (hA.1 a h1) (hA.1 a h1)
    have nb : a ∉ B := fun h1 => LL.irr (hB.1 a h1) (hB.1 a h1)
    rw [sorted_one ps A B hA.2 hB.2 (fun k => ⟨fun hk => by
      rcases List.mem_cons.1 ((h k).1 (List.mem_cons_of_mem _ hk)) with e1 | e1
      · subst e1; exact absurd hk na
      · exact e1, fun hk => by
      rcases List.mem_cons.1 ((h k).2 (List.mem_cons_of_mem _ hk)) with e1 | e1
      · subst e1; exact absurd hk nb
      · exact e1⟩)]
/-- A sorted list of all indices is the model's. -/
theorem sorted_load {ps : List (Int × Int)} {ns : List Nat} (hok : OkTo ps ps.length) (hp : ns.Perm (List.range ps.length)) (hs : SortedTo ps ns ps.length) : ns.map Int.ofNat = ldU ps 9 := by
  have hl : ns.length = ps.length := by rw [hp.length_eq]; simp
  rw [ldU_n]
  congr 1
  refine sorted_one ps ns (ldUn ps 9) ?_ (ldUn_sorted ps 9) (fun k => ?_)
  · rw [List.pairwise_iff_getElem]
    intro a b ha hb hab
    have h := hs a b hab (by omega)
    simpa [List.getD, ha, hb] using h
  · rw [hp.mem_iff, List.mem_range, mem_ldUn]
    constructor
    · intro h
      have h2 := hok k h
      unfold okQ at h2
      refine ⟨h, ?_⟩
      unfold stp
      omega
    · exact fun h => h.1
end Go.Proofs.Ytadhoodddedjjaa
