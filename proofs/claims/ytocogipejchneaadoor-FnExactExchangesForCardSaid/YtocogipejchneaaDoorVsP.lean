/-
  Lists that have each of some ascending numbers once: sorted they are these numbers (plain).
-/
import Derived.Test.YtocogipejchneaaDoorBase
namespace Go.Proofs.YtocogipejchneaaDoor
open Go Go.RowKit
set_option linter.unusedVariables false

def sortI (xs : List Int) : List Int := xs.mergeSort fun x y => decide (x ≤ y)
theorem sortI_perm (xs : List Int) : (sortI xs).Perm xs := List.mergeSort_perm _ _
theorem sortI_len (xs : List Int) : (sortI xs).length = xs.length := (sortI_perm xs).length_eq
theorem sortI_pair (xs : List Int) : (sortI xs).Pairwise (· ≤ ·) := by
  have h : (sortI xs).Pairwise (fun a b => decide (a ≤ b) = true) := List.pairwise_mergeSort (le := fun x y => decide (x ≤ y)) (fun a b c h1 h2 => by
    simp only [decide_eq_true_eq] at *; omega) (fun a b => by simp only [Bool.or_eq_true, decide_eq_true_eq]; omega) _
  exact h.imp fun h => by simpa using h
/-- Strictly ascending lists with the same members are equal. -/
theorem asc_unique {a b : List Int} (ha : a.Pairwise (· < ·)) (hb : b.Pairwise (· < ·)) (h : ∀ x, x ∈ a ↔ x ∈ b) : a = b := by
  induction a generalizing b with
  | nil =>
    cases b with
    | nil => rfl
    | cons y ys => exact absurd ((h y).2 (by simp)) (by simp)
  | cons x xs ih =>
    cases b with
    | nil => exact absurd ((h x).1 (by simp)) (by simp)
    | cons y ys =>
      rw [List.pairwise_cons] at ha hb
      have h1 := (h x).1 (by simp)
      have h2 := (h y).2 (by simp)
      have e : x = y := by
        rcases List.mem_cons.1 h1 with h1 | h1
        · exact h1
        · rcases List.mem_cons.1 h2 with h2 | h2
          · exact h2.symm
          · have := hb.1 x h1
            have := ha.1 y h2
            omega
      subst e
      rw [ih ha.2 hb.2 fun z => ?_]
      have hz := h z
      simp only [List.mem_cons] at hz
      constructor
      · intro hx
        rcases hz.1 (.inr hx) with h3 | h3
        · have := ha.1 z hx; omega
        · exact h3
      · intro hy
        rcases hz.2 (.inr hy) with h3 | h3
        · have := hb.1 z hy; omega
        · exact h3
theorem nodup_asc {a : List Int} (h : a.Pairwise (· < ·)) : a.Nodup := h.imp fun h e => by omega
theorem sort_iff {ns xs : List Int} (hs : ns.Pairwise (· < ·)) : sortI xs = ns ↔ (xs.Nodup ∧ ∀ x, x ∈ xs ↔ x ∈ ns) := by
  constructor
  · rintro rfl
    exact ⟨(sortI_perm xs).nodup_iff.1 (nodup_asc hs), fun x => (sortI_perm xs).mem_iff.symm⟩
  · rintro ⟨hn, hm⟩
    have h1 : (sortI xs).Nodup := (sortI_perm xs).nodup_iff.2 hn
    refine asc_unique (((sortI_pair xs).and h1).imp fun {a b} h => ?_) hs fun x => ((sortI_perm xs).mem_iff).trans (hm x)
    have := h.1; have := h.2; omega
theorem nodup_sub_len : ∀ {xs ys : List Int}, xs.Nodup → (∀ x, x ∈ xs → x ∈ ys) → xs.length ≤ ys.length
  | [], ys, _, _ => Nat.zero_le _
  | x :: xs, ys, hn, hs => by
    rw [List.nodup_cons] at hn
    have hx := hs x (by simp)
    have := nodup_sub_len (xs := xs) (ys := ys.erase x) hn.2 fun y hy => (List.mem_erase_of_ne (by rintro rfl; exact hn.1 hy)).2 (hs y (by simp [hy]))
    rw [List.length_erase_of_mem hx] at this
    have := List.length_pos_of_mem hx
    simp only [List.length_cons]; omega
/-- The first k are among some numbers, each one once. -/
def visTo (ns xs : List Int) (k : Nat) : Prop := ∀ i, i < k → xs.getD i 0 ∈ ns ∧ xs.getD i 0 ∉ xs.take i
instance (ns xs : List Int) (k : Nat) : Decidable (visTo ns xs k) := inferInstanceAs (Decidable (∀ i, i < k → _))
theorem visTo.zero (ns xs : List Int) : visTo ns xs 0 := fun i hi => absurd hi (by omega)
theorem visTo.succ {ns xs : List Int} {k : Nat} (h : visTo ns xs k) (h1 : xs.getD k 0 ∈ ns) (h2 : xs.getD k 0 ∉ xs.take k) : visTo ns xs (k + 1) := fun i hi => by
  by_cases e : i = k
  · subst e; exact ⟨h1, h2⟩
  · exact h i (by omega)
theorem visTo_nodup {ns xs : List Int} {k : Nat} (h : visTo ns xs k) (hk : k ≤ xs.length) : (xs.take k).Nodup := by
  rw [List.nodup_iff_pairwise_ne, List.pairwise_iff_getElem]
  intro i j hi hj hij e
  rw [List.length_take] at hi hj
  refine (h j (by omega)).2 ?_
  have e1 : xs.getD j 0 = (xs.take k)[i]'(by rw [List.length_take]; omega) := by
    rw [e]; simp [List.getD, show j < xs.length by omega]
  rw [e1, List.getElem_take, List.mem_take_iff_getElem]
  exact ⟨i, by omega, rfl⟩
/-- Which lists have each number once. -/
def visB (ns xs : List Int) : Bool := decide (sortI xs = ns)
theorem visB_iff {ns xs : List Int} (hs : ns.Pairwise (· < ·)) : visB ns xs = true ↔ (visTo ns xs xs.length ∧ xs.length = ns.length) := by
  unfold visB
  rw [decide_eq_true_iff, sort_iff hs]
  constructor
  · rintro ⟨hn, hm⟩
    refine ⟨fun i hi => ?_, ?_⟩
    · have e : xs.getD i 0 = xs[i] := by simp [List.getD, hi]
      rw [e]
      refine ⟨(hm _).1 (List.getElem_mem hi), fun hin => ?_⟩
      obtain ⟨j, hj, e⟩ := List.mem_take_iff_getElem.1 hin
      have := (List.getElem_inj (h₀ := by omega) (h₁ := hi) hn).1 e
      omega
    · have h1 := nodup_sub_len hn fun x hx => (hm x).1 hx
      have h2 := nodup_sub_len (nodup_asc hs) fun x hx => (hm x).2 hx
      omega
  · rintro ⟨h, hl⟩
    have hn : xs.Nodup := by simpa using visTo_nodup h (Nat.le_refl _)
    have hsub : ∀ x, x ∈ xs → x ∈ ns := fun x hx => by
      obtain ⟨i, hi, rfl⟩ := List.getElem_of_mem hx
      have := (h i hi).1
      simpa [List.getD, hi] using this
    refine ⟨hn, fun x => ⟨hsub x, fun hx => Classical.byContradiction fun hne => ?_⟩⟩
    have := nodup_sub_len (xs := x :: xs) (ys := ns) (List.nodup_cons.2 ⟨hne, hn⟩) fun y hy => by
      rcases List.mem_cons.1 hy with rfl | hy
      · exact hx
      · exact hsub y hy
    simp only [List.length_cons] at this
    omega
theorem visB_true {ns xs : List Int} (hs : ns.Pairwise (· < ·)) (h : visTo ns xs xs.length) (hl : xs.length = ns.length) : visB ns xs = true := (visB_iff hs).2 ⟨h, hl⟩
theorem visB_len {ns xs : List Int} (hs : ns.Pairwise (· < ·)) (hl : xs.length ≠ ns.length) : visB ns xs = false := by
  cases h : visB ns xs
  · rfl
  · exact absurd ((visB_iff hs).1 h).2 hl
theorem visB_bad {ns xs : List Int} (hs : ns.Pairwise (· < ·)) {k : Nat} (hk : k < xs.length) (h : ¬ (xs.getD k 0 ∈ ns ∧ xs.getD k 0 ∉ xs.take k)) : visB ns xs = false := by
  cases h1 : visB ns xs
  · rfl
  · exact absurd (((visB_iff hs).1 h1).1 k hk) h
/-- The numbers from 0 to n - 1. -/
def idxI (n : Nat) : List Int := (List.range n).map fun i => ((i : Nat) : Int)
theorem idxI_len (n : Nat) : (idxI n).length = n := by simp [idxI]
theorem idxI_get (n i : Nat) (h : i < n) : (idxI n).getD i 0 = (i : Int) := by simp [idxI, List.getD, h]
theorem idxI_mem (n : Nat) (x : Int) : x ∈ idxI n ↔ 0 ≤ x ∧ x ≤ (n : Int) - 1 := by
  unfold idxI
  rw [List.mem_map]
  constructor
  · rintro ⟨i, hi, rfl⟩
    have := List.mem_range.1 hi
    omega
  · rintro ⟨h1, h2⟩
    exact ⟨x.toNat, List.mem_range.2 (by omega), by omega⟩
theorem idxI_asc (n : Nat) : (idxI n).Pairwise (· < ·) := by
  unfold idxI
  rw [List.pairwise_map]
  exact List.pairwise_lt_range.imp fun h => by omega
end Go.Proofs.YtocogipejchneaaDoor
