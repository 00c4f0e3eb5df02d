/-
  Lists of scans: the code, and the first one that cannot be (plain).
-/
import Derived.Test.YtamnojhkfknnoaaCgS
namespace Go.Proofs.Ytamnojhkfknnoaa
open Go Go.RowKit
set_option linter.unusedVariables false

/-- The first k scans can be. -/
def scsK (st : Int) (cs : List (Int × Int)) (k : Nat) : Bool := decide (OkScTo st cs k)
theorem scsK_zero (st : Int) (cs : List (Int × Int)) : scsK st cs 0 = true := decide_eq_true (OkScTo.zero st cs)
theorem scsK_all (st : Int) (cs : List (Int × Int)) : scsK st cs cs.length = scsB st cs := rfl
theorem scsK_succ (st : Int) (cs : List (Int × Int)) (k : Nat) : scsK st cs (k + 1) = (scsK st cs k && scB st (cs.getD k (0, 0)).1 (cs.getD k (0, 0)).2) := by
  rw [Bool.eq_iff_iff, Bool.and_eq_true]
  unfold scsK scB
  simp only [decide_eq_true_eq]
  exact ⟨fun h => ⟨fun i hi => h i (by omega), h k (by omega)⟩, fun h => h.1.succ h.2⟩
/-- The code of a net and of scans. -/
def scnC (st sy : Int) (ps : List Lan) (f : Bool) (n : Nat) : Int := if vldN st sy ps = true then (if f = true then (if n ≤ 12 then 0 else 3) else 2) else 1
theorem scnC_ask (st sy : Int) (ps : List Lan) (f : Bool) (n : Nat) : scnC st sy ps f n = if askC st sy ps f = 0 ∧ 12 < n then 3 else askC st sy ps f := by
  unfold scnC askC
  cases vldN st sy ps <;> cases f <;> simp
  split <;> split <;> first | rfl | omega
theorem scnC_ok {st sy : Int} {ps : List Lan} {f : Bool} {n : Nat} (h : scnC st sy ps f n = 0) : vldN st sy ps = true ∧ f = true ∧ n ≤ 12 := by
  unfold scnC at h
  split at h
  · split at h
    · split at h
      · exact ⟨‹_›, ‹_›, ‹_›⟩
      · cases h
    · cases h
  · cases h
theorem chk_scn (st sy : Int) (ps : List Lan) (cs : List (Int × Int)) : chkC st sy ps cs [] [] = scnC st sy ps (scsB st cs) cs.length := by
  unfold chkC scnC
  have h1 : betwB [] 0 (st - 1) = true := betwB_true (betw.zero _ _ _)
  have h2 : betwB [] 0 300 = true := betwB_true (betw.zero _ _ _)
  rw [h1, h2]
  simp
/-- The first number from k on, of n numbers, where g does not hold; -1 if there is none. -/
def badFrom (g : Nat → Bool) : Nat → Nat → Int
  | 0, _ => -1
  | n + 1, k => if g k = true then badFrom g n (k + 1) else (k : Int)
def badI (g : Nat → Bool) (m : Nat) : Int := badFrom g (m - 1) 1
theorem badFrom_at {g : Nat → Bool} {n k j : Nat} (hk : k ≤ j) (hj : j < k + n) (h : ∀ i, k ≤ i → i < j → g i = true) (hb : g j = false) : badFrom g n k = (j : Int) := by
  induction n generalizing k with
  | zero => omega
  | succ n ih =>
    rw [badFrom]
    by_cases e : k = j
    · subst e; rw [if_neg (by rw [hb]; simp)]
    · rw [if_pos (h k (Nat.le_refl _) (by omega))]
      exact ih (by omega) (by omega) (fun i hi => h i (by omega))
theorem badFrom_none {g : Nat → Bool} {n k : Nat} (h : ∀ i, k ≤ i → i < k + n → g i = true) : badFrom g n k = -1 := by
  induction n generalizing k with
  | zero => rfl
  | succ n ih =>
    rw [badFrom, if_pos (h k (Nat.le_refl _) (by omega))]
    exact ih fun i hi hi2 => h i (by omega) (by omega)
def okTo (g : Nat → Bool) (k : Nat) : Prop := ∀ i, 1 ≤ i → i < k → g i = true
theorem okTo.one (g : Nat → Bool) : okTo g 1 := fun i h1 h2 => by omega
theorem okTo.succ {g : Nat → Bool} {k : Nat} (h : okTo g k) (hk : g k = true) : okTo g (k + 1) := fun i h1 h2 => by
  by_cases e : i = k
  · subst e; exact hk
  · exact h i h1 (by omega)
theorem badI_at {g : Nat → Bool} {m k : Nat} (h1 : 1 ≤ k) (hk : k < m) (h : okTo g k) (hb : g k = false) : badI g m = (k : Int) := badFrom_at h1 (by omega) (fun i h2 h3 => h i h2 h3) hb
theorem badI_none {g : Nat → Bool} {m k : Nat} (hk : m ≤ k) (h : okTo g k) : badI g m = -1 := badFrom_none fun i h2 h3 => h i h2 (by omega)
theorem badI_range (g : Nat → Bool) (m : Nat) : badI g m = -1 ∨ ∃ k : Nat, 1 ≤ k ∧ k < m ∧ badI g m = (k : Int) := by
  have key : ∀ n k, badFrom g n k = -1 ∨ ∃ j : Nat, k ≤ j ∧ j < k + n ∧ badFrom g n k = (j : Int) := fun n => by
    induction n with
    | zero => exact fun k => .inl rfl
    | succ n ih =>
      intro k
      rw [badFrom]
      split
      · rcases ih (k + 1) with h | ⟨j, h1, h2, h3⟩
        · exact .inl h
        · exact .inr ⟨j, by omega, by omega, h3⟩
      · exact .inr ⟨k, by omega, by omega, rfl⟩
  rcases key (m - 1) 1 with h | ⟨j, h1, h2, h3⟩
  · exact .inl h
  · exact .inr ⟨j, h1, by omega, h3⟩
/-- A parcel can go from the scan before to this one. -/
noncomputable def goB (sy : Int) (ps : List Lan) (cs : List (Int × Int)) (i : Nat) : Bool := arrB ps (-1) sy (cs.getD (i - 1) (0, 0)).1 (cs.getD (i - 1) (0, 0)).2 (cs.getD i (0, 0)).1 (cs.getD i (0, 0)).2
noncomputable def badS (sy : Int) (ps : List Lan) (cs : List (Int × Int)) : Int := badI (goB sy ps cs) cs.length
theorem ok_nats {st : Int} {cs : List (Int × Int)} (hst : st ≤ 8) (h : OkScTo st cs cs.length) {i : Nat} (hi : i < cs.length) : ∃ s t : Nat, cs.getD i (0, 0) = ((s : Int), (t : Int)) ∧ s < 8 ∧ t ≤ 300 := by
  have h1 := h i hi
  unfold okSc at h1
  obtain ⟨q, hq⟩ : ∃ q, cs.getD i (0, 0) = q := ⟨_, rfl⟩
  rw [hq] at h1 ⊢
  obtain ⟨x, y⟩ := q
  simp only at h1
  exact ⟨x.toNat, y.toNat, by rw [Prod.mk.injEq]; omega, by omega, by omega⟩
/-- Answers. -/
noncomputable def csC (st sy : Int) (ps : List Lan) (cs : List (Int × Int)) : Int := scnC st sy ps (scsB st cs) cs.length
noncomputable def csR (st sy : Int) (ps : List Lan) (cs : List (Int × Int)) : Bool := if csC st sy ps cs = 0 then decide (badS sy ps cs < 0) else false
noncomputable def fbC (st sy : Int) (ps : List Lan) (cs : List (Int × Int)) : Int := if csC st sy ps cs = 0 then (if badS sy ps cs < 0 then 6 else 0) else csC st sy ps cs
noncomputable def fbR (st sy : Int) (ps : List Lan) (cs : List (Int × Int)) : Int := if csC st sy ps cs = 0 then (if badS sy ps cs < 0 then 0 else badS sy ps cs) else 0
end Go.Proofs.Ytamnojhkfknnoaa
