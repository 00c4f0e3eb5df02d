/-
  CheckMatches: plain: which matches are right.
-/
import Derived.Test.YtgimpmdiilmkoaaDoorRfP
namespace Go.Proofs.YtgimpmdiilmkoaaDoor
open Go Go.RowKit
set_option linter.unusedVariables false

/-- Whether a return can be matched with an order. -/
def canR (o : Q5) (r : Q4) (days : Int) : Bool := decide (o.1 = r.1 ∧ o.2.1 = r.2.1 ∧ o.2.2.2.2 ≤ r.2.2.2 ∧ r.2.2.2 - o.2.2.2.2 ≤ days)
theorem canR_true {o : Q5} {r : Q4} {days : Int} (h : o.1 = r.1 ∧ o.2.1 = r.2.1 ∧ o.2.2.2.2 ≤ r.2.2.2 ∧ r.2.2.2 - o.2.2.2.2 ≤ days) : canR o r days = true := decide_eq_true h
theorem canR_false {o : Q5} {r : Q4} {days : Int} (h : ¬ (o.1 = r.1 ∧ o.2.1 = r.2.1 ∧ o.2.2.2.2 ≤ r.2.2.2 ∧ r.2.2.2 - o.2.2.2.2 ≤ days)) : canR o r days = false := decide_eq_false h

abbrev mAt (ms : List Q3) (k : Nat) : Q3 := ms.getD k (0, 0, 0)
/-- The k-th match: indices, a number, a return that can be matched. -/
def cmIx (m n : Nat) (p : Q3) : Prop := (0 ≤ p.1 ∧ p.1 ≤ (n : Int) - 1) ∧ (0 ≤ p.2.1 ∧ p.2.1 ≤ (m : Int) - 1) ∧ 1 ≤ p.2.2
def cmOk (ps : List Q5) (rs : List Q4) (days : Int) (ms : List Q3) (k : Nat) : Prop :=
  cmIx ps.length rs.length (mAt ms k) ∧ canR (ps.getD (mAt ms k).2.1.toNat (0, 0, 0, 0, 0)) (rs.getD (mAt ms k).1.toNat (0, 0, 0, 0)) days = true ∧ ∀ j, j < k → ¬ ((mAt ms j).1 = (mAt ms k).1 ∧ (mAt ms j).2.1 = (mAt ms k).2.1)
/-- How many pieces of a return, and of an order, are matched by the first k matches. -/
def sentAt (ms : List Q3) (r : Int) : Nat → Int
  | 0 => 0
  | k + 1 => if (mAt ms k).1 = r then sentAt ms r k + (mAt ms k).2.2 else sentAt ms r k
def hadAt (ms : List Q3) (o : Int) : Nat → Int
  | 0 => 0
  | k + 1 => if (mAt ms k).2.1 = o then hadAt ms o k + (mAt ms k).2.2 else hadAt ms o k
def numR (rs : List Q4) (r : Nat) : Int := (rs.getD r (0, 0, 0, 0)).2.2.1
def numO (ps : List Q5) (o : Nat) : Int := (ps.getD o (0, 0, 0, 0, 0)).2.2.1
def Right (ps : List Q5) (rs : List Q4) (days : Int) (ms : List Q3) : Prop :=
  (∀ k, k < ms.length → cmOk ps rs days ms k) ∧ (∀ r : Nat, r < rs.length → sentAt ms r ms.length ≤ numR rs r) ∧ (∀ o : Nat, o < ps.length → hadAt ms o ms.length ≤ numO ps o)
noncomputable def rightB (ps : List Q5) (rs : List Q4) (days : Int) (ms : List Q3) : Bool := @decide (Right ps rs days ms) (Classical.propDecidable _)
theorem rightB_true {ps : List Q5} {rs : List Q4} {days : Int} {ms : List Q3} (h : Right ps rs days ms) : rightB ps rs days ms = true := @decide_eq_true _ (Classical.propDecidable _) h
theorem rightB_false {ps : List Q5} {rs : List Q4} {days : Int} {ms : List Q3} (h : ¬ Right ps rs days ms) : rightB ps rs days ms = false := @decide_eq_false _ (Classical.propDecidable _) h
theorem right_bad {ps : List Q5} {rs : List Q4} {days : Int} {ms : List Q3} {k : Nat} (hk : k < ms.length) (h : ¬ cmOk ps rs days ms k) : rightB ps rs days ms = false := rightB_false fun q => h (q.1 k hk)
theorem sentAt_in {ms : List Q3} {r : Int} {k : Nat} (hf : FitsMa ms) (hk : k ≤ ms.length) (h : ∀ i, i < k → 1 ≤ (mAt ms i).2.2) : 0 ≤ sentAt ms r k ∧ sentAt ms r k ≤ 32767 * k := by
  induction k with
  | zero => simp [sentAt]
  | succ k ih =>
    have h1 := ih (by omega) (fun i hi => h i (by omega))
    have h2 := h k (by omega)
    have h3 := hf.get k (by omega)
    unfold FitMa at h3
    have h4 : (mAt ms k).2.2 ≤ 32767 := h3.2.2.2
    rw [sentAt]
    split <;> omega
theorem hadAt_in {ms : List Q3} {r : Int} {k : Nat} (hf : FitsMa ms) (hk : k ≤ ms.length) (h : ∀ i, i < k → 1 ≤ (mAt ms i).2.2) : 0 ≤ hadAt ms r k ∧ hadAt ms r k ≤ 32767 * k := by
  induction k with
  | zero => simp [hadAt]
  | succ k ih =>
    have h1 := ih (by omega) (fun i hi => h i (by omega))
    have h2 := h k (by omega)
    have h3 := hf.get k (by omega)
    unfold FitMa at h3
    have h4 : (mAt ms k).2.2 ≤ 32767 := h3.2.2.2
    rw [hadAt]
    split <;> omega
theorem sentAt_mono {ms : List Q3} {r : Int} {k l : Nat} (hkl : k ≤ l) (h : ∀ i, i < l → 1 ≤ (mAt ms i).2.2) : sentAt ms r k ≤ sentAt ms r l := by
  induction l with
  | zero => obtain rfl : k = 0 := by omega
            omega
  | succ l ih =>
    by_cases e : k = l + 1
    · subst e; omega
    · have h1 := ih (by omega) (fun i hi => h i (by omega))
      have h2 := h l (by omega)
      rw [sentAt]
      split <;> omega
theorem hadAt_mono {ms : List Q3} {r : Int} {k l : Nat} (hkl : k ≤ l) (h : ∀ i, i < l → 1 ≤ (mAt ms i).2.2) : hadAt ms r k ≤ hadAt ms r l := by
  induction l with
  | zero => obtain rfl : k = 0 := by omega
            omega
  | succ l ih =>
    by_cases e : k = l + 1
    · subst e; omega
    · have h1 := ih (by omega) (fun i hi => h i (by omega))
      have h2 := h l (by omega)
      rw [hadAt]
      split <;> omega
theorem right_num {ps : List Q5} {rs : List Q4} {days : Int} {ms : List Q3} (h : Right ps rs days ms) : ∀ i, i < ms.length → 1 ≤ (mAt ms i).2.2 := fun i hi => (h.1 i hi).1.2.2
theorem right_sent {ps : List Q5} {rs : List Q4} {days : Int} {ms : List Q3} {r k : Nat} (hk : k ≤ ms.length) (hr : r < rs.length) (h : numR rs r < sentAt ms r k) : rightB ps rs days ms = false :=
  rightB_false fun q => by have h1 := q.2.1 r hr; have h2 := sentAt_mono (r := (r : Int)) hk (right_num q); omega
theorem right_had {ps : List Q5} {rs : List Q4} {days : Int} {ms : List Q3} {o k : Nat} (hk : k ≤ ms.length) (ho : o < ps.length) (h : numO ps o < hadAt ms o k) : rightB ps rs days ms = false :=
  rightB_false fun q => by have h1 := q.2.2 o ho; have h2 := hadAt_mono (r := (o : Int)) hk (right_num q); omega
/-- The rows of sums. -/
def sentRow (ms : List Q3) (n k : Nat) : List Int := (List.range n).map fun (r : Nat) => sentAt ms (r : Int) k
def hadRow (ms : List Q3) (m k : Nat) : List Int := (List.range m).map fun (o : Nat) => hadAt ms (o : Int) k
theorem sentRow_len (ms : List Q3) (n k : Nat) : (sentRow ms n k).length = n := by simp [sentRow]
theorem hadRow_len (ms : List Q3) (m k : Nat) : (hadRow ms m k).length = m := by simp [hadRow]
theorem sentRow_get (ms : List Q3) {n k r : Nat} (h : r < n) : (sentRow ms n k).getD r 0 = sentAt ms (r : Int) k := by simp [sentRow, List.getD, h]
theorem hadRow_get (ms : List Q3) {m k o : Nat} (h : o < m) : (hadRow ms m k).getD o 0 = hadAt ms (o : Int) k := by simp [hadRow, List.getD, h]
theorem sentRow_zero (ms : List Q3) (n : Nat) : sentRow ms n 0 = List.replicate n 0 := by
  refine List.ext_getElem (by simp [sentRow]) fun i h1 h2 => ?_
  simp [sentRow, sentAt]
theorem hadRow_zero (ms : List Q3) (m : Nat) : hadRow ms m 0 = List.replicate m 0 := by
  refine List.ext_getElem (by simp [hadRow]) fun i h1 h2 => ?_
  simp [hadRow, hadAt]
theorem sentRow_set (ms : List Q3) {n k i : Nat} (h : (mAt ms k).1 = (i : Int)) : (sentRow ms n k).set i (sentAt ms (i : Int) k + (mAt ms k).2.2) = sentRow ms n (k + 1) := by
  refine List.ext_getElem (by simp [sentRow]) fun j h1 h2 => ?_
  rw [List.getElem_set]
  simp only [sentRow, List.getElem_map, List.getElem_range]
  by_cases e : i = j
  · subst e; rw [if_pos rfl, sentAt, if_pos h]
  · rw [if_neg e, sentAt, if_neg (by rw [h]; omega)]
theorem hadRow_set (ms : List Q3) {m k j : Nat} (h : (mAt ms k).2.1 = (j : Int)) : (hadRow ms m k).set j (hadAt ms (j : Int) k + (mAt ms k).2.2) = hadRow ms m (k + 1) := by
  refine List.ext_getElem (by simp [hadRow]) fun i h1 h2 => ?_
  rw [List.getElem_set]
  simp only [hadRow, List.getElem_map, List.getElem_range]
  by_cases e : j = i
  · subst e; rw [if_pos rfl, hadAt, if_pos h]
  · rw [if_neg e, hadAt, if_neg (by rw [h]; omega)]
/-- The code and the answer. -/
def cmC (ps : List Q5) (rs : List Q4) (days : Int) (ms : List Q3) : Int := if bkC ps rs (dayB days) = 0 then (if 100 < ms.length then 3 else 0) else bkC ps rs (dayB days)
noncomputable def cmR (ps : List Q5) (rs : List Q4) (days : Int) (ms : List Q3) : Bool := if cmC ps rs days ms = 0 then rightB ps rs days ms else false
theorem cm_no {ps : List Q5} {rs : List Q4} {days : Int} {ms : List Q3} {c : Int} (h : cmC ps rs days ms = c) (hc : c ≠ 0) : cmR ps rs days ms = false := if_neg (by rw [h]; exact hc)
theorem cm_ok {ps : List Q5} {rs : List Q4} {days : Int} {ms : List Q3} (h : bkC ps rs (dayB days) = 0) (hl : ¬ 100 < ms.length) : cmC ps rs days ms = 0 ∧ cmR ps rs days ms = rightB ps rs days ms := by
  have e : cmC ps rs days ms = 0 := by unfold cmC; rw [if_pos h, if_neg hl]
  exact ⟨e, if_pos e⟩
theorem cm_long {ps : List Q5} {rs : List Q4} {days : Int} {ms : List Q3} (h : bkC ps rs (dayB days) = 0) (hl : 100 < ms.length) : cmC ps rs days ms = 3 := by unfold cmC; rw [if_pos h, if_pos hl]
theorem cm_bk {ps : List Q5} {rs : List Q4} {days c : Int} {ms : List Q3} (h : bkC ps rs (dayB days) = c) (hc : c ≠ 0) : cmC ps rs days ms = c := by unfold cmC; rw [if_neg (by rw [h]; exact hc), h]
end Go.Proofs.YtgimpmdiilmkoaaDoor
