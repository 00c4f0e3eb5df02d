/-
  Parcels of a round: plain functions. Which are valid, the weight for a stop, the stops, and how bags are filled stop by stop.
-/
import Derived.Test.YtbclmafplaipaaaDoorBase
namespace Go.Proofs.YtbclmafplaipaaaDoor
open Go Go.RowKit
set_option linter.unusedVariables false

def okQ (ps : List (Int × Int)) (i : Nat) : Prop := 0 ≤ (ps.getD i (0, 0)).1 ∧ (ps.getD i (0, 0)).1 ≤ 8 ∧ 1 ≤ (ps.getD i (0, 0)).2 ∧ (ps.getD i (0, 0)).2 ≤ 5000
def OkTo (ps : List (Int × Int)) (k : Nat) : Prop := ∀ i, i < k → okQ ps i
theorem OkTo.zero (ps : List (Int × Int)) : OkTo ps 0 := fun i hi => absurd hi (by omega)
theorem OkTo.succ {ps : List (Int × Int)} {k : Nat} (h : OkTo ps k) (h1 : okQ ps k) : OkTo ps (k + 1) := fun i hi => by
  by_cases e : i = k
  · subst e; exact h1
  · exact h i (by omega)
instance (ps : List (Int × Int)) (i : Nat) : Decidable (okQ ps i) := inferInstanceAs (Decidable (_ ∧ _))
instance (ps : List (Int × Int)) (k : Nat) : Decidable (OkTo ps k) := inferInstanceAs (Decidable (∀ i, i < k → _))
def vldQ (ps : List (Int × Int)) : Bool := decide (ps.length ≤ 10 ∧ OkTo ps ps.length)
theorem vldQ_true {ps : List (Int × Int)} (h2 : ps.length ≤ 10) (h : OkTo ps ps.length) : vldQ ps = true := decide_eq_true ⟨h2, h⟩
theorem vldQ_len {ps : List (Int × Int)} (h : ¬ ps.length ≤ 10) : vldQ ps = false := decide_eq_false fun k => h k.1
theorem vldQ_bad {ps : List (Int × Int)} {k : Nat} (hk : k < ps.length) (h : ¬ okQ ps k) : vldQ ps = false := decide_eq_false fun q => h (q.2 k hk)
theorem vldQ_spec {ps : List (Int × Int)} (h : vldQ ps = true) : ps.length ≤ 10 ∧ OkTo ps ps.length := of_decide_eq_true h

/-- The weight for a stop among the first k parcels. -/
def wtTo (ps : List (Int × Int)) (s : Int) : Nat → Int
  | 0 => 0
  | k + 1 => wtTo ps s k + (if (ps.getD k (0, 0)).1 = s then (ps.getD k (0, 0)).2 else 0)
def wt (ps : List (Int × Int)) (s : Int) : Int := wtTo ps s ps.length
theorem wtTo_bd {ps : List (Int × Int)} {k : Nat} (h : OkTo ps k) (s : Int) : 0 ≤ wtTo ps s k ∧ wtTo ps s k ≤ 5000 * k := by
  induction k with
  | zero => simp [wtTo]
  | succ k ih =>
    have h1 := ih (fun i hi => h i (by omega))
    have h2 := h k (by omega)
    unfold okQ at h2
    rw [wtTo]
    split <;> omega
theorem wt_bd {ps : List (Int × Int)} (h : OkTo ps ps.length) (h10 : ps.length ≤ 10) (s : Int) : 0 ≤ wt ps s ∧ wt ps s ≤ 50000 := by
  have := wtTo_bd h s
  unfold wt
  omega
/-- The nine sums among the first k parcels. -/
def wtsK (ps : List (Int × Int)) (k : Nat) : List Int := (List.range 9).map fun (s : Nat) => wtTo ps (s : Int) k
theorem wtsK_len (ps : List (Int × Int)) (k : Nat) : (wtsK ps k).length = 9 := by simp [wtsK]
theorem wtsK_get (ps : List (Int × Int)) (k s : Nat) (h : s < 9) : (wtsK ps k).getD s 0 = wtTo ps (s : Int) k := by simp [wtsK, List.getD, h]
theorem wtsK_zero (ps : List (Int × Int)) : wtsK ps 0 = List.replicate 9 0 := by simp [wtsK, wtTo, List.map_const']
theorem wtsK_set {ps : List (Int × Int)} {k s : Nat} (h : s < 9) (he : (ps.getD k (0, 0)).1 = s) : (wtsK ps k).set s (wtTo ps s k + (ps.getD k (0, 0)).2) = wtsK ps (k + 1) := by
  apply List.ext_getElem
  · simp [wtsK]
  · intro i h1 h2
    have hi : i < 9 := by simpa [wtsK] using h2
    rw [List.getElem_set]
    by_cases e : s = i
    · subst e
      simp only [if_true, wtsK, List.getElem_map, List.getElem_range]
      rw [wtTo, if_pos he]
    · rw [if_neg e]
      simp only [wtsK, List.getElem_map, List.getElem_range]
      rw [wtTo, if_neg (by omega), Int.add_zero]
def wts (ps : List (Int × Int)) : List Int := wtsK ps ps.length
theorem wts_get (ps : List (Int × Int)) (s : Nat) (h : s < 9) : (wts ps).getD s 0 = wt ps (s : Int) := wtsK_get ps _ s h
theorem wts_len (ps : List (Int × Int)) : (wts ps).length = 9 := wtsK_len _ _
/-- The stops below m to which a parcel goes. -/
def stopsTo (ps : List (Int × Int)) : Nat → List Int
  | 0 => []
  | m + 1 => if 0 < wt ps (m : Int) then stopsTo ps m ++ [(m : Int)] else stopsTo ps m
theorem stopsTo_yes {ps : List (Int × Int)} {m : Nat} (h : 0 < wt ps (m : Int)) : stopsTo ps (m + 1) = stopsTo ps m ++ [(m : Int)] := if_pos h
theorem stopsTo_no {ps : List (Int × Int)} {m : Nat} (h : ¬ 0 < wt ps (m : Int)) : stopsTo ps (m + 1) = stopsTo ps m := if_neg h
theorem stopsTo_len (ps : List (Int × Int)) (m : Nat) : (stopsTo ps m).length ≤ m := by
  induction m with
  | zero => simp [stopsTo]
  | succ m ih =>
    rw [stopsTo]
    split
    · rw [List.length_append]; simp; exact ih
    · omega
def stopsL (ps : List (Int × Int)) : List Int := stopsTo ps 9
theorem stopsL_len (ps : List (Int × Int)) : (stopsL ps).length ≤ 9 := stopsTo_len ps 9

/-! ### answers -/
def codeQ (ps : List (Int × Int)) : Int := if vldQ ps then 0 else 1
def stopsR (ps : List (Int × Int)) : List Int := if vldQ ps then stopsL ps else []
theorem stopsR_len (ps : List (Int × Int)) : (stopsR ps).length ≤ 9 := by
  unfold stopsR
  split
  · exact stopsL_len ps
  · simp
def isStopB (s : Int) : Bool := decide (0 ≤ s ∧ s < 9)
def wtR (ps : List (Int × Int)) (s : Int) : Int := if vldQ ps = true ∧ 0 ≤ s ∧ s < 9 then wt ps s else 0
def wtCode (ps : List (Int × Int)) (s : Int) : Int := if vldQ ps = false then 1 else if 0 ≤ s ∧ s < 9 then 0 else 2

/-! ### filling bags, stop by stop -/
/-- How many bags there are, and what still fits into the last one, behind the stops below m. -/
def fill (ps : List (Int × Int)) (most : Int) : Nat → Int × Int
  | 0 => (0, 0)
  | m + 1 => if (fill ps most m).2 < wt ps (m : Int) then ((fill ps most m).1 + 1, most - wt ps (m : Int)) else ((fill ps most m).1, (fill ps most m).2 - wt ps (m : Int))
def OverTo (ps : List (Int × Int)) (most : Int) (m : Nat) : Prop := ∃ s : Nat, s < m ∧ most < wt ps (s : Int)
def FitTo (ps : List (Int × Int)) (most : Int) (m : Nat) : Prop := ∀ s : Nat, s < m → wt ps (s : Int) ≤ most
instance (ps : List (Int × Int)) (most : Int) (m : Nat) : Decidable (FitTo ps most m) := inferInstanceAs (Decidable (∀ s, s < m → _))
theorem FitTo.zero (ps : List (Int × Int)) (most : Int) : FitTo ps most 0 := fun i hi => absurd hi (by omega)
theorem FitTo.succ {ps : List (Int × Int)} {most : Int} {k : Nat} (h : FitTo ps most k) (h1 : wt ps (k : Int) ≤ most) : FitTo ps most (k + 1) := fun i hi => by
  by_cases e : i = k
  · subst e; exact h1
  · exact h i (by omega)
theorem fill_bd {ps : List (Int × Int)} (h : OkTo ps ps.length) (h10 : ps.length ≤ 10) (most : Int) (hm : 0 ≤ most) (m : Nat) (hf : FitTo ps most m) : 0 ≤ (fill ps most m).1 ∧ (fill ps most m).1 ≤ m ∧ 0 ≤ (fill ps most m).2 ∧ (fill ps most m).2 ≤ most := by
  induction m with
  | zero => simp [fill]; omega
  | succ m ih =>
    have h1 := ih (fun i hi => hf i (by omega))
    have h2 := wt_bd h h10 (m : Int)
    have h3 := hf m (by omega)
    rw [fill]
    split <;> simp <;> omega
/-- More room never takes more bags. -/
theorem fill_mono {ps : List (Int × Int)} (h : OkTo ps ps.length) (h10 : ps.length ≤ 10) {a b : Int} (ha : 0 ≤ a) (hab : a ≤ b) (m : Nat) (hf : FitTo ps a m) :
    (fill ps b m).1 < (fill ps a m).1 ∨ ((fill ps b m).1 = (fill ps a m).1 ∧ (fill ps a m).2 ≤ (fill ps b m).2) := by
  induction m with
  | zero => simp [fill]
  | succ m ih =>
    have h1 := ih (fun i hi => hf i (by omega))
    have h2 := wt_bd h h10 (m : Int)
    have h3 := hf m (by omega)
    have h4 := fill_bd h h10 a ha m (fun i hi => hf i (by omega))
    rw [fill, fill]
    split <;> split <;> simp only <;> omega
end Go.Proofs.YtbclmafplaipaaaDoor
