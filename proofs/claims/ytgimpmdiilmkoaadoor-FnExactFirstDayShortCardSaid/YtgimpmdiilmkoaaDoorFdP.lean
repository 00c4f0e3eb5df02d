/-
  FirstDayShort: plain.
-/
import Derived.Test.YtgimpmdiilmkoaaDoorPvQ
namespace Go.Proofs.YtgimpmdiilmkoaaDoor
open Go Go.RowKit
set_option linter.unusedVariables false

theorem payK_ok {ps : List (Int × Int)} {day due : Int} {ms : List Nat} (h : OkVoTo ps ps.length) (h0 : 0 ≤ due) (k : Nat) : OkVoTo (payK ps day due ms k).1 (payK ps day due ms k).1.length := by
  induction k with
  | zero => exact h
  | succ k ih =>
    have hd := (due_in (day := day) (ms := ms) h h0 k).1
    have ha := amt_in h (ms.getD k 0)
    have hm := mnI_in hd ha.1
    rw [payK, stepP]
    split
    · exact ih
    · intro i hi
      simp only [List.length_set] at hi
      by_cases e : ms.getD k 0 = i
      · subst e
        have hi' : ms.getD k 0 < ps.length := by rw [payK_len] at hi; exact hi
        have hu := (h _ hi').2
        show okVo (((payK ps day due ms k).1.set (ms.getD k 0) _).getD (ms.getD k 0) (0, 0))
        rw [List.getD, List.getElem?_set_self hi]
        exact ⟨⟨by simp only [Option.getD_some]; omega, by simp only [Option.getD_some]; omega⟩, hu⟩
      · show okVo (((payK ps day due ms k).1.set (ms.getD k 0) _).getD i (0, 0))
        rw [List.getD, List.getElem?_set_ne e]
        exact ih i hi
theorem payL_ok {ps : List (Int × Int)} {day due : Int} (h : OkVoTo ps ps.length) (h0 : 0 ≤ due) : OkVoTo (payL ps day due) (payL ps day due).length := payK_ok h h0 _
/-- What is left behind the first k days. -/
def lfK (ps : List (Int × Int)) (xs : List Int) : Nat → List (Int × Int)
  | 0 => ps
  | k + 1 => payL (lfK ps xs k) (k : Int) (xs.getD k 0)
theorem lfK_len (ps : List (Int × Int)) (xs : List Int) (k : Nat) : (lfK ps xs k).length = ps.length := by
  induction k with
  | zero => rfl
  | succ k ih => rw [lfK, payL_len, ih]
theorem lfK_ok {ps : List (Int × Int)} {xs : List Int} (h : OkVoTo ps ps.length) {k : Nat} (hx : ∀ i, i < k → 0 ≤ xs.getD i 0) : OkVoTo (lfK ps xs k) (lfK ps xs k).length := by
  induction k with
  | zero => exact h
  | succ k ih => exact payL_ok (ih fun i hi => hx i (by omega)) (hx k (by omega))
def dayD (ps : List (Int × Int)) (xs : List Int) (k : Nat) : Int := payD (lfK ps xs k) (k : Int) (xs.getD k 0)
def fdGo (ps : List (Int × Int)) (xs : List Int) : Nat → Nat → Int × Int
  | 0, _ => (0, 6)
  | f + 1, k => if 0 < dayD ps xs k then ((k : Int), 0) else fdGo ps xs f (k + 1)
theorem fdGo_end (ps : List (Int × Int)) (xs : List Int) (k : Nat) : fdGo ps xs 0 k = (0, 6) := rfl
theorem fdGo_hit {ps : List (Int × Int)} {xs : List Int} {n k : Nat} (hk : k < n) (h : 0 < dayD ps xs k) : fdGo ps xs (n - k) k = ((k : Int), 0) := by
  rw [show n - k = (n - k - 1) + 1 by omega, fdGo, if_pos h]
theorem fdGo_next {ps : List (Int × Int)} {xs : List Int} {n k : Nat} (hk : k < n) (h : ¬ 0 < dayD ps xs k) : fdGo ps xs (n - k) k = fdGo ps xs (n - (k + 1)) (k + 1) := by
  rw [show n - k = (n - (k + 1)) + 1 by omega, fdGo, if_neg h]
def fdR (ps : List (Int × Int)) (xs : List Int) : Int := if askC ps 0 xs = 0 then (fdGo ps xs xs.length 0).1 else 0
def fdC (ps : List (Int × Int)) (xs : List Int) : Int := if askC ps 0 xs = 0 then (fdGo ps xs xs.length 0).2 else askC ps 0 xs
theorem fd_ok {ps : List (Int × Int)} {xs : List Int} (h : askC ps 0 xs = 0) : fdR ps xs = (fdGo ps xs xs.length 0).1 ∧ fdC ps xs = (fdGo ps xs xs.length 0).2 := ⟨if_pos h, if_pos h⟩
theorem fd_no {ps : List (Int × Int)} {xs : List Int} {c : Int} (h : askC ps 0 xs = c) (hc : c ≠ 0) : fdR ps xs = 0 ∧ fdC ps xs = c := ⟨if_neg (by rw [h]; exact hc), by unfold fdC; rw [if_neg (by rw [h]; exact hc), h]⟩
theorem ask_ok {ps : List (Int × Int)} {day : Int} {xs : List Int} (h : askC ps day xs = 0) : vldVo ps = true ∧ xs.length ≤ 1000 ∧ dayB day = true ∧ betwB xs 0 1000000 = true := by
  cases h1 : vldVo ps
  · rw [askC_1 h1] at h; exact absurd h (by decide)
  · by_cases h2 : 1000 < xs.length
    · rw [askC_3 h1 h2] at h; exact absurd h (by decide)
    · cases h3 : (dayB day && betwB xs 0 1000000)
      · rw [askC_2 h1 h2 h3] at h; exact absurd h (by decide)
      · simp only [Bool.and_eq_true] at h3
        exact ⟨rfl, by omega, h3.1, h3.2⟩
end Go.Proofs.YtgimpmdiilmkoaaDoor
