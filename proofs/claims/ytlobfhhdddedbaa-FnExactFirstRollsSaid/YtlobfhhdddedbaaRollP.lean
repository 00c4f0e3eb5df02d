/-
  First rolls: plainly.
-/
import Derived.Test.YtlobfhhdddedbaaBetw
import Derived.Test.YtlobfhhdddedbaaIn
namespace Go.Proofs.Ytlobfhhdddedbaa
open Go Go.RowKit
set_option linter.unusedVariables false

/-- The first roll onto which a cut fits. -/
def fitR (long c : Int) : List Int → Nat
  | [] => 0
  | l :: L => if l + c ≤ long then 0 else fitR long c L + 1
def tight (long c : Int) (L : List Int) (k : Nat) : Prop := ∀ i, i < k → long < L.getD i 0 + c
theorem tight.zero (long c : Int) (L : List Int) : tight long c L 0 := fun i hi => absurd hi (by omega)
theorem tight.succ {long c : Int} {L : List Int} {k : Nat} (h : tight long c L k) (h1 : long < L.getD k 0 + c) : tight long c L (k + 1) := fun i hi => by
  by_cases e : i = k
  · subst e; exact h1
  · exact h i (by omega)
theorem fitR_eq {long c : Int} {L : List Int} {k : Nat} (hk : k < L.length) (h : tight long c L k) (h1 : L.getD k 0 + c ≤ long) : fitR long c L = k := by
  induction L generalizing k with
  | nil => simp at hk
  | cons l L ih =>
    unfold fitR
    cases k with
    | zero => simp at h1; rw [if_pos h1]
    | succ k =>
      have h0 := h 0 (by omega)
      simp at h0
      rw [if_neg (by omega), ih (k := k) (by simpa using hk) (fun i hi => by have := h (i + 1) (by omega); simpa using this) (by simpa using h1)]
theorem fitR_none {long c : Int} {L : List Int} (h : tight long c L L.length) : fitR long c L = L.length := by
  induction L with
  | nil => rfl
  | cons l L ih =>
    have h0 := h 0 (by simp)
    simp at h0
    unfold fitR
    rw [if_neg (by omega), ih (fun i hi => by have := h (i + 1) (by simpa using hi); simpa using this), List.length_cons]
theorem fitR_le (long c : Int) (L : List Int) : fitR long c L ≤ L.length := by
  induction L with
  | nil => exact Nat.le_refl _
  | cons l L ih => unfold fitR; split <;> simp <;> omega
/-- A cut is put onto a roll, or onto a new one. -/
def putR (L : List Int) (c : Int) (a : Nat) : List Int := if a < L.length then L.set a (L.getD a 0 + c) else L ++ [c]
theorem putR_old {L : List Int} {c : Int} {a : Nat} (h : a < L.length) : putR L c a = L.set a (L.getD a 0 + c) := if_pos h
theorem putR_new (L : List Int) (c : Int) : putR L c L.length = L ++ [c] := if_neg (Nat.lt_irrefl _)
def rollK (xs : List Int) (long : Int) : Nat → List Int × List Int
  | 0 => ([], [])
  | k + 1 => ((rollK xs long k).1 ++ [(fitR long (xs.getD k 0) (rollK xs long k).2 : Int)], putR (rollK xs long k).2 (xs.getD k 0) (fitR long (xs.getD k 0) (rollK xs long k).2))
theorem rollK_zero (xs : List Int) (long : Int) : rollK xs long 0 = ([], []) := rfl
theorem rollK_at {xs : List Int} {long : Int} {k a : Nat} {c : Int} {O L : List Int} (h : rollK xs long k = (O, L)) (hc : xs.getD k 0 = c) (ha : fitR long c L = a) : rollK xs long (k + 1) = (O ++ [(a : Int)], putR L c a) := by rw [rollK, h, hc, ha]
/-- What is known behind k cuts. -/
def RollBd (long : Int) (k : Nat) (s : List Int × List Int) : Prop := s.1.length = k ∧ s.2.length ≤ k ∧ ∀ i, i < s.2.length → 0 ≤ s.2.getD i 0 ∧ s.2.getD i 0 ≤ long
theorem rollK_bd {xs : List Int} {long : Int} (h0 : betw xs 1 long xs.length) (k : Nat) (hk : k ≤ xs.length) : RollBd long k (rollK xs long k) := by
  induction k with
  | zero => exact ⟨rfl, Nat.le_refl _, fun i hi => by simp [rollK] at hi⟩
  | succ k ih =>
    obtain ⟨h1, h2, h3⟩ := ih (by omega)
    have hx := h0 k (by omega)
    have hle := fitR_le long (xs.getD k 0) (rollK xs long k).2
    obtain ⟨⟨O, L⟩, hs⟩ : ∃ s, rollK xs long k = s := ⟨_, rfl⟩
    rw [hs] at h1 h2 h3 hle
    obtain ⟨c, hc⟩ : ∃ c, xs.getD k 0 = c := ⟨_, rfl⟩
    rw [hc] at hx hle
    simp only at h1 h2 h3 hle
    obtain ⟨a, ha⟩ : ∃ a, fitR long c L = a := ⟨_, rfl⟩
    rw [ha] at hle
    rw [rollK_at hs hc ha]
    by_cases hlt : a < L.length
    · have hfit : L.getD a 0 + c ≤ long := by
        by_cases hq : L.getD a 0 + c ≤ long
        · exact hq
        · have ht : ∀ (L : List Int) (a : Nat), fitR long c L = a → a < L.length → L.getD a 0 + c ≤ long := by
            intro L
            induction L with
            | nil => intro a _ h; simp at h
            | cons l L ih2 =>
              intro a e hlt
              unfold fitR at e
              by_cases q : l + c ≤ long
              · rw [if_pos q] at e; subst e; simpa using q
              · rw [if_neg q] at e; subst e; simpa using ih2 _ rfl (by simpa using hlt)
          exact absurd (ht L a ha hlt) hq
      rw [putR_old hlt]
      refine ⟨by simp [h1], by simpa using (by omega : L.length ≤ k + 1), fun i hi => ?_⟩
      simp only [List.length_set] at hi
      have hb := h3 a hlt
      by_cases e : i = a
      · subst e
        simp only [List.getD, List.getElem?_set_self hlt, Option.getD_some]
        have e2 : L[i]?.getD 0 = L.getD i 0 := rfl
        rw [e2]
        omega
      · have := h3 i hi
        simp only [List.getD, List.getElem?_set_ne (Ne.symm e)]
        exact this
    · have e : a = L.length := by omega
      subst e
      rw [putR_new]
      refine ⟨by simp [h1], by simp; omega, fun i hi => ?_⟩
      simp only [List.length_append, List.length_cons, List.length_nil] at hi
      by_cases q : i < L.length
      · have := h3 i q
        simp only [List.getD, List.getElem?_append_left q]
        exact this
      · have q2 : i = L.length := by omega
        subst q2
        simp
        omega
def rollC (xs : List Int) (long : Int) : Int := if 10 < xs.length then 3 else if inB long 1 400 = false then 2 else if betwB xs 1 400 = false then 2 else if betwB xs 1 long = false then 6 else 0
theorem rollC_3 {xs : List Int} (long : Int) (h : 10 < xs.length) : rollC xs long = 3 := if_pos h
theorem rollC_2 {xs : List Int} {long : Int} (h : ¬ 10 < xs.length) (h1 : inB long 1 400 = false ∨ betwB xs 1 400 = false) : rollC xs long = 2 := by
  unfold rollC
  rw [if_neg h]
  rcases h1 with h1 | h1
  · rw [if_pos h1]
  · rw [h1]; simp
theorem rollC_6 {xs : List Int} {long : Int} (h : ¬ 10 < xs.length) (h1 : inB long 1 400 = true) (h2 : betwB xs 1 400 = true) (h3 : betwB xs 1 long = false) : rollC xs long = 6 := by
  unfold rollC
  rw [if_neg h, if_neg (by rw [h1]; simp), if_neg (by rw [h2]; simp), if_pos h3]
theorem rollC_0 {xs : List Int} {long : Int} (h : ¬ 10 < xs.length) (h1 : inB long 1 400 = true) (h2 : betwB xs 1 400 = true) (h3 : betwB xs 1 long = true) : rollC xs long = 0 := by
  unfold rollC
  rw [if_neg h, if_neg (by rw [h1]; simp), if_neg (by rw [h2]; simp), if_neg (by rw [h3]; simp)]
theorem rollC_spec {xs : List Int} {long : Int} (h : rollC xs long = 0) : xs.length ≤ 10 ∧ (1 ≤ long ∧ long ≤ 400) ∧ betw xs 1 long xs.length := by
  unfold rollC at h
  by_cases h1 : 10 < xs.length
  · rw [if_pos h1] at h; omega
  · rw [if_neg h1] at h
    by_cases h2 : inB long 1 400 = false
    · rw [if_pos h2] at h; omega
    · rw [if_neg h2] at h
      by_cases h3 : betwB xs 1 400 = false
      · rw [if_pos h3] at h; omega
      · rw [if_neg h3] at h
        by_cases h4 : betwB xs 1 long = false
        · rw [if_pos h4] at h; omega
        · exact ⟨by omega, of_decide_eq_true (p := 1 ≤ long ∧ long ≤ 400) (by simpa [inB] using h2), betwB_spec (by simpa using h4)⟩
def rollX (xs : List Int) (long : Int) : List Int := if rollC xs long = 0 then (rollK xs long xs.length).1 else []
def rollN (xs : List Int) (long : Int) : Int := if rollC xs long = 0 then ((rollK xs long xs.length).2.length : Int) else 0
theorem roll_0 {xs : List Int} {long : Int} (h : rollC xs long = 0) : rollX xs long = (rollK xs long xs.length).1 ∧ rollN xs long = ((rollK xs long xs.length).2.length : Int) := ⟨if_pos h, if_pos h⟩
theorem roll_c {xs : List Int} {long : Int} (h : rollC xs long ≠ 0) : rollX xs long = [] ∧ rollN xs long = 0 := ⟨if_neg h, if_neg h⟩
theorem rollX_len (xs : List Int) (long : Int) : (rollX xs long).length ≤ 10 := by
  by_cases h : rollC xs long = 0
  · rw [(roll_0 h).1]
    obtain ⟨h1, _, h3⟩ := rollC_spec h
    rw [(rollK_bd h3 xs.length (Nat.le_refl _)).1]
    exact h1
  · rw [(roll_c h).1]; simp
/-- What is left of each roll. -/
def leftR (long : Int) (L : List Int) : List Int := L.map (fun l => long - l)
theorem leftR_len (long : Int) (L : List Int) : (leftR long L).length = L.length := by simp [leftR]
theorem leftR_get {long : Int} {L : List Int} {i : Nat} (h : i < L.length) : (leftR long L).getD i 0 = long - L.getD i 0 := by simp [leftR, List.getD, h]
theorem leftR_set (long : Int) (L : List Int) (i : Nat) (x : Int) : (leftR long L).set i (long - x) = leftR long (L.set i x) := by simp [leftR, List.map_set]
theorem leftR_app (long : Int) (L : List Int) (x : Int) : leftR long L ++ [long - x] = leftR long (L ++ [x]) := by simp [leftR]
theorem leftR_new (long : Int) (L : List Int) (x : Int) : (leftR long L ++ [long]).set L.length (long - x) = leftR long (L ++ [x]) := by
  rw [List.set_append_right _ _ (by rw [leftR_len]; exact Nat.le_refl _), leftR_len, Nat.sub_self, List.set_cons_zero, leftR_app]
theorem leftR_last (long : Int) (L : List Int) (x : Int) : (leftR long L ++ [x]).getD L.length 0 = x := by
  rw [List.getD, List.getElem?_append_right (by rw [leftR_len]; exact Nat.le_refl _), leftR_len, Nat.sub_self]; rfl
end Go.Proofs.Ytlobfhhdddedbaa
