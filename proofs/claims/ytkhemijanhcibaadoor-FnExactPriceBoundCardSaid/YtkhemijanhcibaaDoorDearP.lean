/-
  The first weight for which two parcels are cheaper: plainly.
-/
import Derived.Test.YtkhemijanhcibaaDoorPrice
namespace Go.Proofs.YtkhemijanhcibaaDoor
open Go Go.RowKit
set_option linter.unusedVariables false

/-- Two parcels, one of a, are cheaper than one of w. -/
def dear (P : List Int) (w a : Nat) : Prop := 1 ≤ a ∧ 2 * a ≤ w ∧ w < P.length ∧ P.getD a 0 + P.getD (w - a) 0 < P.getD w 0
def isFirst (P : List Int) (q : Nat × Nat) : Prop := dear P q.1 q.2 ∧ ∀ w a, (w < q.1 ∨ w = q.1 ∧ a < q.2) → ¬ dear P w a
theorem isFirst_one {P : List Int} {p q : Nat × Nat} (hp : isFirst P p) (hq : isFirst P q) : p = q := by
  obtain ⟨p1, p2⟩ := p
  obtain ⟨q1, q2⟩ := q
  have h1 := hp.2 q1 q2
  have h2 := hq.2 p1 p2
  have h3 : ¬ (q1 < p1 ∨ q1 = p1 ∧ q2 < p2) := fun h => h1 h hq.1
  have h4 : ¬ (p1 < q1 ∨ p1 = q1 ∧ p2 < q2) := fun h => h2 h hp.1
  have e1 : p1 = q1 := by omega
  subst e1
  have e2 : p2 = q2 := by omega
  subst e2
  rfl
noncomputable def fd (P : List Int) : Nat × Nat := @dite _ (∃ q, isFirst P q) (Classical.propDecidable _) (fun h => Classical.choose h) (fun _ => (0, 0))
noncomputable def fdC (P : List Int) : Int := @ite _ (∃ q, isFirst P q) (Classical.propDecidable _) 0 6
theorem fd_yes {P : List Int} {q : Nat × Nat} (h : isFirst P q) : fd P = q ∧ fdC P = 0 := by
  have he : ∃ q, isFirst P q := ⟨q, h⟩
  constructor
  · unfold fd; rw [dif_pos he]; exact isFirst_one (Classical.choose_spec he) h
  · unfold fdC; rw [if_pos he]
theorem fd_no {P : List Int} (h : ∀ w a, ¬ dear P w a) : fd P = (0, 0) ∧ fdC P = 6 := by
  have he : ¬ ∃ q, isFirst P q := fun ⟨q, hq⟩ => h _ _ hq.1
  constructor
  · unfold fd; rw [dif_neg he]
  · unfold fdC; rw [if_neg he]
/-- No weight below k is dear. -/
def fair (P : List Int) (k : Nat) : Prop := ∀ w a, w < k → ¬ dear P w a
/-- At w no part below j is dear. -/
def fairAt (P : List Int) (w j : Nat) : Prop := ∀ a, a < j → ¬ dear P w a
theorem fairAt.one (P : List Int) (w : Nat) : fairAt P w 1 := fun a ha h => by have := h.1; omega
theorem fairAt.succ {P : List Int} {w j : Nat} (h : fairAt P w j) (h1 : ¬ dear P w j) : fairAt P w (j + 1) := fun a ha => by
  by_cases e : a = j
  · subst e; exact h1
  · exact h a (by omega)
theorem fair.succ {P : List Int} {k j : Nat} (h : fair P k) (h1 : fairAt P k j) (hj : k < 2 * j) : fair P (k + 1) := fun w a hw hd => by
  by_cases e : w = k
  · subst e
    by_cases ha : a < j
    · exact h1 a ha hd
    · have := hd.2.1; omega
  · exact h w a (by omega) hd
theorem fair.low (P : List Int) (k : Nat) (hk : k ≤ 2) : fair P k := fun w a hw hd => by have h1 := hd.1; have h2 := hd.2.1; omega
theorem first_of {P : List Int} {w a : Nat} (h : fair P w) (h1 : fairAt P w a) (hd : dear P w a) : isFirst P (w, a) := ⟨hd, fun w' a' hlt => by
  rcases hlt with hlt | ⟨e, hlt⟩
  · exact h w' a' hlt
  · simp only at e hlt
    subst e
    exact h1 a' hlt⟩
theorem fair.all {P : List Int} (h : fair P P.length) : ∀ w a, ¬ dear P w a := fun w a hd => h w a hd.2.2.1 hd

/-- The last step. -/
def lastS (S : List Int) : Int := S.getD (S.length - 1) 0
theorem lastS_bound {S : List Int} (h : vldS S = true) : 1 ≤ lastS S ∧ lastS S ≤ 2000 := by
  obtain ⟨h1, h2, h3⟩ := vldS_spec h
  have := h3 (S.length - 1) (by omega)
  unfold okS at this
  exact ⟨this.2.1, this.2.2⟩
theorem stp_last {S : List Int} {n : Int} (h : 1 ≤ S.length) (hn : n ≤ lastS S) : stp S n < S.length := by
  have hle := stp_le S n
  by_cases e : stp S n = S.length
  · have := stp_before S n (S.length - 1) (by omega)
    unfold lastS at hn
    omega
  · omega
theorem rise_lt {S : List Int} {k i j : Nat} (h : RiseT S k) (hij : i < j) (hj : j < k) : S.getD i 0 < S.getD j 0 := by
  induction j with
  | zero => omega
  | succ j ih =>
    have h1 := h (j + 1) hj
    unfold okS prevH at h1
    rw [if_neg (by omega), Nat.add_sub_cancel] at h1
    by_cases e : i = j
    · subst e; exact h1.1
    · have := ih (by omega) (by omega); omega
theorem rise_le_last {S : List Int} (h : RiseT S S.length) {i : Nat} (hi : i < S.length) : S.getD i 0 ≤ lastS S := by
  unfold lastS
  by_cases e : i = S.length - 1
  · rw [← e]; exact Int.le_refl _
  · have := rise_lt h (i := i) (j := S.length - 1) (by omega) (by omega); omega
theorem stp_mid {S : List Int} (h : RiseT S S.length) {i : Nat} (hi : i < S.length) {n : Int} (h1 : prevH S i < n) (h2 : n ≤ S.getD i 0) : stp S n = i := by
  refine stp_eq hi (fun j hj => ?_) h2
  unfold prevH at h1
  rw [if_neg (by omega)] at h1
  by_cases e : j = i - 1
  · rw [e]; exact h1
  · have := rise_lt h (i := j) (j := i - 1) (by omega) (by omega); omega

/-- The prices of all weights up to the last step, 0 for none. -/
def pl (S : List Int) (R : List (List Int)) (z : Int) : List Int := (List.range ((lastS S).toNat + 1)).map fun (w : Nat) => if w = 0 then 0 else prc S R z w
theorem pl_len (S : List Int) (R : List (List Int)) (z : Int) : (pl S R z).length = (lastS S).toNat + 1 := by simp [pl]
theorem pl_0 (S : List Int) (R : List (List Int)) (z : Int) : (pl S R z).getD 0 0 = 0 := by simp [pl, List.getD]
theorem pl_get (S : List Int) (R : List (List Int)) (z : Int) (w : Nat) (h : w < (lastS S).toNat + 1) (h0 : w ≠ 0) : (pl S R z).getD w 0 = prc S R z w := by
  simp [pl, List.getD, h, h0]
theorem pl_bound {S : List Int} {R : List (List Int)} {z : Int} (hv : vldT S R = true) (hz : inB z 0 (R.length - 1) = true) (w : Nat) : 0 ≤ (pl S R z).getD w 0 ∧ (pl S R z).getD w 0 ≤ 10000 := by
  have h1 := (vldT_spec hv).1
  have hl := (vldS_spec h1).1
  by_cases h : w < (lastS S).toNat + 1
  · by_cases h0 : w = 0
    · subst h0; rw [pl_0]; omega
    · rw [pl_get S R z w h h0]
      have hb := lastS_bound h1
      exact prc_bound hv hz (stp_last hl (by omega))
  · have : (pl S R z).getD w 0 = 0 := by simp [List.getD, pl_len, show (lastS S).toNat + 1 ≤ w by omega]
    omega
/-- The answer of FirstDearer. -/
noncomputable def fdX (S : List Int) (R : List (List Int)) (z : Int) : Int := if chk S R z [] = 0 then (fd (pl S R z)).1 else 0
noncomputable def fdA (S : List Int) (R : List (List Int)) (z : Int) : Int := if chk S R z [] = 0 then (fd (pl S R z)).2 else 0
noncomputable def fdK (S : List Int) (R : List (List Int)) (z : Int) : Int := if chk S R z [] = 0 then fdC (pl S R z) else chk S R z []
theorem chk_nil (S : List Int) (R : List (List Int)) (z : Int) : chk S R z [] = asked S R z true := by
  unfold chk asked
  rw [show betwB [] 1 2000 = true from betwB_true (fun i hi => by simp at hi)]
  simp
theorem fd_c {S : List Int} {R : List (List Int)} {z : Int} (h : chk S R z [] ≠ 0) : fdX S R z = 0 ∧ fdA S R z = 0 ∧ fdK S R z = chk S R z [] := ⟨if_neg h, if_neg h, if_neg h⟩
theorem fd_found {S : List Int} {R : List (List Int)} {z : Int} {w a : Nat} (h : chk S R z [] = 0) (h1 : isFirst (pl S R z) (w, a)) : fdX S R z = w ∧ fdA S R z = a ∧ fdK S R z = 0 := by
  have e := fd_yes h1
  unfold fdX fdA fdK
  rw [if_pos h, if_pos h, if_pos h, e.1, e.2]
  exact ⟨rfl, rfl, rfl⟩
theorem fd_none {S : List Int} {R : List (List Int)} {z : Int} (h : chk S R z [] = 0) (h1 : ∀ w a, ¬ dear (pl S R z) w a) : fdX S R z = 0 ∧ fdA S R z = 0 ∧ fdK S R z = 6 := by
  have e := fd_no h1
  unfold fdX fdA fdK
  rw [if_pos h, if_pos h, if_pos h, e.1, e.2]
  exact ⟨rfl, rfl, rfl⟩
end Go.Proofs.YtkhemijanhcibaaDoor
