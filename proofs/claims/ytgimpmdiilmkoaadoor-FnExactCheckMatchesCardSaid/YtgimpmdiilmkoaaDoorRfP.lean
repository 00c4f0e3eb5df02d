/-
  RefundOf: plain: which matches have indices and a number, and what is paid back for them.
-/
import Derived.Test.YtgimpmdiilmkoaaDoorSwP
import Derived.Test.YtgimpmdiilmkoaaDoorRMatch
namespace Go.Proofs.YtgimpmdiilmkoaaDoor
open Go Go.RowKit
set_option linter.unusedVariables false

theorem wr64 (n : Int) (h : -9223372036854775808 ≤ n ∧ n ≤ 9223372036854775807) : wrap64 n = n := by unfold wrap64; omega
abbrev Q3 := Int × Int × Int
/-- A match of m orders and n returns: both are indices, and the number is none less than 0. -/
def okMa (m n : Nat) (p : Q3) : Prop := (0 ≤ p.1 ∧ p.1 ≤ (n : Int) - 1) ∧ (0 ≤ p.2.1 ∧ p.2.1 ≤ (m : Int) - 1) ∧ 0 ≤ p.2.2
instance (m n : Nat) (c : Q3) : Decidable (okMa m n c) := inferInstanceAs (Decidable (_ ∧ _))
def OkMaTo (m n : Nat) (ms : List Q3) (k : Nat) : Prop := ∀ i, i < k → okMa m n (ms.getD i (0, 0, 0))
theorem OkMaTo.zero (m n : Nat) (ms : List Q3) : OkMaTo m n ms 0 := fun i hi => absurd hi (by omega)
theorem OkMaTo.succ {m n : Nat} {ms : List Q3} {k : Nat} (h : OkMaTo m n ms k) (h1 : okMa m n (ms.getD k (0, 0, 0))) : OkMaTo m n ms (k + 1) := fun i hi => by
  by_cases e : i = k
  · subst e; exact h1
  · exact h i (by omega)
instance (m n : Nat) (ms : List Q3) (k : Nat) : Decidable (OkMaTo m n ms k) := inferInstanceAs (Decidable (∀ i, i < k → _))
def allMa (m n : Nat) (ms : List Q3) : Bool := decide (OkMaTo m n ms ms.length)
theorem allMa_true {m n : Nat} {ms : List Q3} (h : OkMaTo m n ms ms.length) : allMa m n ms = true := decide_eq_true h
theorem allMa_bad {m n : Nat} {ms : List Q3} {k : Nat} (hk : k < ms.length) (h : ¬ okMa m n (ms.getD k (0, 0, 0))) : allMa m n ms = false := decide_eq_false fun q => h (q k hk)
theorem allMa_spec {m n : Nat} {ms : List Q3} (h : allMa m n ms = true) : OkMaTo m n ms ms.length := of_decide_eq_true h
/-- What is paid back for the first k matches. -/
def refTo (ps : List Q5) (ms : List Q3) : Nat → Int
  | 0 => 0
  | k + 1 => refTo ps ms k + (ms.getD k (0, 0, 0)).2.2 * (ps.getD (ms.getD k (0, 0, 0)).2.1.toNat (0, 0, 0, 0, 0)).2.2.2.1
theorem mul_in {a b A B : Int} (h0 : 0 ≤ a) (h1 : a ≤ A) (h2 : 0 ≤ b) (h3 : b ≤ B) : 0 ≤ a * b ∧ a * b ≤ A * B :=
  ⟨Int.mul_nonneg h0 h2, Int.mul_le_mul h1 h3 h2 (by omega)⟩
theorem price_in {ps : List Q5} (h : OkOdTo ps ps.length) (i : Nat) : 0 ≤ (ps.getD i (0, 0, 0, 0, 0)).2.2.2.1 ∧ (ps.getD i (0, 0, 0, 0, 0)).2.2.2.1 ≤ 10000 := by
  by_cases hi : i < ps.length
  · have h1 := h i hi
    unfold okOd at h1
    exact h1.2.2.2.1
  · have e : ps.getD i (0, 0, 0, 0, 0) = (0, 0, 0, 0, 0) := by simp [List.getD, Nat.not_lt.1 hi]
    rw [e]; decide
theorem refTo_in {ps : List Q5} {ms : List Q3} {m n k : Nat} (h : OkOdTo ps ps.length) (hk : k ≤ ms.length) (h2 : OkMaTo m n ms k) (hf : FitsMa ms) : 0 ≤ refTo ps ms k ∧ refTo ps ms k ≤ 327670000 * k := by
  induction k with
  | zero => simp [refTo]
  | succ k ih =>
    have h1 := ih (by omega) (fun i hi => h2 i (by omega))
    have h3 := h2 k (by omega)
    have h4 := hf.get k (by omega)
    unfold okMa at h3
    unfold FitMa at h4
    have h5 := price_in h (ms.getD k (0, 0, 0)).2.1.toNat
    have h6 := mul_in h3.2.2 h4.2.2.2 h5.1 h5.2
    rw [refTo]
    omega
def rfC (ps : List Q5) (rs : List Q4) (ms : List Q3) : Int := if (vldOd ps && vldRt rs) = false then 1 else if allMa ps.length rs.length ms = false then 2 else 0
def rfRes (ps : List Q5) (rs : List Q4) (ms : List Q3) : Int := if rfC ps rs ms = 0 then refTo ps ms ms.length else 0
theorem rf_1 {ps : List Q5} {rs : List Q4} {ms : List Q3} (h : (vldOd ps && vldRt rs) = false) : rfC ps rs ms = 1 ∧ rfRes ps rs ms = 0 := by
  have e : rfC ps rs ms = 1 := if_pos h
  exact ⟨e, if_neg (by rw [e]; decide)⟩
theorem rf_2 {ps : List Q5} {rs : List Q4} {ms : List Q3} (h : (vldOd ps && vldRt rs) = true) (g : allMa ps.length rs.length ms = false) : rfC ps rs ms = 2 ∧ rfRes ps rs ms = 0 := by
  have e : rfC ps rs ms = 2 := by unfold rfC; rw [if_neg (by rw [h]; simp), if_pos g]
  exact ⟨e, if_neg (by rw [e]; decide)⟩
theorem rf_0 {ps : List Q5} {rs : List Q4} {ms : List Q3} (h : (vldOd ps && vldRt rs) = true) (g : allMa ps.length rs.length ms = true) : rfC ps rs ms = 0 ∧ rfRes ps rs ms = refTo ps ms ms.length := by
  have e : rfC ps rs ms = 0 := by unfold rfC; rw [if_neg (by rw [h]; simp), if_neg (by rw [g]; simp)]
  exact ⟨e, if_pos e⟩
/-- A row's cells, or none where the list is empty. -/
theorem cells_orM {w : World} {v : Value} {ps : List Q3} (h : ReadsMa w v ps) : ∃ a b cap, v = .slice a ps.length cap ∧ (ps.length ≠ 0 → a = some ⟨b, 0, none⟩) ∧ CellsMa w b ps := by
  obtain ⟨a, cap, rfl, h⟩ := h
  by_cases e : ps = []
  · subst e; exact ⟨a, 0, cap, rfl, fun h => absurd rfl h, fun i hi => absurd hi (by simp)⟩
  · obtain ⟨b, h1, h2⟩ := h e; exact ⟨a, b, cap, rfl, fun _ => h1, h2⟩
end Go.Proofs.YtgimpmdiilmkoaaDoor
