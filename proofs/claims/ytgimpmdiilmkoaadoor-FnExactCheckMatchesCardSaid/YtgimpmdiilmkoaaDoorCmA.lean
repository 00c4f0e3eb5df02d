/-
  Which matches are right: plain, for the program's.
-/
import Derived.Test.YtgimpmdiilmkoaaDoorCmX
import Derived.Test.YtgimpmdiilmkoaaDoorCmI
import Derived.Test.YtgimpmdiilmkoaaDoorBlock
namespace Go.Proofs.YtgimpmdiilmkoaaDoor
open Go Go.RowKit
set_option linter.unusedVariables false

theorem BlockI.below {w w' : World} {B : Nat} {T : TypeId} {L : List Int} (h : BlockI w B T L) {s : Nat} (hb : Below s w w') (hs : B < s) : BlockI w' B T L := (hb.block B hs).trans h
/-- The first k pairs. -/
def pairRow (ms : List Q3) (k : Nat) : List Q3 := (List.range k).map fun i => ((mAt ms i).1, (mAt ms i).2.1, 0)
theorem pairRow_len (ms : List Q3) (k : Nat) : (pairRow ms k).length = k := by simp [pairRow]
theorem pairRow_get (ms : List Q3) {k j : Nat} (h : j < k) : (pairRow ms k).getD j (0, 0, 0) = ((mAt ms j).1, (mAt ms j).2.1, 0) := by simp [pairRow, List.getD, h]
theorem pairRow_succ (ms : List Q3) (k : Nat) : pairRow ms (k + 1) = pairRow ms k ++ [((mAt ms k).1, (mAt ms k).2.1, 0)] := by simp [pairRow, List.range_succ]
theorem hasM_spec {qs : List Q3} {q : Q3} (h : hasM qs q = true) : ∃ j, j < qs.length ∧ qs.getD j (0, 0, 0) = q := @of_decide_eq_true _ (Classical.propDecidable _) h
theorem hasM_not {qs : List Q3} {q : Q3} (h : hasM qs q = false) : ¬ ∃ j, j < qs.length ∧ qs.getD j (0, 0, 0) = q := @of_decide_eq_false _ (Classical.propDecidable _) h
theorem pair_yes {ms : List Q3} {k : Nat} {r o : Int} (h : hasM (pairRow ms k) (r, o, 0) = true) : ∃ j, j < k ∧ (mAt ms j).1 = r ∧ (mAt ms j).2.1 = o := by
  obtain ⟨j, hj, e⟩ := hasM_spec h
  rw [pairRow_len] at hj
  rw [pairRow_get ms hj] at e
  simp only [Prod.mk.injEq] at e
  exact ⟨j, hj, e.1, e.2.1⟩
theorem pair_no {ms : List Q3} {k : Nat} {r o : Int} (h : hasM (pairRow ms k) (r, o, 0) = false) : ∀ j, j < k → ¬ ((mAt ms j).1 = r ∧ (mAt ms j).2.1 = o) := fun j hj e =>
  hasM_not h ⟨j, by rw [pairRow_len]; exact hj, by rw [pairRow_get ms hj, e.1, e.2]⟩
theorem sent_step {ms : List Q3} {rs : List Q4} {n k ri : Nat} {x2 : Int} (h : ∀ r : Nat, r < n → sentAt ms r k ≤ numR rs r) (hr : (mAt ms k).1 = (ri : Int)) (hx : (mAt ms k).2.2 = x2) (hle : sentAt ms (ri : Int) k + x2 ≤ numR rs ri) : ∀ r : Nat, r < n → sentAt ms r (k + 1) ≤ numR rs r := fun r hrn => by
  rw [sentAt]
  by_cases e : ri = r
  · subst e; rw [if_pos hr, hx]; exact hle
  · rw [if_neg (by rw [hr]; omega)]; exact h r hrn
theorem had_step {ms : List Q3} {ps : List Q5} {m k oj : Nat} {x2 : Int} (h : ∀ o : Nat, o < m → hadAt ms o k ≤ numO ps o) (ho : (mAt ms k).2.1 = (oj : Int)) (hx : (mAt ms k).2.2 = x2) (hle : hadAt ms (oj : Int) k + x2 ≤ numO ps oj) : ∀ o : Nat, o < m → hadAt ms o (k + 1) ≤ numO ps o := fun o hom => by
  rw [hadAt]
  by_cases e : oj = o
  · subst e; rw [if_pos ho, hx]; exact hle
  · rw [if_neg (by rw [ho]; omega)]; exact h o hom
theorem sentAt_up {ms : List Q3} {k ri : Nat} {x2 : Int} (hr : (mAt ms k).1 = (ri : Int)) (hx : (mAt ms k).2.2 = x2) : sentAt ms (ri : Int) (k + 1) = sentAt ms (ri : Int) k + x2 := by rw [sentAt, if_pos hr, hx]
theorem hadAt_up {ms : List Q3} {k oj : Nat} {x2 : Int} (ho : (mAt ms k).2.1 = (oj : Int)) (hx : (mAt ms k).2.2 = x2) : hadAt ms (oj : Int) (k + 1) = hadAt ms (oj : Int) k + x2 := by rw [hadAt, if_pos ho, hx]
theorem info_match : (Tryd.prog.info? 111).map (fun i => (i.zero, i.size, i.bytes)) = some (some (.agg #[.int .i8 0, .int .i8 0, .int .i16 0]), 3, 4) := by kernel_rfl
end Go.Proofs.YtgimpmdiilmkoaaDoor
