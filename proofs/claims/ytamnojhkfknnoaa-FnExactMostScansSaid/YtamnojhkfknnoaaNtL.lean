/-
  LanesFrom on both sides.
-/
import Derived.Test.YtamnojhkfknnoaaNtC
import Derived.Test.YtamnojhkfknnoaaToJ
namespace Go.Proofs.Ytamnojhkfknnoaa
open Go Go.RowKit
set_option linter.unusedVariables false

/-- The indices of the first k lanes that leave a station. -/
def lfTo (ps : List Lan) (x : Int) : Nat → List Int
  | 0 => []
  | k + 1 => if (ps.getD k (0, 0, 0, 0)).1 = x then lfTo ps x k ++ [(k : Int)] else lfTo ps x k
theorem lfTo_len (ps : List Lan) (x : Int) (k : Nat) : (lfTo ps x k).length ≤ k := by
  induction k with
  | zero => exact Nat.le_refl _
  | succ k ih =>
    rw [lfTo]; split
    · simp; omega
    · omega
theorem lfTo_yes {ps : List Lan} {x : Int} {k : Nat} (h : (ps.getD k (0, 0, 0, 0)).1 = x) : lfTo ps x (k + 1) = lfTo ps x k ++ [(k : Int)] := if_pos h
theorem lfTo_no {ps : List Lan} {x : Int} {k : Nat} (h : ¬ (ps.getD k (0, 0, 0, 0)).1 = x) : lfTo ps x (k + 1) = lfTo ps x k := if_neg h
def lfC (st sy : Int) (ps : List Lan) (x : Int) : Int := askC st sy ps (inB x 0 (st - 1))
def lfR (st sy : Int) (ps : List Lan) (x : Int) : List Int := if lfC st sy ps x = 0 then lfTo ps x ps.length else []
theorem askC_ok {st sy : Int} {ps : List Lan} {fine : Bool} (h : askC st sy ps fine = 0) : vldN st sy ps = true ∧ fine = true := by
  unfold askC at h
  split at h
  · split at h
    · exact ⟨by assumption, by assumption⟩
    · omega
  · omega
theorem askC_in (st sy : Int) (ps : List Lan) (fine : Bool) : askC st sy ps fine = 0 ∨ askC st sy ps fine = 1 ∨ askC st sy ps fine = 2 := by unfold askC; split <;> (try split) <;> simp
theorem lfR_len (st sy : Int) (ps : List Lan) (x : Int) : (lfR st sy ps x).length ≤ 20 := by
  unfold lfR
  split
  · rename_i h
    have h1 := (vldN_spec (askC_ok h).1).2.2.1
    have := lfTo_len ps x ps.length
    omega
  · simp
theorem lf_chk (st sy : Int) (ps : List Lan) (x : Int) : chkC st sy ps [] [x] [] = lfC st sy ps x := by
  unfold chkC lfC askC
  have h1 : betwB [x] 0 (st - 1) = inB x 0 (st - 1) := betw1 x 0 (st - 1)
  have h2 : betwB [] 0 300 = true := betwB_true (betw.zero _ _ _)
  have h3 : scsB st [] = true := scsB_true (OkScTo.zero _ _)
  rw [h1, h2, h3]
  simp

theorem cell_one_at {W : World} {p : Addr} {x : Value} (h : W.cell? (p.add 0) = some x) : ∀ (j : Nat) (u : Value), [x][j]? = some u → W.cell? (p.add j) = some u := by
  intro j u hj
  match j, hj with
  | 0, hj => simp at hj; subst hj; exact h
theorem ret_pair {u : Value} {a b : Int} (h : a = b) : Ending.returned (.tuple #[u, .int .i64 a]) = .returned (.tuple #[u, .int .i64 b]) := by rw [h]
theorem own_alloc {B n k : Nat} {T : TypeId} {w : World} {v : Value} {xs : List Value} (h : w.ownsRow B T n v k xs) (o : Obj) : (w.alloc o).ownsRow B T n v k xs := h.alloc o
theorem ownRow_below {B n k : Nat} {T : TypeId} {w w' : World} {v : Value} {xs : List Value} (h : w.ownsRow B T n v k xs) (hb : Below w.heap.size w w') : w'.ownsRow B T n v k xs := by
  refine ⟨h.1, ?_⟩
  rcases h.2 with hn | ⟨g, cap, cur, rfl, hB, hg, rest⟩
  · exact .inl hn
  · exact .inr ⟨g, cap, cur, rfl, hB, by rw [hb.block g (Array.getElem?_eq_some_iff.1 hg).1]; exact hg, rest⟩
def RetL1 (B : Nat) (w : World) (xs : List Int) (c : Int) (e : Ending) (w' : World) : Prop := ∃ v, e = .returned (.tuple #[v, .int .i64 c]) ∧ OwnI B w' v xs ∧ Below w.heap.size w w'

end Go.Proofs.Ytamnojhkfknnoaa
