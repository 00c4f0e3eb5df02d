/-
  Words joined by blanks: the plain text; strings.Join over a row that the call made.
-/
import Derived.Test.YtpneecneefeclaaTs
import Derived.Test.YtpneecneefeclaaLayJoin
import Derived.Shelf.Strings.OnBuilder
import Derived.Laws.AppendOwn
namespace Go.Proofs.Ytpneecneefeclaa
open Go Go.RowKit
set_option linter.unusedVariables false

/-- The first k words, a blank between two. -/
def wJ (ws : List (List UInt8)) : Nat → List UInt8
  | 0 => []
  | k + 1 => (wJ ws k ++ if 0 < k then [32] else []) ++ ws.getD k []
theorem wJ_join (ws : List (List UInt8)) (k : Nat) (hk : k ≤ ws.length) : wJ ws k = Lib.join (ws.take k) [32] := by
  cases ws with
  | nil =>
    have : k = 0 := by simpa using hk
    subst this; rfl
  | cons x r =>
    induction k with
    | zero => rfl
    | succ k ih =>
      cases k with
      | zero => simp [wJ, Lib.join_one]
      | succ k =>
        have hkr : k < r.length := by simp at hk; omega
        have h1 := ih (by omega)
        rw [wJ, h1, if_pos (by omega), List.take_succ_cons, List.take_succ_cons, Lib.join_cons, Lib.join_cons, Lib.joinTail_take_succ [32] r k r[k] (by simp [hkr])]
        simp [hkr, List.append_assoc]
theorem wJ_all (ws : List (List UInt8)) : wJ ws ws.length = Lib.join ws [32] := by rw [wJ_join ws _ (Nat.le_refl _), List.take_length]
theorem wJ_len (ws : List (List UInt8)) (B : Nat) (h : ∀ i, i < ws.length → (ws.getD i []).length ≤ B) (k : Nat) (hk : k ≤ ws.length) : (wJ ws k).length ≤ (B + 1) * k := by
  induction k with
  | zero => simp [wJ]
  | succ k ih =>
    have h1 := ih (by omega)
    have h2 := h k (by omega)
    have h3 : (if 0 < k then [32] else [] : List UInt8).length ≤ 1 := by split <;> simp
    rw [wJ, List.length_append, List.length_append, Nat.mul_succ]
    omega
/-- The cells of a row of words. -/
def vS (l : List UInt8) : Value := .string (str l)
def OwnW (B : Nat) (w : World) (v : Value) (ws : List (List UInt8)) : Prop := w.ownsRow B 9 1 v ws.length (ws.map vS)
theorem OwnW.cell {B g n cap : Nat} {w : World} {ws : List (List UInt8)} (h : w.ownsRow B 9 1 (.slice (some ⟨g, 0, none⟩) n cap) n (ws.map vS)) (j : Nat) (hj : j < n) : w.cell? ⟨g, j, none⟩ = some (vS (ws.getD j [])) := by
  have hl : ws.length = n := by simpa using h.1
  rw [h.cellAt j (by omega)]
  simp [List.getD, hl, hj]
theorem OwnW.store {B g n cap : Nat} {w : World} {ws : List (List UInt8)} (h : w.ownsRow B 9 1 (.slice (some ⟨g, 0, none⟩) n cap) n (ws.map vS)) (j : Nat) (l : List UInt8) :
    (w.setCell ⟨g, j, none⟩ (.string (str l))).ownsRow B 9 1 (.slice (some ⟨g, 0, none⟩) n cap) n ((ws.set j l).map vS) := by
  rw [List.map_set]; exact (h.stored j (.string (str l))).1
/-- What holds after k rounds of filling. -/
def fillW (ws : List (List UInt8)) (k : Nat) : List (List UInt8) := ws.take k ++ List.replicate (ws.length - k) []
theorem fillW_zero (ws : List (List UInt8)) : fillW ws 0 = List.replicate ws.length [] := by simp [fillW]
theorem fillW_all (ws : List (List UInt8)) : fillW ws ws.length = ws := by simp [fillW]
theorem fillW_set (ws : List (List UInt8)) (k : Nat) (h : k < ws.length) : (fillW ws k).set k (ws.getD k []) = fillW ws (k + 1) := by
  have h1 : (List.take k ws).length = k := by simp; omega
  have h2 : ws.length - k = (ws.length - (k + 1)) + 1 := by omega
  unfold fillW
  rw [List.set_append_right _ _ (by omega), h1, Nat.sub_self, h2, List.replicate_succ, List.set_cons_zero]
  rw [List.take_succ_eq_append_getElem h, List.append_assoc]
  simp [List.getD, h]
theorem made_words (n : Nat) : (madeCells (Value.string ⟨#[]⟩).cells (n * 1)).toList = (List.replicate n ([] : List UInt8)).map vS := by
  rw [Nat.mul_one, List.map_replicate]; exact toList_madeCells_one _ _
theorem below_cell {n : Nat} {z W : World} {p : Addr} {v : Value} (hb : Below n z W) (hp : p.block < n) (h : z.cell? p = some v) : W.cell? p = some v := (hb.cell hp).trans h

theorem data_str (l : List UInt8) : (str l).data.toList = l := by simp [str]
end Go.Proofs.Ytpneecneefeclaa
