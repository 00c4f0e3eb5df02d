/-
  Words joined by blanks: the plain text; strings.Join over a row that the call made.
-/
import Derived.Test.YtbclmafplaipaaaDoorTs
import Derived.Test.YtbclmafplaipaaaDoorLayJoin
import Derived.Shelf.Strings.OnBuilder
import Derived.Laws.AppendOwn
namespace Go.Proofs.YtbclmafplaipaaaDoor
open Go Go.RowKit
set_option linter.unusedVariables false

/-- The first k words, a blank between two. -/
def wJ (ws : List (List UInt8)) : Nat → List UInt8
  | 0 => []
  | k + 1 => (wJ ws k ++ if 0 < k then [32] else []) ++ ws.getD k []
theorem wJ_join (ws : List (List UInt8)) (k : Nat) (hk : k ≤ ws.length) : wJ ws k = Lib.join (ws.take k) [32] := by
  cases ws with
  | nil =>
    have : k = 0 := by simpa using hk
    subst this; rfl
  | cons x r =>
    induction k with
    | zero => rfl
    | succ k ih =>
      cases k with
      | zero => simp [wJ, Lib.join_one]
      | succ k =>
        have hkr : k < r.length := by simp at hk; omega
        have h1 := ih (by omega)
        rw [wJ, h1, if_pos (by omega), List.take_succ_cons, List.take_succ_cons, Lib.join_cons, Lib.join_cons, Lib.joinTail_take_succ [32] r k r[k] (by simp [hkr])]
        simp [hkr, List.append_assoc]
theorem wJ_all (ws : List (List UInt8)) : wJ ws ws.length = Lib.join ws [32] := by rw [wJ_join ws _ (Nat.le_refl _), List.take_length]
theorem wJ_len (ws : List (List UInt8)) (B : Nat) (h : ∀ i, i < ws.length → (ws.getD i []).length ≤ B) (k : Nat) (hk : k ≤ ws.length) : (wJ ws k).length ≤ (B + 1) * k := by
  induction k with
  | zero => simp [wJ]
  | succ k ih =>
    have h1 := ih (by omega)
    have h2 := h k (by omega)
    have h3 : (if 0 < k then [32] else [] : List UInt8).length ≤ 1 := by split <;> simp
    rw [wJ, List.length_append, List.length_append, Nat.mul_succ]
    omega
/-- The cells of a row of words. -/
def vS (l : List UInt8) : Value := .string (str l)
def OwnW (B : Nat) (w : World) (v : Value) (ws : List (List UInt8)) : Prop := w.ownsRow B 9 1 v ws.length (ws.map vS)
theorem OwnW.cell {B g n cap : Nat} {w : World} {ws : List (List UInt8)} (h : w.ownsRow B 9 1 (.slice (some ⟨g, 0, none⟩) n cap) n (ws.map vS)) (j : Nat) (hj : j < n) : w.cell? ⟨g, j, none⟩ = some (vS (ws.getD j [])) := by
  have hl : ws.length = n := by simpa using h.1
  rw [h.cellAt j (by omega)]
  simp [List.getD, hl, hj]
theorem OwnW.store {B g n cap : Nat} {w : World} {ws : List (List UInt8)} (h : w.ownsRow B 9 1 (.slice (some ⟨g, 0, none⟩) n cap) n (ws.map vS)) (j : Nat) (l : List UInt8) :
    (w.setCell ⟨g, j, none⟩ (.string (str l))).ownsRow B 9 1 (.slice (some ⟨g, 0, none⟩) n cap) n ((ws.set j l).map vS) := by
  rw [List.map_set]; exact (h.stored j (.string (str l))).1
/-- What holds after k rounds of filling. -/
def fillW (ws : List (List UInt8)) (k : Nat) : List (List UInt8) := ws.take k ++ List.replicate (ws.length - k) []
theorem fillW_zero (ws : List (List UInt8)) : fillW ws 0 = List.replicate ws.length [] := by simp [fillW]
theorem fillW_all (ws : List (List UInt8)) : fillW ws ws.length = ws := by simp [fillW]
theorem fillW_set (ws : List (List UInt8)) (k : Nat) (h : k < ws.length) : (fillW ws k).set k (ws.getD k []) = fillW ws (k + 1) := by
  have h1 : (List.take k ws).length = k := by simp; omega
  have h2 : ws.length - k = (ws.length - (k + 1)) + 1 := by omega
  unfold fillW
  rw [List.set_append_right _ _ (by omega), h1, Nat.sub_self, h2, List.replicate_succ, List.set_cons_zero]
  rw [List.take_succ_eq_append_getElem h, List.append_assoc]
  simp [List.getD, h]
theorem made_words (n : Nat) : (madeCells (Value.string ⟨#[]⟩).cells (n * 1)).toList = (List.replicate n ([] : List UInt8)).map vS := by
  rw [Nat.mul_one, List.map_replicate]; exact toList_madeCells_one _ _
theorem below_cell {n : Nat} {z W : World} {p : Addr} {v : Value} (hb : Below n z W) (hp : p.block < n) (h : z.cell? p = some v) : W.cell? p = some v := (hb.cell hp).trans h

theorem data_str (l : List UInt8) : (str l).data.toList = l := by simp [str]
theorem ijoin_any (g n : Nat) (ws : List (List UInt8)) (hn : ws.length = n) (hm : n ≤ 1000) (hlen : (wJ ws n).length ≤ 1000000000) (B : Nat) (w : World) (h : w.ownsRow B 9 1 (.slice (some ⟨g, 0, none⟩) n n) n (ws.map vS)) :
    Calls Tryd.prog 118 #[.slice (some ⟨g, 0, none⟩) n n, .string (str [32])] w fun e w' => e = .returned (.string (str (wJ ws n))) ∧ Below w.heap.size w w' := by
  subst hn
  rw [wJ_all] at hlen ⊢
  match ws, hm, hlen, h with
  | [], _, _, _ =>
    have k := Go.Proofs.Any.strings_Join_none layJoin layJoin2 (some ⟨g, 0, none⟩) 0 (str [32]) w
    exact Calls.mono (f := 118) k (fun e w' ⟨he, hw⟩ => ⟨by rw [he]; rfl, by rw [hw]; exact Below.refl _ _⟩)
  | [x], _, _, h =>
    have hc := OwnW.cell h 0 (by simp)
    have k := Go.Proofs.Any.strings_Join_one layJoin layJoin2 g 0 1 (str x) (str [32]) w hc
    exact Calls.mono (f := 118) k (fun e w' ⟨he, hw⟩ => ⟨by rw [he, Lib.join_one], by rw [hw]; exact Below.refl _ _⟩)
  | x :: y :: r, hm, hlen, h =>
    have hmap : ((x :: y :: r).map str).map (fun s => s.data.toList) = x :: y :: r := by
      rw [List.map_map]
      conv => rhs; rw [← List.map_id (x :: y :: r)]
      apply List.map_congr_left
      intro a _
      exact data_str a
    have hlt : g < w.heap.size := World.block_lt_of_cell? w _ (OwnW.cell h 0 (by simp))
    have k := Go.Proofs.Any.strings_Join_many layJoin layJoin2 g 0 (x :: y :: r).length ((x :: y :: r).map str) (str [32]) w (fun j s hj => by
      obtain ⟨hjl, e⟩ := List.getElem?_eq_some_iff.1 hj
      have hjl' : j < (x :: y :: r).length := by simpa using hjl
      have hc := OwnW.cell h j hjl'
      rw [Nat.zero_add, hc, ← e, List.getElem_map]
      unfold vS
      rw [List.getD_eq_getElem?_getD, List.getElem?_eq_getElem hjl']
      rfl) hlt (by simp) (by simp; simp at hm; omega) (by simp) (by rw [hmap, data_str]; omega)
    rw [hmap, data_str, List.length_map] at k
    exact Calls.mono (f := 118) k (fun e w' h => ⟨by rw [h.1]; rfl, h.2⟩)
end Go.Proofs.YtbclmafplaipaaaDoor
