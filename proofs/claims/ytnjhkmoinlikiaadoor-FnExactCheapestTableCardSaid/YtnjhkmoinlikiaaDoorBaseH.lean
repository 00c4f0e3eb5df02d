/-
  Rows of int16 in memory: the words of the seat's Base, said of int16.
-/
import Derived.Test.YtnjhkmoinlikiaaDoorBase
namespace Go.Proofs.YtnjhkmoinlikiaaDoor
open Go Go.RowKit
set_option linter.unusedVariables false

/-- The cells of block b, from its head on, read as the numbers xs. -/
def CellsH (w : World) (b : Nat) (xs : List Int) : Prop := ∀ i, i < xs.length → w.cell? ⟨b, i, none⟩ = some (.int .i16 (xs.getD i 0))

theorem CellsH.below {w w' : World} {b : Nat} {xs : List Int} (h : CellsH w b xs) (hb : Below w.heap.size w w') : CellsH w' b xs := fun i hi => by
  rw [hb.cell (p := ⟨b, i, none⟩) (World.block_lt_of_cell? w _ (h i hi))]
  exact h i hi

/-- The slice value v is the call's own: a row of numbers from block number B on. -/
def OwnH (B : Nat) (w : World) (v : Value) (xs : List Int) : Prop := w.ownsRow B 51 1 v xs.length (xs.map (Value.int .i16))

theorem OwnH.cases {B : Nat} {w : World} {v : Value} {xs : List Int} (h : OwnH B w v xs) :
    (v = .slice none 0 0 ∧ xs = []) ∨ ∃ g cap, v = .slice (some ⟨g, 0, none⟩) xs.length cap ∧ B ≤ g ∧ g < w.heap.size ∧ xs.length ≤ cap ∧ cap ≤ maxLen ∧ CellsH w g xs ∧ (∀ j, w.frozen? ⟨g, j, none⟩ = false) := by
  rcases h.2 with ⟨rfl, h0⟩ | ⟨g, cap, cur, rfl, hb, hg, hn, hm, _, _⟩
  · exact .inl ⟨rfl, List.eq_nil_of_length_eq_zero h0⟩
  · refine .inr ⟨g, cap, rfl, hb, (Array.getElem?_eq_some_iff.1 hg).1, hn, hm, fun i hi => ?_, fun j => World.ownsRow.frozenAt h j⟩
    rw [World.ownsRow.cellAt h i (by simpa using hi)]
    simp [hi]

theorem OwnH.below {B : Nat} {w w' : World} {v : Value} {xs : List Int} (h : OwnH B w v xs) (hb : Below w.heap.size w w') : OwnH B w' v xs := by
  refine ⟨h.1, ?_⟩
  rcases h.2 with hn | ⟨g, cap, cur, rfl, hB, hg, rest⟩
  · exact .inl hn
  · exact .inr ⟨g, cap, cur, rfl, hB, by rw [hb.block g (Array.getElem?_eq_some_iff.1 hg).1]; exact hg, rest⟩

/-- The slice value v reads as the numbers xs: only of a slice with elements is it told where it lies. -/
def ReadsH (w : World) (v : Value) (xs : List Int) : Prop := ∃ (a : Option Addr) (cap : Nat), v = .slice a xs.length cap ∧ (xs ≠ [] → ∃ b, a = some ⟨b, 0, none⟩ ∧ CellsH w b xs)

theorem OwnH.reads {B : Nat} {w : World} {v : Value} {xs : List Int} (h : OwnH B w v xs) : ReadsH w v xs := by
  rcases h.cases with ⟨rfl, rfl⟩ | ⟨g, cap, rfl, _, _, _, _, hc, _⟩
  · exact ⟨none, 0, rfl, fun h => absurd rfl h⟩
  · exact ⟨_, cap, rfl, fun _ => ⟨g, rfl, hc⟩⟩

theorem ReadsH.below {w w' : World} {v : Value} {xs : List Int} (h : ReadsH w v xs) (hb : Below w.heap.size w w') : ReadsH w' v xs := by
  obtain ⟨a, cap, rfl, h⟩ := h
  exact ⟨a, cap, rfl, fun hx => by obtain ⟨b, rfl, hc⟩ := h hx; exact ⟨b, rfl, hc.below hb⟩⟩

/-- What is owned from B on is owned from an earlier number on. -/
theorem OwnH.mono {B B' : Nat} {w : World} {v : Value} {xs : List Int} (h : OwnH B w v xs) (hB : B' ≤ B) : OwnH B' w v xs := by
  refine ⟨h.1, ?_⟩
  rcases h.2 with hn | ⟨g, cap, cur, rfl, hb, rest⟩
  · exact .inl hn
  · exact .inr ⟨g, cap, cur, rfl, Nat.le_trans hB hb, rest⟩

theorem made_ownH {w : World} {B n : Nat} {v : Value} (h : w.ownsRow B 51 1 v n (madeCells (Value.int .i16 0).cells (n * 1)).toList) : w.ownsRow B 51 1 v n ((List.replicate n (0 : Int)).map (Value.int .i16)) := by
  have e : (madeCells (Value.int .i16 0).cells (n * 1)).toList = (List.replicate n (0 : Int)).map (Value.int .i16) := by
    rw [Nat.mul_one, List.map_replicate]; exact toList_madeCells_one _ _
  rw [← e]; exact h

/-- A cell of an owned row of numbers. -/
theorem own_cellH {w : World} {B g n cap : Nat} {xs : List Int} (h : w.ownsRow B 51 1 (.slice (some ⟨g, 0, none⟩) n cap) n (xs.map (Value.int .i16))) (j : Nat) (hj : j < n) : w.cell? ⟨g, j, none⟩ = some (.int .i16 (xs.getD j 0)) := by
  have hl : xs.length = n := by simpa using h.1
  rw [h.cellAt j (by omega)]
  simp [List.getD, hl, hj]

/-- One store into an owned row of numbers. -/
theorem own_storeH {w : World} {B g n cap : Nat} {xs : List Int} (h : w.ownsRow B 51 1 (.slice (some ⟨g, 0, none⟩) n cap) n (xs.map (Value.int .i16))) (j : Nat) (x : Int) :
    (w.setCell ⟨g, j, none⟩ (.int .i16 x)).ownsRow B 51 1 (.slice (some ⟨g, 0, none⟩) n cap) n ((xs.set j x).map (Value.int .i16)) := by
  rw [List.map_set]; exact (h.stored j (.int .i16 x)).1

theorem OwnH.cell {w : World} {B g n cap : Nat} {xs : List Int} (h : OwnH B w (.slice (some ⟨g, 0, none⟩) n cap) xs) (j : Nat) (hj : j < xs.length) : w.cell? ⟨g, j, none⟩ = some (.int .i16 (xs.getD j 0)) := by
  rcases h.cases with ⟨h', _⟩ | ⟨g', cap', h', _, _, _, _, hc, _⟩
  · simp at h'
  · simp only [Value.slice.injEq, Option.some.injEq, Addr.mk.injEq, and_true] at h'
    rw [h'.1]
    exact hc j hj

theorem OwnH.kept {B : Nat} {w w' : World} {v : Value} {xs : List Int} {row : Option Nat} (h : OwnH B w v xs) (hg : w.grownBy w' row) (hne : v.ownBlock = none ∨ v.ownBlock ≠ row) : OwnH B w' v xs := World.ownsRow.kept h hg hne
theorem OwnH.block {B : Nat} {w : World} {v : Value} {xs : List Int} (h : OwnH B w v xs) : ∀ k, v.ownBlock = some k → B ≤ k ∧ k < w.heap.size := World.ownsRow.lt h
end Go.Proofs.YtnjhkmoinlikiaaDoor
