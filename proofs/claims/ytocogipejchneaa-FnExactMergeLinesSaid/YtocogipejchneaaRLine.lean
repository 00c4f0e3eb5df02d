/-
  Rows of Line in memory.
-/
import Derived.Test.YtocogipejchneaaFlat
import Derived.Test.YtocogipejchneaaIn
import Derived.StillTailTactics
import Derived.Laws.ResultCell
namespace Go.Proofs.Ytocogipejchneaa
open Go Go.RowKit
set_option linter.unusedVariables false

def encL (p : Int × Int × Int × Int) : List Value := [.int .i8 p.1, .int .i16 p.2.1, .int .i32 p.2.2.1, .int .i32 p.2.2.2]
theorem encL_len (p : Int × Int × Int × Int) : (encL p).length = 4 := rfl
def flatL (ps : List (Int × Int × Int × Int)) : List Value := flatE encL ps
theorem flatL_length (ps : List (Int × Int × Int × Int)) : (flatL ps).length = ps.length * 4 := flatE_length encL_len ps
theorem flatL_0 (ps : List (Int × Int × Int × Int)) (i : Nat) (hi : i < ps.length) : (flatL ps)[i * 4]? = some (.int .i8 (ps.getD i (0, 0, 0, 0)).1) := by
  have h := flatE_get encL_len ps i 0 hi (by omega)
  rw [Nat.add_zero] at h
  unfold flatL
  rw [h]; simp [encL, List.getD, hi]
theorem flatL_1 (ps : List (Int × Int × Int × Int)) (i : Nat) (hi : i < ps.length) : (flatL ps)[i * 4 + 1]? = some (.int .i16 (ps.getD i (0, 0, 0, 0)).2.1) := by
  have h := flatE_get encL_len ps i 1 hi (by omega)
  unfold flatL
  rw [h]; simp [encL, List.getD, hi]
theorem flatL_2 (ps : List (Int × Int × Int × Int)) (i : Nat) (hi : i < ps.length) : (flatL ps)[i * 4 + 2]? = some (.int .i32 (ps.getD i (0, 0, 0, 0)).2.2.1) := by
  have h := flatE_get encL_len ps i 2 hi (by omega)
  unfold flatL
  rw [h]; simp [encL, List.getD, hi]
theorem flatL_3 (ps : List (Int × Int × Int × Int)) (i : Nat) (hi : i < ps.length) : (flatL ps)[i * 4 + 3]? = some (.int .i32 (ps.getD i (0, 0, 0, 0)).2.2.2) := by
  have h := flatE_get encL_len ps i 3 hi (by omega)
  unfold flatL
  rw [h]; simp [encL, List.getD, hi]
theorem flatL_set (ps : List (Int × Int × Int × Int)) (i : Nat) (x0 x1 x2 x3 : Int) (hi : i < ps.length) : ((((flatL ps).set (i * 4) (.int .i8 x0)).set (i * 4 + 1) (.int .i16 x1)).set (i * 4 + 2) (.int .i32 x2)).set (i * 4 + 3) (.int .i32 x3) = flatL (ps.set i (x0, x1, x2, x3)) := by
  unfold flatL
  have h0 := flatE_set encL_len ps i 0 (.int .i8 x0) (x0, (ps[i]).2) hi (by omega) rfl
  rw [Nat.add_zero] at h0
  rw [h0]
  have h1 := flatE_set encL_len (ps.set i (x0, (ps[i]).2)) i 1 (.int .i16 x1) (x0, x1, (ps[i]).2.2) (by simpa using hi) (by omega) (by simp [encL])
  rw [h1, List.set_set]
  have h2 := flatE_set encL_len (ps.set i (x0, x1, (ps[i]).2.2)) i 2 (.int .i32 x2) (x0, x1, x2, (ps[i]).2.2.2) (by simpa using hi) (by omega) (by simp [encL])
  rw [h2, List.set_set]
  have h3 := flatE_set encL_len (ps.set i (x0, x1, x2, (ps[i]).2.2.2)) i 3 (.int .i32 x3) (x0, x1, x2, x3) (by simpa using hi) (by omega) (by simp [encL])
  rw [h3, List.set_set]
theorem flatL_append (ps qs : List (Int × Int × Int × Int)) : flatL (ps ++ qs) = flatL ps ++ flatL qs := by simp [flatL, flatE]
def CellsL (w : World) (b : Nat) (ps : List (Int × Int × Int × Int)) : Prop := ∀ i, i < ps.length → w.cell? ⟨b, i * 4, none⟩ = some (.int .i8 (ps.getD i (0, 0, 0, 0)).1) ∧ w.cell? ⟨b, i * 4 + 1, none⟩ = some (.int .i16 (ps.getD i (0, 0, 0, 0)).2.1) ∧ w.cell? ⟨b, i * 4 + 2, none⟩ = some (.int .i32 (ps.getD i (0, 0, 0, 0)).2.2.1) ∧ w.cell? ⟨b, i * 4 + 3, none⟩ = some (.int .i32 (ps.getD i (0, 0, 0, 0)).2.2.2)
theorem CellsL.below {w w' : World} {b : Nat} {ps : List (Int × Int × Int × Int)} (h : CellsL w b ps) (hb : Below w.heap.size w w') : CellsL w' b ps := fun i hi => by
  obtain ⟨h0, h1, h2, h3⟩ := h i hi
  rw [hb.cell (p := ⟨b, i * 4, none⟩) (World.block_lt_of_cell? w _ h0), hb.cell (p := ⟨b, i * 4 + 1, none⟩) (World.block_lt_of_cell? w _ h1), hb.cell (p := ⟨b, i * 4 + 2, none⟩) (World.block_lt_of_cell? w _ h2), hb.cell (p := ⟨b, i * 4 + 3, none⟩) (World.block_lt_of_cell? w _ h3)]
  exact ⟨h0, h1, h2, h3⟩
def OwnL (T : TypeId) (B : Nat) (w : World) (v : Value) (ps : List (Int × Int × Int × Int)) : Prop := w.ownsRow B T 4 v ps.length (flatL ps)
theorem OwnL.cases {T : TypeId} {B : Nat} {w : World} {v : Value} {ps : List (Int × Int × Int × Int)} (h : OwnL T B w v ps) :
    (v = .slice none 0 0 ∧ ps = []) ∨ ∃ g cap, v = .slice (some ⟨g, 0, none⟩) ps.length cap ∧ B ≤ g ∧ g < w.heap.size ∧ ps.length ≤ cap ∧ cap ≤ maxLen ∧ CellsL w g ps ∧ (∀ j, w.frozen? ⟨g, j, none⟩ = false) := by
  rcases h.2 with ⟨rfl, h0⟩ | ⟨g, cap, cur, rfl, hb, hg, hn, hm, _, _⟩
  · exact .inl ⟨rfl, List.eq_nil_of_length_eq_zero h0⟩
  · refine .inr ⟨g, cap, rfl, hb, (Array.getElem?_eq_some_iff.1 hg).1, hn, hm, fun i hi => ⟨?_, ?_, ?_, ?_⟩, fun j => World.ownsRow.frozenAt h j⟩
    · rw [World.ownsRow.cellAt h (i * 4) (by omega), flatL_0 ps i hi]
    · rw [World.ownsRow.cellAt h (i * 4 + 1) (by omega), flatL_1 ps i hi]
    · rw [World.ownsRow.cellAt h (i * 4 + 2) (by omega), flatL_2 ps i hi]
    · rw [World.ownsRow.cellAt h (i * 4 + 3) (by omega), flatL_3 ps i hi]
theorem OwnL.below {T : TypeId} {B : Nat} {w w' : World} {v : Value} {ps : List (Int × Int × Int × Int)} (h : OwnL T B w v ps) (hb : Below w.heap.size w w') : OwnL T B w' v ps := by
  refine ⟨h.1, ?_⟩
  rcases h.2 with hn | ⟨g, cap, cur, rfl, hB, hg, rest⟩
  · exact .inl hn
  · exact .inr ⟨g, cap, cur, rfl, hB, by rw [hb.block g (Array.getElem?_eq_some_iff.1 hg).1]; exact hg, rest⟩
theorem OwnL.mono {T : TypeId} {B B' : Nat} {w : World} {v : Value} {ps : List (Int × Int × Int × Int)} (h : OwnL T B w v ps) (hB : B' ≤ B) : OwnL T B' w v ps := by
  refine ⟨h.1, ?_⟩
  rcases h.2 with hn | ⟨g, cap, cur, rfl, hb, rest⟩
  · exact .inl hn
  · exact .inr ⟨g, cap, cur, rfl, Nat.le_trans hB hb, rest⟩
theorem OwnL.kept {T : TypeId} {B : Nat} {w w' : World} {v : Value} {ps : List (Int × Int × Int × Int)} {row : Option Nat} (h : OwnL T B w v ps) (hg : w.grownBy w' row) (hne : v.ownBlock = none ∨ v.ownBlock ≠ row) : OwnL T B w' v ps := World.ownsRow.kept h hg hne
theorem OwnL.block {T : TypeId} {B : Nat} {w : World} {v : Value} {ps : List (Int × Int × Int × Int)} (h : OwnL T B w v ps) : ∀ k, v.ownBlock = some k → B ≤ k ∧ k < w.heap.size := World.ownsRow.lt h
def ReadsL (w : World) (v : Value) (ps : List (Int × Int × Int × Int)) : Prop := ∃ (a : Option Addr) (cap : Nat), v = .slice a ps.length cap ∧ (ps ≠ [] → ∃ b, a = some ⟨b, 0, none⟩ ∧ CellsL w b ps)
theorem OwnL.reads {T : TypeId} {B : Nat} {w : World} {v : Value} {ps : List (Int × Int × Int × Int)} (h : OwnL T B w v ps) : ReadsL w v ps := by
  rcases h.cases with ⟨rfl, rfl⟩ | ⟨g, cap, rfl, _, _, _, _, hc, _⟩
  · exact ⟨none, 0, rfl, fun h => absurd rfl h⟩
  · exact ⟨_, cap, rfl, fun _ => ⟨g, rfl, hc⟩⟩
theorem ReadsL.below {w w' : World} {v : Value} {ps : List (Int × Int × Int × Int)} (h : ReadsL w v ps) (hb : Below w.heap.size w w') : ReadsL w' v ps := by
  obtain ⟨a, cap, rfl, h⟩ := h
  exact ⟨a, cap, rfl, fun hx => by obtain ⟨b, rfl, hc⟩ := h hx; exact ⟨b, rfl, hc.below hb⟩⟩
def IsRowL (w : World) (a : Option Addr) (len cap : Nat) (ps : List (Int × Int × Int × Int)) : Prop :=
  (a = none ∧ len = 0 ∧ cap = 0 ∧ ps = []) ∨
  ∃ x, a = some x ∧ len ≤ cap ∧ cap ≤ maxLen ∧ ps.length = len ∧ ∀ i, i < ps.length → w.cell? (x.add (i * 4)) = some (.int .i8 (ps.getD i (0, 0, 0, 0)).1) ∧ w.cell? (x.add (i * 4 + 1)) = some (.int .i16 (ps.getD i (0, 0, 0, 0)).2.1) ∧ w.cell? (x.add (i * 4 + 2)) = some (.int .i32 (ps.getD i (0, 0, 0, 0)).2.2.1) ∧ w.cell? (x.add (i * 4 + 3)) = some (.int .i32 (ps.getD i (0, 0, 0, 0)).2.2.2)
theorem IsRowL.below {w w' : World} {a : Option Addr} {len cap : Nat} {ps : List (Int × Int × Int × Int)} (h : IsRowL w a len cap ps) (hb : Below w.heap.size w w') : IsRowL w' a len cap ps := by
  rcases h with h | ⟨x, rfl, h1, h2, h3, h4⟩
  · exact .inl h
  · refine .inr ⟨x, rfl, h1, h2, h3, fun i hi => ?_⟩
    obtain ⟨g0, g1, g2, g3⟩ := h4 i hi
    rw [hb.cell (World.block_lt_of_cell? w _ g0), hb.cell (World.block_lt_of_cell? w _ g1), hb.cell (World.block_lt_of_cell? w _ g2), hb.cell (World.block_lt_of_cell? w _ g3)]
    exact ⟨g0, g1, g2, g3⟩
theorem IsRowL.len_eq {w : World} {a : Option Addr} {len cap : Nat} {ps : List (Int × Int × Int × Int)} (h : IsRowL w a len cap ps) : ps.length = len := by
  rcases h with ⟨_, rfl, _, rfl⟩ | ⟨x, rfl, h1, h2, h3, h4⟩
  · rfl
  · exact h3
theorem IsRowL.len_ok {w : World} {a : Option Addr} {len cap : Nat} {ps : List (Int × Int × Int × Int)} (h : IsRowL w a len cap ps) : len ≤ 9223372036854775807 := by
  rcases h with ⟨_, rfl, _, _⟩ | ⟨x, _, h1, h2, _⟩
  · omega
  · unfold maxLen at h2; omega
/-- Each number fits its field. -/
def FitL (p : Int × Int × Int × Int) : Prop := (-128 ≤ p.1 ∧ p.1 ≤ 127) ∧ (-32768 ≤ p.2.1 ∧ p.2.1 ≤ 32767) ∧ (-2147483648 ≤ p.2.2.1 ∧ p.2.2.1 ≤ 2147483647) ∧ (-2147483648 ≤ p.2.2.2 ∧ p.2.2.2 ≤ 2147483647)
def FitsL (ps : List (Int × Int × Int × Int)) : Prop := ∀ p ∈ ps, FitL p
theorem FitsL.get {ps : List (Int × Int × Int × Int)} (h : FitsL ps) (i : Nat) (hi : i < ps.length) : FitL (ps.getD i (0, 0, 0, 0)) := by
  have e : ps.getD i (0, 0, 0, 0) = ps[i] := by simp [List.getD, hi]
  rw [e]; exact h _ (List.getElem_mem hi)
end Go.Proofs.Ytocogipejchneaa
