/-
  Rows of Class in memory.
-/
import Derived.Test.YtocogipejchneaaFlat
import Derived.Test.YtocogipejchneaaIn
import Derived.StillTailTactics
import Derived.Laws.ResultCell
namespace Go.Proofs.Ytocogipejchneaa
open Go Go.RowKit
set_option linter.unusedVariables false

def encC (p : Int × Int × Int × Int) : List Value := [.int .i16 p.1, .int .i16 p.2.1, .int .i16 p.2.2.1, .int .i32 p.2.2.2]
theorem encC_len (p : Int × Int × Int × Int) : (encC p).length = 4 := rfl
def flatC (ps : List (Int × Int × Int × Int)) : List Value := flatE encC ps
theorem flatC_length (ps : List (Int × Int × Int × Int)) : (flatC ps).length = ps.length * 4 := flatE_length encC_len ps
theorem flatC_0 (ps : List (Int × Int × Int × Int)) (i : Nat) (hi : i < ps.length) : (flatC ps)[i * 4]? = some (.int .i16 (ps.getD i (0, 0, 0, 0)).1) := by
  have h := flatE_get encC_len ps i 0 hi (by omega)
  rw [Nat.add_zero] at h
  unfold flatC
  rw [h]; simp [encC, List.getD, hi]
theorem flatC_1 (ps : List (Int × Int × Int × Int)) (i : Nat) (hi : i < ps.length) : (flatC ps)[i * 4 + 1]? = some (.int .i16 (ps.getD i (0, 0, 0, 0)).2.1) := by
  have h := flatE_get encC_len ps i 1 hi (by omega)
  unfold flatC
  rw [h]; simp [encC, List.getD, hi]
theorem flatC_2 (ps : List (Int × Int × Int × Int)) (i : Nat) (hi : i < ps.length) : (flatC ps)[i * 4 + 2]? = some (.int .i16 (ps.getD i (0, 0, 0, 0)).2.2.1) := by
  have h := flatE_get encC_len ps i 2 hi (by omega)
  unfold flatC
  rw [h]; simp [encC, List.getD, hi]
theorem flatC_3 (ps : List (Int × Int × Int × Int)) (i : Nat) (hi : i < ps.length) : (flatC ps)[i * 4 + 3]? = some (.int .i32 (ps.getD i (0, 0, 0, 0)).2.2.2) := by
  have h := flatE_get encC_len ps i 3 hi (by omega)
  unfold flatC
  rw [h]; simp [encC, List.getD, hi]
theorem flatC_set (ps : List (Int × Int × Int × Int)) (i : Nat) (x0 x1 x2 x3 : Int) (hi : i < ps.length) : ((((flatC ps).set (i * 4) (.int .i16 x0)).set (i * 4 + 1) (.int .i16 x1)).set (i * 4 + 2) (.int .i16 x2)).set (i * 4 + 3) (.int .i32 x3) = flatC (ps.set i (x0, x1, x2, x3)) := by
  unfold flatC
  have h0 := flatE_set encC_len ps i 0 (.int .i16 x0) (x0, (ps[i]).2) hi (by omega) rfl
  rw [Nat.add_zero] at h0
  rw [h0]
  have h1 := flatE_set encC_len (ps.set i (x0, (ps[i]).2)) i 1 (.int .i16 x1) (x0, x1, (ps[i]).2.2) (by simpa using hi) (by omega) (by simp [encC])
  rw [h1, List.set_set]
  have h2 := flatE_set encC_len (ps.set i (x0, x1, (ps[i]).2.2)) i 2 (.int .i16 x2) (x0, x1, x2, (ps[i]).2.2.2) (by simpa using hi) (by omega) (by simp [encC])
  rw [h2, List.set_set]
  have h3 := flatE_set encC_len (ps.set i (x0, x1, x2, (ps[i]).2.2.2)) i 3 (.int .i32 x3) (x0, x1, x2, x3) (by simpa using hi) (by omega) (by simp [encC])
  rw [h3, List.set_set]
theorem flatC_append (ps qs : List (Int × Int × Int × Int)) : flatC (ps ++ qs) = flatC ps ++ flatC qs := by simp [flatC, flatE]
def CellsC (w : World) (b : Nat) (ps : List (Int × Int × Int × Int)) : Prop := ∀ i, i < ps.length → w.cell? ⟨b, i * 4, none⟩ = some (.int .i16 (ps.getD i (0, 0, 0, 0)).1) ∧ w.cell? ⟨b, i * 4 + 1, none⟩ = some (.int .i16 (ps.getD i (0, 0, 0, 0)).2.1) ∧ w.cell? ⟨b, i * 4 + 2, none⟩ = some (.int .i16 (ps.getD i (0, 0, 0, 0)).2.2.1) ∧ w.cell? ⟨b, i * 4 + 3, none⟩ = some (.int .i32 (ps.getD i (0, 0, 0, 0)).2.2.2)
theorem CellsC.below {w w' : World} {b : Nat} {ps : List (Int × Int × Int × Int)} (h : CellsC w b ps) (hb : Below w.heap.size w w') : CellsC w' b ps := fun i hi => by
  obtain ⟨h0, h1, h2, h3⟩ := h i hi
  rw [hb.cell (p := ⟨b, i * 4, none⟩) (World.block_lt_of_cell? w _ h0), hb.cell (p := ⟨b, i * 4 + 1, none⟩) (World.block_lt_of_cell? w _ h1), hb.cell (p := ⟨b, i * 4 + 2, none⟩) (World.block_lt_of_cell? w _ h2), hb.cell (p := ⟨b, i * 4 + 3, none⟩) (World.block_lt_of_cell? w _ h3)]
  exact ⟨h0, h1, h2, h3⟩
def OwnC (T : TypeId) (B : Nat) (w : World) (v : Value) (ps : List (Int × Int × Int × Int)) : Prop := w.ownsRow B T 4 v ps.length (flatC ps)
theorem OwnC.cases {T : TypeId} {B : Nat} {w : World} {v : Value} {ps : List (Int × Int × Int × Int)} (h : OwnC T B w v ps) :
    (v = .slice none 0 0 ∧ ps = []) ∨ ∃ g cap, v = .slice (some ⟨g, 0, none⟩) ps.length cap ∧ B ≤ g ∧ g < w.heap.size ∧ ps.length ≤ cap ∧ cap ≤ maxLen ∧ CellsC w g ps ∧ (∀ j, w.frozen? ⟨g, j, none⟩ = false) := by
  rcases h.2 with ⟨rfl, h0⟩ | ⟨g, cap, cur, rfl, hb, hg, hn, hm, _, _⟩
  · exact .inl ⟨rfl, List.eq_nil_of_length_eq_zero h0⟩
  · refine .inr ⟨g, cap, rfl, hb, (Array.getElem?_eq_some_iff.1 hg).1, hn, hm, fun i hi => ⟨?_, ?_, ?_, ?_⟩, fun j => World.ownsRow.frozenAt h j⟩
    · rw [World.ownsRow.cellAt h (i * 4) (by omega), flatC_0 ps i hi]
    · rw [World.ownsRow.cellAt h (i * 4 + 1) (by omega), flatC_1 ps i hi]
    · rw [World.ownsRow.cellAt h (i * 4 + 2) (by omega), flatC_2 ps i hi]
    · rw [World.ownsRow.cellAt h (i * 4 + 3) (by omega), flatC_3 ps i hi]
theorem OwnC.below {T : TypeId} {B : Nat} {w w' : World} {v : Value} {ps : List (Int × Int × Int × Int)} (h : OwnC T B w v ps) (hb : Below w.heap.size w w') : OwnC T B w' v ps := by
  refine ⟨h.1, ?_⟩
  rcases h.2 with hn | ⟨g, cap, cur, rfl, hB, hg, rest⟩
  · exact .inl hn
  · exact .inr ⟨g, cap, cur, rfl, hB, by rw [hb.block g (Array.getElem?_eq_some_iff.1 hg).1]; exact hg, rest⟩
theorem OwnC.mono {T : TypeId} {B B' : Nat} {w : World} {v : Value} {ps : List (Int × Int × Int × Int)} (h : OwnC T B w v ps) (hB : B' ≤ B) : OwnC T B' w v ps := by
  refine ⟨h.1, ?_⟩
  rcases h.2 with hn | ⟨g, cap, cur, rfl, hb, rest⟩
  · exact .inl hn
  · exact .inr ⟨g, cap, cur, rfl, Nat.le_trans hB hb, rest⟩
theorem OwnC.kept {T : TypeId} {B : Nat} {w w' : World} {v : Value} {ps : List (Int × Int × Int × Int)} {row : Option Nat} (h : OwnC T B w v ps) (hg : w.grownBy w' row) (hne : v.ownBlock = none ∨ v.ownBlock ≠ row) : OwnC T B w' v ps := World.ownsRow.kept h hg hne
theorem OwnC.block {T : TypeId} {B : Nat} {w : World} {v : Value} {ps : List (Int × Int × Int × Int)} (h : OwnC T B w v ps) : ∀ k, v.ownBlock = some k → B ≤ k ∧ k < w.heap.size := World.ownsRow.lt h
def ReadsC (w : World) (v : Value) (ps : List (Int × Int × Int × Int)) : Prop := ∃ (a : Option Addr) (cap : Nat), v = .slice a ps.length cap ∧ (ps ≠ [] → ∃ b, a = some ⟨b, 0, none⟩ ∧ CellsC w b ps)
theorem OwnC.reads {T : TypeId} {B : Nat} {w : World} {v : Value} {ps : List (Int × Int × Int × Int)} (h : OwnC T B w v ps) : ReadsC w v ps := by
  rcases h.cases with ⟨rfl, rfl⟩ | ⟨g, cap, rfl, _, _, _, _, hc, _⟩
  · exact ⟨none, 0, rfl, fun h => absurd rfl h⟩
  · exact ⟨_, cap, rfl, fun _ => ⟨g, rfl, hc⟩⟩
theorem ReadsC.below {w w' : World} {v : Value} {ps : List (Int × Int × Int × Int)} (h : ReadsC w v ps) (hb : Below w.heap.size w w') : ReadsC w' v ps := by
  obtain ⟨a, cap, rfl, h⟩ := h
  exact ⟨a, cap, rfl, fun hx => by obtain ⟨b, rfl, hc⟩ := h hx; exact ⟨b, rfl, hc.below hb⟩⟩
def IsRowC (w : World) (a : Option Addr) (len cap : Nat) (ps : List (Int × Int × Int × Int)) : Prop :=
  (a = none ∧ len = 0 ∧ cap = 0 ∧ ps = []) ∨
  ∃ x, a = some x ∧ len ≤ cap ∧ cap ≤ maxLen ∧ ps.length = len ∧ ∀ i, i < ps.length → w.cell? (x.add (i * 4)) = some (.int .i16 (ps.getD i (0, 0, 0, 0)).1) ∧ w.cell? (x.add (i * 4 + 1)) = some (.int .i16 (ps.getD i (0, 0, 0, 0)).2.1) ∧ w.cell? (x.add (i * 4 + 2)) = some (.int .i16 (ps.getD i (0, 0, 0, 0)).2.2.1) ∧ w.cell? (x.add (i * 4 + 3)) = some (.int .i32 (ps.getD i (0, 0, 0, 0)).2.2.2)
theorem IsRowC.below {w w' : World} {a : Option Addr} {len cap : Nat} {ps : List (Int × Int × Int × Int)} (h : IsRowC w a len cap ps) (hb : Below w.heap.size w w') : IsRowC w' a len cap ps := by
  rcases h with h | ⟨x, rfl, h1, h2, h3, h4⟩
  · exact .inl h
  · refine .inr ⟨x, rfl, h1, h2, h3, fun i hi => ?_⟩
    obtain ⟨g0, g1, g2, g3⟩ := h4 i hi
    rw [hb.cell (World.block_lt_of_cell? w _ g0), hb.cell (World.block_lt_of_cell? w _ g1), hb.cell (World.block_lt_of_cell? w _ g2), hb.cell (World.block_lt_of_cell? w _ g3)]
    exact ⟨g0, g1, g2, g3⟩
theorem IsRowC.len_eq {w : World} {a : Option Addr} {len cap : Nat} {ps : List (Int × Int × Int × Int)} (h : IsRowC w a len cap ps) : ps.length = len := by
  rcases h with ⟨_, rfl, _, rfl⟩ | ⟨x, rfl, h1, h2, h3, h4⟩
  · rfl
  · exact h3
theorem IsRowC.len_ok {w : World} {a : Option Addr} {len cap : Nat} {ps : List (Int × Int × Int × Int)} (h : IsRowC w a len cap ps) : len ≤ 9223372036854775807 := by
  rcases h with ⟨_, rfl, _, _⟩ | ⟨x, _, h1, h2, _⟩
  · omega
  · unfold maxLen at h2; omega
/-- Each number fits its field. -/
def FitC (p : Int × Int × Int × Int) : Prop := (-32768 ≤ p.1 ∧ p.1 ≤ 32767) ∧ (-32768 ≤ p.2.1 ∧ p.2.1 ≤ 32767) ∧ (-32768 ≤ p.2.2.1 ∧ p.2.2.1 ≤ 32767) ∧ (-2147483648 ≤ p.2.2.2 ∧ p.2.2.2 ≤ 2147483647)
def FitsC (ps : List (Int × Int × Int × Int)) : Prop := ∀ p ∈ ps, FitC p
theorem FitsC.get {ps : List (Int × Int × Int × Int)} (h : FitsC ps) (i : Nat) (hi : i < ps.length) : FitC (ps.getD i (0, 0, 0, 0)) := by
  have e : ps.getD i (0, 0, 0, 0) = ps[i] := by simp [List.getD, hi]
  rw [e]; exact h _ (List.getElem_mem hi)
end Go.Proofs.Ytocogipejchneaa
