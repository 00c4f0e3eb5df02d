/-
  Rows of Scan in memory.
-/
import Derived.Test.YtamnojhkfknnoaaFlat
import Derived.Test.YtamnojhkfknnoaaIn
import Derived.StillTailTactics
import Derived.Laws.ResultCell
namespace Go.Proofs.Ytamnojhkfknnoaa
open Go Go.RowKit
set_option linter.unusedVariables false

def encSc (p : Int × Int) : List Value := [.int .i8 p.1, .int .i16 p.2]
theorem encSc_len (p : Int × Int) : (encSc p).length = 2 := rfl
def flatSc (ps : List (Int × Int)) : List Value := flatE encSc ps
theorem flatSc_length (ps : List (Int × Int)) : (flatSc ps).length = ps.length * 2 := flatE_length encSc_len ps
theorem flatSc_0 (ps : List (Int × Int)) (i : Nat) (hi : i < ps.length) : (flatSc ps)[i * 2]? = some (.int .i8 (ps.getD i (0, 0)).1) := by
  have h := flatE_get encSc_len ps i 0 hi (by omega)
  rw [Nat.add_zero] at h
  unfold flatSc
  rw [h]; simp [encSc, List.getD, hi]
theorem flatSc_1 (ps : List (Int × Int)) (i : Nat) (hi : i < ps.length) : (flatSc ps)[i * 2 + 1]? = some (.int .i16 (ps.getD i (0, 0)).2) := by
  have h := flatE_get encSc_len ps i 1 hi (by omega)
  unfold flatSc
  rw [h]; simp [encSc, List.getD, hi]
theorem flatSc_set (ps : List (Int × Int)) (i : Nat) (x0 x1 : Int) (hi : i < ps.length) : ((flatSc ps).set (i * 2) (.int .i8 x0)).set (i * 2 + 1) (.int .i16 x1) = flatSc (ps.set i (x0, x1)) := by
  unfold flatSc
  have h0 := flatE_set encSc_len ps i 0 (.int .i8 x0) (x0, (ps[i]).2) hi (by omega) rfl
  rw [Nat.add_zero] at h0
  rw [h0]
  have h1 := flatE_set encSc_len (ps.set i (x0, (ps[i]).2)) i 1 (.int .i16 x1) (x0, x1) (by simpa using hi) (by omega) (by simp [encSc])
  rw [h1, List.set_set]
theorem flatSc_append (ps qs : List (Int × Int)) : flatSc (ps ++ qs) = flatSc ps ++ flatSc qs := by simp [flatSc, flatE]
def CellsSc (w : World) (b : Nat) (ps : List (Int × Int)) : Prop := ∀ i, i < ps.length → w.cell? ⟨b, i * 2, none⟩ = some (.int .i8 (ps.getD i (0, 0)).1) ∧ w.cell? ⟨b, i * 2 + 1, none⟩ = some (.int .i16 (ps.getD i (0, 0)).2)
theorem CellsSc.below {w w' : World} {b : Nat} {ps : List (Int × Int)} (h : CellsSc w b ps) (hb : Below w.heap.size w w') : CellsSc w' b ps := fun i hi => by
  obtain ⟨h0, h1⟩ := h i hi
  rw [hb.cell (p := ⟨b, i * 2, none⟩) (World.block_lt_of_cell? w _ h0), hb.cell (p := ⟨b, i * 2 + 1, none⟩) (World.block_lt_of_cell? w _ h1)]
  exact ⟨h0, h1⟩
def OwnSc (T : TypeId) (B : Nat) (w : World) (v : Value) (ps : List (Int × Int)) : Prop := w.ownsRow B T 2 v ps.length (flatSc ps)
theorem OwnSc.cases {T : TypeId} {B : Nat} {w : World} {v : Value} {ps : List (Int × Int)} (h : OwnSc T B w v ps) :
    (v = .slice none 0 0 ∧ ps = []) ∨ ∃ g cap, v = .slice (some ⟨g, 0, none⟩) ps.length cap ∧ B ≤ g ∧ g < w.heap.size ∧ ps.length ≤ cap ∧ cap ≤ maxLen ∧ CellsSc w g ps ∧ (∀ j, w.frozen? ⟨g, j, none⟩ = false) := by
  rcases h.2 with ⟨rfl, h0⟩ | ⟨g, cap, cur, rfl, hb, hg, hn, hm, _, _⟩
  · exact .inl ⟨rfl, List.eq_nil_of_length_eq_zero h0⟩
  · refine .inr ⟨g, cap, rfl, hb, (Array.getElem?_eq_some_iff.1 hg).1, hn, hm, fun i hi => ⟨?_, ?_⟩, fun j => World.ownsRow.frozenAt h j⟩
    · rw [World.ownsRow.cellAt h (i * 2) (by omega), flatSc_0 ps i hi]
    · rw [World.ownsRow.cellAt h (i * 2 + 1) (by omega), flatSc_1 ps i hi]
theorem OwnSc.below {T : TypeId} {B : Nat} {w w' : World} {v : Value} {ps : List (Int × Int)} (h : OwnSc T B w v ps) (hb : Below w.heap.size w w') : OwnSc T B w' v ps := by
  refine ⟨h.1, ?_⟩
  rcases h.2 with hn | ⟨g, cap, cur, rfl, hB, hg, rest⟩
  · exact .inl hn
  · exact .inr ⟨g, cap, cur, rfl, hB, by rw [hb.block g (Array.getElem?_eq_some_iff.1 hg).1]; exact hg, rest⟩
theorem OwnSc.mono {T : TypeId} {B B' : Nat} {w : World} {v : Value} {ps : List (Int × Int)} (h : OwnSc T B w v ps) (hB : B' ≤ B) : OwnSc T B' w v ps := by
  refine ⟨h.1, ?_⟩
  rcases h.2 with hn | ⟨g, cap, cur, rfl, hb, rest⟩
  · exact .inl hn
  · exact .inr ⟨g, cap, cur, rfl, Nat.le_trans hB hb, rest⟩
theorem OwnSc.kept {T : TypeId} {B : Nat} {w w' : World} {v : Value} {ps : List (Int × Int)} {row : Option Nat} (h : OwnSc T B w v ps) (hg : w.grownBy w' row) (hne : v.ownBlock = none ∨ v.ownBlock ≠ row) : OwnSc T B w' v ps := World.ownsRow.kept h hg hne
theorem OwnSc.block {T : TypeId} {B : Nat} {w : World} {v : Value} {ps : List (Int × Int)} (h : OwnSc T B w v ps) : ∀ k, v.ownBlock = some k → B ≤ k ∧ k < w.heap.size := World.ownsRow.lt h
def ReadsSc (w : World) (v : Value) (ps : List (Int × Int)) : Prop := ∃ (a : Option Addr) (cap : Nat), v = .slice a ps.length cap ∧ (ps ≠ [] → ∃ b, a = some ⟨b, 0, none⟩ ∧ CellsSc w b ps)
theorem OwnSc.reads {T : TypeId} {B : Nat} {w : World} {v : Value} {ps : List (Int × Int)} (h : OwnSc T B w v ps) : ReadsSc w v ps := by
  rcases h.cases with ⟨rfl, rfl⟩ | ⟨g, cap, rfl, _, _, _, _, hc, _⟩
  · exact ⟨none, 0, rfl, fun h => absurd rfl h⟩
  · exact ⟨_, cap, rfl, fun _ => ⟨g, rfl, hc⟩⟩
theorem ReadsSc.below {w w' : World} {v : Value} {ps : List (Int × Int)} (h : ReadsSc w v ps) (hb : Below w.heap.size w w') : ReadsSc w' v ps := by
  obtain ⟨a, cap, rfl, h⟩ := h
  exact ⟨a, cap, rfl, fun hx => by obtain ⟨b, rfl, hc⟩ := h hx; exact ⟨b, rfl, hc.below hb⟩⟩
def IsRowSc (w : World) (a : Option Addr) (len cap : Nat) (ps : List (Int × Int)) : Prop :=
  (a = none ∧ len = 0 ∧ cap = 0 ∧ ps = []) ∨
  ∃ x, a = some x ∧ len ≤ cap ∧ cap ≤ maxLen ∧ ps.length = len ∧ ∀ i, i < ps.length → w.cell? (x.add (i * 2)) = some (.int .i8 (ps.getD i (0, 0)).1) ∧ w.cell? (x.add (i * 2 + 1)) = some (.int .i16 (ps.getD i (0, 0)).2)
theorem IsRowSc.below {w w' : World} {a : Option Addr} {len cap : Nat} {ps : List (Int × Int)} (h : IsRowSc w a len cap ps) (hb : Below w.heap.size w w') : IsRowSc w' a len cap ps := by
  rcases h with h | ⟨x, rfl, h1, h2, h3, h4⟩
  · exact .inl h
  · refine .inr ⟨x, rfl, h1, h2, h3, fun i hi => ?_⟩
    obtain ⟨g0, g1⟩ := h4 i hi
    rw [hb.cell (World.block_lt_of_cell? w _ g0), hb.cell (World.block_lt_of_cell? w _ g1)]
    exact ⟨g0, g1⟩
theorem IsRowSc.len_eq {w : World} {a : Option Addr} {len cap : Nat} {ps : List (Int × Int)} (h : IsRowSc w a len cap ps) : ps.length = len := by
  rcases h with ⟨_, rfl, _, rfl⟩ | ⟨x, rfl, h1, h2, h3, h4⟩
  · rfl
  · exact h3
theorem IsRowSc.len_ok {w : World} {a : Option Addr} {len cap : Nat} {ps : List (Int × Int)} (h : IsRowSc w a len cap ps) : len ≤ 9223372036854775807 := by
  rcases h with ⟨_, rfl, _, _⟩ | ⟨x, _, h1, h2, _⟩
  · omega
  · unfold maxLen at h2; omega
/-- Each number fits its field. -/
def FitSc (p : Int × Int) : Prop := (-128 ≤ p.1 ∧ p.1 ≤ 127) ∧ (-32768 ≤ p.2 ∧ p.2 ≤ 32767)
def FitsSc (ps : List (Int × Int)) : Prop := ∀ p ∈ ps, FitSc p
theorem FitsSc.get {ps : List (Int × Int)} (h : FitsSc ps) (i : Nat) (hi : i < ps.length) : FitSc (ps.getD i (0, 0)) := by
  have e : ps.getD i (0, 0) = ps[i] := by simp [List.getD, hi]
  rw [e]; exact h _ (List.getElem_mem hi)
end Go.Proofs.Ytamnojhkfknnoaa
