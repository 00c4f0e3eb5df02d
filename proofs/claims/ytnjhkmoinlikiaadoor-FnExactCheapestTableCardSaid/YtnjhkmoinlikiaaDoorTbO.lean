/-
  A slice of tables: one that came in, opened; one that is read.
-/
import Derived.Test.YtnjhkmoinlikiaaDoorTabK
import Derived.Deep.Slices
namespace Go.Proofs.YtnjhkmoinlikiaaDoor
open Go Go.RowKit Go.ChangeShapes Go.WideShapes
set_option linter.unusedVariables false

abbrev Tb := List Int × List (List Int)
abbrev tb0 : Tb := ([], [])
/-- A slice of tables that came in. -/
def IsTabs (w : World) (a : Option Addr) (len cap : Nat) (ts : List Tb) : Prop :=
  (a = none ∧ len = 0 ∧ cap = 0 ∧ ts = []) ∨
  ∃ x, a = some x ∧ len ≤ cap ∧ cap ≤ maxLen ∧ ts.length = len ∧ ∀ j, j < len → ∃ u0 u1, w.cell? (x.add (j * 2)) = some u0 ∧ w.cell? (x.add (j * 2 + 1)) = some u1 ∧ IsTab w (.agg #[u0, u1]) (ts.getD j tb0).1 (ts.getD j tb0).2
theorem IsTabs.len_eq {w : World} {a : Option Addr} {len cap : Nat} {ts : List Tb} (h : IsTabs w a len cap ts) : ts.length = len := by
  rcases h with ⟨_, rfl, _, rfl⟩ | ⟨x, _, _, _, h, _⟩
  · rfl
  · exact h
theorem IsTabs.len_ok {w : World} {a : Option Addr} {len cap : Nat} {ts : List Tb} (h : IsTabs w a len cap ts) : len ≤ 9223372036854775807 := by
  rcases h with ⟨_, rfl, _, _⟩ | ⟨x, _, h1, h2, _⟩
  · omega
  · unfold maxLen at h2; omega
theorem IsTabs.below {w w' : World} {a : Option Addr} {len cap : Nat} {ts : List Tb} (h : IsTabs w a len cap ts) (hb : Below w.heap.size w w') : IsTabs w' a len cap ts := by
  rcases h with h | ⟨x, h1, h2, h3, h4, h5⟩
  · exact .inl h
  · refine .inr ⟨x, h1, h2, h3, h4, fun j hj => ?_⟩
    obtain ⟨u0, u1, c0, c1, t⟩ := h5 j hj
    exact ⟨u0, u1, cbelow hb c0, cbelow hb c1, t.below hb⟩
/-- A slice that reads as tables. -/
def ReadsTs (w : World) (v : Value) (ts : List Tb) : Prop := ∃ a cap, v = .slice a ts.length cap ∧ (ts ≠ [] → ∃ g, a = some ⟨g, 0, none⟩ ∧ ∀ j, j < ts.length → ∃ u0 u1, w.cell? ⟨g, j * 2, none⟩ = some u0 ∧ w.cell? ⟨g, j * 2 + 1, none⟩ = some u1 ∧ ReadsT w (.agg #[u0, u1]) (ts.getD j tb0).1 (ts.getD j tb0).2)
theorem ReadsTs.below {w w' : World} {v : Value} {ts : List Tb} (h : ReadsTs w v ts) (hb : Below w.heap.size w w') : ReadsTs w' v ts := by
  obtain ⟨a, cap, rfl, h⟩ := h
  refine ⟨a, cap, rfl, fun hne => ?_⟩
  obtain ⟨g, rfl, hc⟩ := h hne
  refine ⟨g, rfl, fun j hj => ?_⟩
  obtain ⟨u0, u1, c0, c1, t⟩ := hc j hj
  exact ⟨u0, u1, cbelow hb c0, cbelow hb c1, t.below hb⟩
/-- Every table of the list is not too long. -/
def TabsOk (ts : List Tb) : Prop := ∀ j, j < ts.length → TabOk (ts.getD j tb0).1 (ts.getD j tb0).2

set_option maxRecDepth 100000 in
theorem openTables {H : Type} {enc : TypeId × Value → H} {w : World} {base n : Nat} {held : Bool} {a : Option Addr} {len cap : Nat} {y : DataW H × List MemPlace}
    (h : DataW.trod enc Tryd.prog w base (fun _ => true) held n 22 [.slice a len cap] = some y) : ∃ ts, IsTabs w a len cap ts := by
  rcases Go.Deep.open_slice Tryd.underlying22 h with ⟨hcs, _⟩ | ⟨x, l, c, m, n, D, Pl, hcs, _, hl, hm, hmm, _, hx⟩
  · simp only [List.cons.injEq, Value.slice.injEq, and_true] at hcs
    obtain ⟨rfl, rfl, rfl⟩ := hcs
    exact ⟨[], .inl ⟨rfl, rfl, rfl, rfl⟩⟩
  · simp only [List.cons.injEq, Value.slice.injEq, and_true] at hcs
    obtain ⟨rfl, rfl, rfl⟩ := hcs
    simp only [if_true] at hmm
    have ce : Tryd.prog.cellsOf 34 = 2 := by kernel_rfl
    have z0 : Tryd.prog.cellsOf 31 = 1 := by kernel_rfl
    have z1 : Tryd.prog.cellsOf 32 = 1 := by kernel_rfl
    have each : ∀ j, j < len → ∃ q : Tb, ∃ u0 u1, w.cell? (x.add (j * 2)) = some u0 ∧ w.cell? (x.add (j * 2 + 1)) = some u1 ∧ IsTab w (.agg #[u0, u1]) q.1 q.2 := by
      intro j hj
      obtain ⟨cs', h1, h2⟩ := hx j (by omega)
      rw [ce] at h1
      obtain ⟨_, hlen, hcell⟩ := World.cells?_some h1
      obtain ⟨ys, k, hk, hxy, _, hyl, hf⟩ := DataW.trod_struct Tryd.underlying34 h2
      have hyl' : ys.length = 2 := hyl
      clear hyl
      match ys, hyl', cs', hlen with
      | [y0, y1], _, [v0, v1], _ =>
        have g0 := hf 0 _ rfl
        have g1 := hf 1 _ rfl
        simp [z0, z1] at g0 g1
        obtain ⟨S, R, ht⟩ := open_tab g0 g1
        have c0 := hcell 0 (by omega)
        have c1 := hcell 1 (by omega)
        rw [Go.Deep.add_add] at c0 c1
        exact ⟨(S, R), v0, v1, by simpa using c0, by simpa using c1, ht⟩
    obtain ⟨q, hq⟩ := Classical.axiomOfChoice (fun j : {j // j < len} => each j.1 j.2)
    refine ⟨(List.range len).attach.map (fun j => q ⟨j.1, List.mem_range.1 j.2⟩), .inr ⟨x, rfl, hl, hm, by simp, fun j hj => ?_⟩⟩
    have h := hq ⟨j, hj⟩
    simpa [List.getD, hj] using h
end Go.Proofs.YtnjhkmoinlikiaaDoor
