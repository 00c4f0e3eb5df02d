/-
  A slice of Class that came in, opened.
-/
import Derived.Test.YtocogipejchneaaRClass
import Derived.Deep.Slices
import Derived.OpenShut
import Derived.ChangeOld
namespace Go.Proofs.Ytocogipejchneaa
open Go Go.RowKit Go.ChangeShapes Go.WideShapes
set_option linter.unusedVariables false

set_option maxRecDepth 100000 in
theorem openClass {H : Type} {enc : TypeId × Value → H} {w : World} {base n : Nat} {held : Bool} {a : Option Addr} {len cap : Nat} {y : DataW H × List MemPlace}
    (h : DataW.trod enc Try.prog w base (fun _ => true) held n 22 [.slice a len cap] = some y) : ∃ ps, IsRowC w a len cap ps ∧ FitsC ps := by
  rcases Go.Deep.open_slice Try.underlying22 h with ⟨hcs, _⟩ | ⟨x, l, c, m, n, D, Pl, hcs, _, hl, hm, hmm, _, hx⟩
  · simp only [List.cons.injEq, Value.slice.injEq, and_true] at hcs
    obtain ⟨rfl, rfl, rfl⟩ := hcs
    exact ⟨[], .inl ⟨rfl, rfl, rfl, rfl⟩, fun p hp => by cases hp⟩
  · simp only [List.cons.injEq, Value.slice.injEq, and_true] at hcs
    obtain ⟨rfl, rfl, rfl⟩ := hcs
    simp only [if_true] at hmm
    have ce : Try.prog.cellsOf 48 = 4 := by kernel_rfl
    have zi16 : Try.prog.cellsOf 42 = 1 := by kernel_rfl
    have zi32 : Try.prog.cellsOf 21 = 1 := by kernel_rfl
    have each : ∀ j, j < len → ∃ q : Int × Int × Int × Int, (w.cell? (x.add (j * 4)) = some (.int .i16 q.1) ∧ w.cell? (x.add (j * 4 + 1)) = some (.int .i16 q.2.1) ∧ w.cell? (x.add (j * 4 + 2)) = some (.int .i16 q.2.2.1) ∧ w.cell? (x.add (j * 4 + 3)) = some (.int .i32 q.2.2.2)) ∧ FitC q := by
      intro j hj
      obtain ⟨cs', h1, h2⟩ := hx j (by omega)
      rw [ce] at h1
      obtain ⟨_, hlen, hcell⟩ := World.cells?_some h1
      obtain ⟨ys, k, hk, hxy, _, hyl, hf⟩ := DataW.trod_struct Try.underlying48 h2
      have hyl' : ys.length = 4 := hyl
      clear hyl
      match ys, hyl', cs', hlen with
      | [y0, y1, y2, y3], _, [v0, v1, v2, v3], _ =>
        have g0 := hf 0 _ rfl
        have g1 := hf 1 _ rfl
        have g2 := hf 2 _ rfl
        have g3 := hf 3 _ rfl
        simp [zi16, zi32] at g0 g1 g2 g3
        obtain ⟨n0, e0, _, wf0⟩ := DataW.trod_int Try.underlying42 g0
        simp only [List.cons.injEq, and_true] at e0
        subst e0
        have c0 := hcell 0 (by omega)
        rw [Go.Deep.add_add] at c0
        obtain ⟨n1, e1, _, wf1⟩ := DataW.trod_int Try.underlying42 g1
        simp only [List.cons.injEq, and_true] at e1
        subst e1
        have c1 := hcell 1 (by omega)
        rw [Go.Deep.add_add] at c1
        obtain ⟨n2, e2, _, wf2⟩ := DataW.trod_int Try.underlying42 g2
        simp only [List.cons.injEq, and_true] at e2
        subst e2
        have c2 := hcell 2 (by omega)
        rw [Go.Deep.add_add] at c2
        obtain ⟨n3, e3, _, wf3⟩ := DataW.trod_int Try.underlying21 g3
        simp only [List.cons.injEq, and_true] at e3
        subst e3
        have c3 := hcell 3 (by omega)
        rw [Go.Deep.add_add] at c3
        refine ⟨(n0, n1, n2, n3), ⟨by simpa using c0, by simpa using c1, by simpa using c2, by simpa using c3⟩, ?_⟩
        simp [Lit.wf, IntKind.min, IntKind.max, IntKind.signed, IntKind.bits] at wf0 wf1 wf2 wf3
        unfold FitC; simp only; omega
    obtain ⟨q, hq⟩ := Classical.axiomOfChoice (fun j : {j // j < len} => each j.1 j.2)
    refine ⟨(List.range len).attach.map (fun j => q ⟨j.1, List.mem_range.1 j.2⟩), .inr ⟨x, rfl, hl, hm, by simp, fun j hj => ?_⟩, fun p hp => ?_⟩
    · have hj' : j < len := by simpa using hj
      have h := (hq ⟨j, hj'⟩).1
      simpa [List.getD, hj'] using h
    · simp only [List.mem_map] at hp
      obtain ⟨j, _, rfl⟩ := hp
      exact (hq _).2
end Go.Proofs.Ytocogipejchneaa
