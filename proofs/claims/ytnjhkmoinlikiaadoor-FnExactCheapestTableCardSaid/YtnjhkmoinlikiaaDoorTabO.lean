/-
  An argument that is a table, opened.
-/
import Derived.Test.YtnjhkmoinlikiaaDoorTabB
import Derived.Deep.Matrix
import Derived.OpenShut
import Derived.ChangeOld
namespace Go.Proofs.YtnjhkmoinlikiaaDoor
open Go Go.RowKit Go.ChangeShapes Go.WideShapes
set_option linter.unusedVariables false

theorem open_tab {H : Type} {enc : TypeId × Value → H} {w : World} {base n : Nat} {held : Bool} {v0 v1 : Value} {y0 y1 : DataW H × List MemPlace}
    (t0 : DataW.trod enc Tryd.prog w base (fun _ => true) held n 31 [v0] = some y0) (t1 : DataW.trod enc Tryd.prog w base (fun _ => true) held n 32 [v1] = some y1) :
    ∃ S R, IsTab w (.agg #[v0, v1]) S R := by
  obtain ⟨a, len, cap, z, rfl, hz⟩ : ∃ a len cap z, v0 = .slice a len cap ∧ IsRow .i16 w a len cap z := by
    rcases open_ints Tryd.underlying31 Tryd.underlying51 (by kernel_rfl) t0 with ⟨hcs, _⟩ | ⟨x, l, c, zs, hcs, _, hl, hm, hz, _, hcell, hwz⟩
    · simp at hcs
      exact ⟨none, 0, 0, [], hcs, .inl ⟨rfl, rfl, rfl, rfl⟩⟩
    · simp at hcs
      exact ⟨some x, l, c, zs, hcs, .inr ⟨_, rfl, hl, hm, by simpa using hz, hcell, hwz⟩⟩
  rcases Go.Deep.open_int_rows Tryd.underlying32 Tryd.underlying31 Tryd.underlying51 (by kernel_rfl) (by kernel_rfl) t1 with ⟨hcs, _⟩ | ⟨x, m, c2, A, L, C, Z, hcs, _, hl, hm, _, hrow⟩
  · simp at hcs
    subst hcs
    exact ⟨z.take len, [], ⟨⟨a, len, cap, z, none, 0, 0, rfl, hz, rfl, .inl ⟨rfl, rfl, rfl, rfl⟩⟩⟩⟩
  · simp at hcs
    subst hcs
    refine ⟨z.take len, (List.range m).map fun r => (Z r).take (L r), ⟨⟨a, len, cap, z, some x, m, c2, rfl, hz, rfl, .inr ⟨x, rfl, hl, hm, by simp, fun j hj => ⟨A j, L j, C j, Z j, (hrow j (by omega)).1, ?_, by simp [List.getD, hj]⟩⟩⟩⟩⟩
    obtain ⟨_, h1, h2, h3, h4, h5, h6⟩ := hrow j (by omega)
    cases e : A j with
    | none =>
      have h0 := h5 e
      refine .inl ⟨rfl, by omega, h0, List.eq_nil_of_length_eq_zero (by omega)⟩
    | some a' =>
      obtain ⟨_, h7⟩ := h6 a' e
      exact .inr ⟨a', rfl, h1, h2, h3, fun i hi => h7 i (by omega), h4⟩
end Go.Proofs.YtnjhkmoinlikiaaDoor
