/-
  What the cards' condition says of the chapter's errors: where each lies.
-/
import Derived.Test.YtnjhkmoinlikiaaDoorRows
import Derived.Test.YtnjhkmoinlikiaaDoorErrs
import Derived.LaidLaws
import Derived.Stop.LaidErr
import Derived.Stop.ErrReads
namespace Go.Proofs.YtnjhkmoinlikiaaDoor
open Go Go.RowKit Go.ChangeShapes Go.WideShapes
set_option linter.unusedVariables false

theorem lg3 : Tryd.prog.globalNamed "loop.example/g01366/impl.errNoStep" = some 0 := by kernel_rfl
theorem lt3 : (Tryd.prog.globals[0]?).map (·.type) = some 44 := by kernel_rfl
theorem lstar : "*" ++ "errors.errorString" = "*errors.errorString" := by decide
theorem lrow (u : TypeId) (h : Tryd.prog.typeName? 3 u = some "*errors.errorString") : u = 61 :=
  typeName_ptr_named (nm := "errors.errorString") (by rw [lstar]; kernel_rfl) (by kernel_rfl) (by decide) u (by rw [lstar]; exact h)
theorem lc1 : Tryd.prog.cellsOf 80 = 1 := by kernel_rfl
theorem lc2 : Tryd.prog.cellsOf 9 = 1 := by kernel_rfl

theorem trodVars_len {H : Type} {enc : TypeId × Value → H} {P : Program} {W : World} {sp : Nat → Bool} : ∀ {ns : List String} {gs : List (DataW H)} {ps : List MemPlace}, DataW.TrodVars enc P W sp ns gs ps → gs.length = ns.length
  | [], [], _, _ => rfl
  | [], _ :: _, _, h => h.elim
  | _ :: _, [], _, h => h.elim
  | n :: ns, d :: ds, ps, h => by
    obtain ⟨g, t, cs, fuel, p, q, h1, h2, h3, h4, hs, e⟩ := h
    simp [trodVars_len hs]
theorem list3 {α : Type} {l : List α} (h : l.length = 3) : ∃ a b c, l = [a, b, c] := by
  match l, h with
  | [a, b, c], _ => exact ⟨a, b, c, rfl⟩
theorem list4 {α : Type} {l : List α} (h : l.length = 4) : ∃ a b c d, l = [a, b, c, d] := by
  match l, h with
  | [a, b, c, d], _ => exact ⟨a, b, c, d, rfl⟩

set_option maxRecDepth 100000 in
set_option maxHeartbeats 1000000 in
theorem errs1_of_laid {W : World} (h : laidMet Tryd.prog [("loop.example/g01366/impl.errNoStep", Rows.laid_loop_example_g01366_impl_errNoStep)] W) : ∃ a0 : Addr, W.cell? ⟨0, 0, none⟩ = some (.iface 61 (.pointer (some a0))) := by
  obtain ⟨ps, ⟨g0, t0, cs0, f0, p0, q0, hg0, ht0, hv0, hd0, hq0, e0⟩, hnd, hrows⟩ := h
  obtain rfl := Option.some.inj (lg3.symm.trans hg0)
  obtain rfl := Option.some.inj (lt3.symm.trans ht0)
  have hqe : q0 = [] := hq0
  subst hqe
  subst e0
  obtain ⟨l0⟩ := cs0
  have ok0 : ∀ u v, l0 = [.iface u v] → Value.okWide Tryd.prog W .any 0 u v := fun u v e => by
    subst e
    exact (hrows 0 0 (by simp [MemPlace.row])).2 u v (by simpa using World.var?_cell hg0 hv0 0)
  obtain ⟨a0, s0, rfl, hc0, hs0, hz0, rfl⟩ := errorString_of_trod Tryd.underlying44 lrow Tryd.underlying61 Tryd.underlying80 rfl rfl Tryd.underlying9 lc1 lc2 hd0 ok0
  exact ⟨a0, by simpa using World.var?_cell hg0 hv0 0⟩
theorem list1 {α : Type} {l : List α} (h : l.length = 1) : ∃ a, l = [a] := by
  match l, h with
  | [a], _ => exact ⟨a, rfl⟩
end Go.Proofs.YtnjhkmoinlikiaaDoor
