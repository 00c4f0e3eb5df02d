/-
  What the cards' condition says of the chapter's errors: where each lies.
-/
import Derived.Test.YtkhemijanhcibaaDoorRows
import Derived.Test.YtkhemijanhcibaaDoorErrs
import Derived.LaidLaws
import Derived.Stop.LaidErr
import Derived.Stop.ErrReads
namespace Go.Proofs.YtkhemijanhcibaaDoor
open Go Go.RowKit Go.ChangeShapes Go.WideShapes
set_option linter.unusedVariables false

theorem lg0 : Tryd.prog.globalNamed "loop.example/g01366/impl.errBadTable" = some 0 := by kernel_rfl
theorem lt0 : (Tryd.prog.globals[0]?).map (·.type) = some 54 := by kernel_rfl
theorem lg1 : Tryd.prog.globalNamed "loop.example/g01366/impl.errOutside" = some 1 := by kernel_rfl
theorem lt1 : (Tryd.prog.globals[1]?).map (·.type) = some 54 := by kernel_rfl
theorem lg2 : Tryd.prog.globalNamed "loop.example/g01366/impl.errTooMany" = some 2 := by kernel_rfl
theorem lt2 : (Tryd.prog.globals[2]?).map (·.type) = some 54 := by kernel_rfl
theorem lg3 : Tryd.prog.globalNamed "loop.example/g01366/impl.errNoStep" = some 3 := by kernel_rfl
theorem lt3 : (Tryd.prog.globals[3]?).map (·.type) = some 54 := by kernel_rfl
theorem lstar : "*" ++ "errors.errorString" = "*errors.errorString" := by decide
theorem lrow (u : TypeId) (h : Tryd.prog.typeName? 3 u = some "*errors.errorString") : u = 104 :=
  typeName_ptr_named (nm := "errors.errorString") (by rw [lstar]; kernel_rfl) (by kernel_rfl) (by decide) u (by rw [lstar]; exact h)
theorem lc1 : Tryd.prog.cellsOf 130 = 1 := by kernel_rfl
theorem lc2 : Tryd.prog.cellsOf 9 = 1 := by kernel_rfl

set_option maxRecDepth 100000 in
set_option maxHeartbeats 1000000 in
theorem errs3_of_laid {W : World} (h : laidMet Tryd.prog [("loop.example/g01366/impl.errBadTable", Rows.laid_loop_example_g01366_impl_errBadTable), ("loop.example/g01366/impl.errOutside", Rows.laid_loop_example_g01366_impl_errOutside), ("loop.example/g01366/impl.errTooMany", Rows.laid_loop_example_g01366_impl_errTooMany)] W) : ∃ a0 a1 a2 : Addr, Errs3 W a0 a1 a2 := by
  obtain ⟨ps, ⟨g0, t0, cs0, f0, p0, q0, hg0, ht0, hv0, hd0, ⟨g1, t1, cs1, f1, p1, q1, hg1, ht1, hv1, hd1, ⟨g2, t2, cs2, f2, p2, q2, hg2, ht2, hv2, hd2, hq2, e2⟩, e1⟩, e0⟩, hnd, hrows⟩ := h
  obtain rfl := Option.some.inj (lg0.symm.trans hg0)
  obtain rfl := Option.some.inj (lt0.symm.trans ht0)
  obtain rfl := Option.some.inj (lg1.symm.trans hg1)
  obtain rfl := Option.some.inj (lt1.symm.trans ht1)
  obtain rfl := Option.some.inj (lg2.symm.trans hg2)
  obtain rfl := Option.some.inj (lt2.symm.trans ht2)
  have hqe : q2 = [] := hq2
  subst hqe
  subst e2
  subst e1
  subst e0
  obtain ⟨l0⟩ := cs0
  obtain ⟨l1⟩ := cs1
  obtain ⟨l2⟩ := cs2
  have ok0 : ∀ u v, l0 = [.iface u v] → Value.okWide Tryd.prog W .any 0 u v := fun u v e => by
    subst e
    exact (hrows 0 0 (by simp [MemPlace.row])).2 u v (by simpa using World.var?_cell hg0 hv0 0)
  have ok1 : ∀ u v, l1 = [.iface u v] → Value.okWide Tryd.prog W .any 0 u v := fun u v e => by
    subst e
    exact (hrows 1 0 (by simp [MemPlace.row])).2 u v (by simpa using World.var?_cell hg1 hv1 0)
  have ok2 : ∀ u v, l2 = [.iface u v] → Value.okWide Tryd.prog W .any 0 u v := fun u v e => by
    subst e
    exact (hrows 2 0 (by simp [MemPlace.row])).2 u v (by simpa using World.var?_cell hg2 hv2 0)
  obtain ⟨a0, s0, rfl, hc0, hs0, hz0, rfl⟩ := errorString_of_trod Tryd.underlying54 lrow Tryd.underlying104 Tryd.underlying130 rfl rfl Tryd.underlying9 lc1 lc2 hd0 ok0
  obtain ⟨a1, s1, rfl, hc1, hs1, hz1, rfl⟩ := errorString_of_trod Tryd.underlying54 lrow Tryd.underlying104 Tryd.underlying130 rfl rfl Tryd.underlying9 lc1 lc2 hd1 ok1
  obtain ⟨a2, s2, rfl, hc2, hs2, hz2, rfl⟩ := errorString_of_trod Tryd.underlying54 lrow Tryd.underlying104 Tryd.underlying130 rfl rfl Tryd.underlying9 lc1 lc2 hd2 ok2
  have hb0 := (hrows a0.block a0.off (by simp [MemPlace.row])).1
  have hb1 := (hrows a1.block a1.off (by simp [MemPlace.row])).1
  have hb2 := (hrows a2.block a2.off (by simp [MemPlace.row])).1
  have hc0' : W.cell? ⟨0, 0, none⟩ = some (.iface 104 (.pointer (some a0))) := by simpa using World.var?_cell hg0 hv0 0
  have hc1' : W.cell? ⟨1, 0, none⟩ = some (.iface 104 (.pointer (some a1))) := by simpa using World.var?_cell hg1 hv1 0
  have hc2' : W.cell? ⟨2, 0, none⟩ = some (.iface 104 (.pointer (some a2))) := by simpa using World.var?_cell hg2 hv2 0
  exact ⟨a0, a1, a2, ⟨hc0', hc1', hc2', hb0, hb1, hb2, (by rintro rfl; simp [MemPlace.row] at hnd), (by rintro rfl; simp [MemPlace.row] at hnd), (by rintro rfl; simp [MemPlace.row] at hnd)⟩⟩

set_option maxRecDepth 100000 in
set_option maxHeartbeats 1000000 in
theorem errs4_of_laid {W : World} (h : laidMet Tryd.prog [("loop.example/g01366/impl.errBadTable", Rows.laid_loop_example_g01366_impl_errBadTable), ("loop.example/g01366/impl.errOutside", Rows.laid_loop_example_g01366_impl_errOutside), ("loop.example/g01366/impl.errTooMany", Rows.laid_loop_example_g01366_impl_errTooMany), ("loop.example/g01366/impl.errNoStep", Rows.laid_loop_example_g01366_impl_errNoStep)] W) : ∃ a0 a1 a2 a3 : Addr, Errs4 W a0 a1 a2 a3 := by
  obtain ⟨ps, ⟨g0, t0, cs0, f0, p0, q0, hg0, ht0, hv0, hd0, ⟨g1, t1, cs1, f1, p1, q1, hg1, ht1, hv1, hd1, ⟨g2, t2, cs2, f2, p2, q2, hg2, ht2, hv2, hd2, ⟨g3, t3, cs3, f3, p3, q3, hg3, ht3, hv3, hd3, hq3, e3⟩, e2⟩, e1⟩, e0⟩, hnd, hrows⟩ := h
  obtain rfl := Option.some.inj (lg0.symm.trans hg0)
  obtain rfl := Option.some.inj (lt0.symm.trans ht0)
  obtain rfl := Option.some.inj (lg1.symm.trans hg1)
  obtain rfl := Option.some.inj (lt1.symm.trans ht1)
  obtain rfl := Option.some.inj (lg2.symm.trans hg2)
  obtain rfl := Option.some.inj (lt2.symm.trans ht2)
  obtain rfl := Option.some.inj (lg3.symm.trans hg3)
  obtain rfl := Option.some.inj (lt3.symm.trans ht3)
  have hqe : q3 = [] := hq3
  subst hqe
  subst e3
  subst e2
  subst e1
  subst e0
  obtain ⟨l0⟩ := cs0
  obtain ⟨l1⟩ := cs1
  obtain ⟨l2⟩ := cs2
  obtain ⟨l3⟩ := cs3
  have ok0 : ∀ u v, l0 = [.iface u v] → Value.okWide Tryd.prog W .any 0 u v := fun u v e => by
    subst e
    exact (hrows 0 0 (by simp [MemPlace.row])).2 u v (by simpa using World.var?_cell hg0 hv0 0)
  have ok1 : ∀ u v, l1 = [.iface u v] → Value.okWide Tryd.prog W .any 0 u v := fun u v e => by
    subst e
    exact (hrows 1 0 (by simp [MemPlace.row])).2 u v (by simpa using World.var?_cell hg1 hv1 0)
  have ok2 : ∀ u v, l2 = [.iface u v] → Value.okWide Tryd.prog W .any 0 u v := fun u v e => by
    subst e
    exact (hrows 2 0 (by simp [MemPlace.row])).2 u v (by simpa using World.var?_cell hg2 hv2 0)
  have ok3 : ∀ u v, l3 = [.iface u v] → Value.okWide Tryd.prog W .any 0 u v := fun u v e => by
    subst e
    exact (hrows 3 0 (by simp [MemPlace.row])).2 u v (by simpa using World.var?_cell hg3 hv3 0)
  obtain ⟨a0, s0, rfl, hc0, hs0, hz0, rfl⟩ := errorString_of_trod Tryd.underlying54 lrow Tryd.underlying104 Tryd.underlying130 rfl rfl Tryd.underlying9 lc1 lc2 hd0 ok0
  obtain ⟨a1, s1, rfl, hc1, hs1, hz1, rfl⟩ := errorString_of_trod Tryd.underlying54 lrow Tryd.underlying104 Tryd.underlying130 rfl rfl Tryd.underlying9 lc1 lc2 hd1 ok1
  obtain ⟨a2, s2, rfl, hc2, hs2, hz2, rfl⟩ := errorString_of_trod Tryd.underlying54 lrow Tryd.underlying104 Tryd.underlying130 rfl rfl Tryd.underlying9 lc1 lc2 hd2 ok2
  obtain ⟨a3, s3, rfl, hc3, hs3, hz3, rfl⟩ := errorString_of_trod Tryd.underlying54 lrow Tryd.underlying104 Tryd.underlying130 rfl rfl Tryd.underlying9 lc1 lc2 hd3 ok3
  have hb0 := (hrows a0.block a0.off (by simp [MemPlace.row])).1
  have hb1 := (hrows a1.block a1.off (by simp [MemPlace.row])).1
  have hb2 := (hrows a2.block a2.off (by simp [MemPlace.row])).1
  have hb3 := (hrows a3.block a3.off (by simp [MemPlace.row])).1
  have hc0' : W.cell? ⟨0, 0, none⟩ = some (.iface 104 (.pointer (some a0))) := by simpa using World.var?_cell hg0 hv0 0
  have hc1' : W.cell? ⟨1, 0, none⟩ = some (.iface 104 (.pointer (some a1))) := by simpa using World.var?_cell hg1 hv1 0
  have hc2' : W.cell? ⟨2, 0, none⟩ = some (.iface 104 (.pointer (some a2))) := by simpa using World.var?_cell hg2 hv2 0
  have hc3' : W.cell? ⟨3, 0, none⟩ = some (.iface 104 (.pointer (some a3))) := by simpa using World.var?_cell hg3 hv3 0
  exact ⟨a0, a1, a2, a3, ⟨⟨hc0', hc1', hc2', hb0, hb1, hb2, (by rintro rfl; simp [MemPlace.row] at hnd), (by rintro rfl; simp [MemPlace.row] at hnd), (by rintro rfl; simp [MemPlace.row] at hnd)⟩, hc3', hb3, (by rintro rfl; simp [MemPlace.row] at hnd), (by rintro rfl; simp [MemPlace.row] at hnd), (by rintro rfl; simp [MemPlace.row] at hnd)⟩⟩

theorem trodVars_len {H : Type} {enc : TypeId × Value → H} {P : Program} {W : World} {sp : Nat → Bool} : ∀ {ns : List String} {gs : List (DataW H)} {ps : List MemPlace}, DataW.TrodVars enc P W sp ns gs ps → gs.length = ns.length
  | [], [], _, _ => rfl
  | [], _ :: _, _, h => h.elim
  | _ :: _, [], _, h => h.elim
  | n :: ns, d :: ds, ps, h => by
    obtain ⟨g, t, cs, fuel, p, q, h1, h2, h3, h4, hs, e⟩ := h
    simp [trodVars_len hs]
theorem list3 {α : Type} {l : List α} (h : l.length = 3) : ∃ a b c, l = [a, b, c] := by
  match l, h with
  | [a, b, c], _ => exact ⟨a, b, c, rfl⟩
theorem list4 {α : Type} {l : List α} (h : l.length = 4) : ∃ a b c d, l = [a, b, c, d] := by
  match l, h with
  | [a, b, c, d], _ => exact ⟨a, b, c, d, rfl⟩

end Go.Proofs.YtkhemijanhcibaaDoor
