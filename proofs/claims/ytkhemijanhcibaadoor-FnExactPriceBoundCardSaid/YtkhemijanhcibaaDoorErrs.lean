/-
  This chapter's errors in memory, and the code of each.
-/
import Derived.Test.YtkhemijanhcibaaDoorErr
namespace Go.Proofs.YtkhemijanhcibaaDoor
open Go Go.RowKit
set_option linter.unusedVariables false

/-- The first three errors of the chapter lie where the program's text lays them, each a pointer of its own. -/
structure Errs3 (w : World) (a0 a1 a2 : Addr) : Prop where
  g0 : w.cell? ⟨0, 0, none⟩ = some (.iface 104 (.pointer (some a0)))
  g1 : w.cell? ⟨1, 0, none⟩ = some (.iface 104 (.pointer (some a1)))
  g2 : w.cell? ⟨2, 0, none⟩ = some (.iface 104 (.pointer (some a2)))
  r0 : ∃ c t, w.heap[a0.block]? = some (.cells c t (0, 0))
  r1 : ∃ c t, w.heap[a1.block]? = some (.cells c t (0, 0))
  r2 : ∃ c t, w.heap[a2.block]? = some (.cells c t (0, 0))
  n01 : a0 ≠ a1
  n02 : a0 ≠ a2
  n12 : a1 ≠ a2
theorem row_below {w w' : World} {a : Addr} (h : ∃ c t, w.heap[a.block]? = some (.cells c t (0, 0))) (hb : Below w.heap.size w w') : ∃ c t, w'.heap[a.block]? = some (.cells c t (0, 0)) := by
  obtain ⟨c, t, h⟩ := h
  exact ⟨c, t, by rw [hb.block a.block (Array.getElem?_eq_some_iff.1 h).1]; exact h⟩
theorem Errs3.below {w w' : World} {a0 a1 a2 : Addr} (h : Errs3 w a0 a1 a2) (hb : Below w.heap.size w w') : Errs3 w' a0 a1 a2 where
  g0 := by rw [hb.cell (World.block_lt_of_cell? w _ h.g0)]; exact h.g0
  g1 := by rw [hb.cell (World.block_lt_of_cell? w _ h.g1)]; exact h.g1
  g2 := by rw [hb.cell (World.block_lt_of_cell? w _ h.g2)]; exact h.g2
  r0 := row_below h.r0 hb
  r1 := row_below h.r1 hb
  r2 := row_below h.r2 hb
  n01 := h.n01
  n02 := h.n02
  n12 := h.n12

set_option maxHeartbeats 1000000 in
theorem code_nil (w : World) : Calls Tryd.prog 40 #[.nilIface] w fun e w' => e = .returned (.int .i64 0) ∧ w = w' := by
  go_enter Tryd.func40, Tryd.ntmps40
  go_wp2
  go_ret
  exact ⟨rfl, rfl⟩
set_option maxHeartbeats 2000000 in
set_option maxRecDepth 100000 in
theorem code_0 (a0 a1 a2 : Addr) (w : World) (E : Errs3 w a0 a1 a2) : Calls Tryd.prog 40 #[.iface 104 (.pointer (some a0))] w fun e w' => e = .returned (.int .i64 1) ∧ w = w' := by
  have g0 := E.g0
  go_enter Tryd.func40, Tryd.ntmps40
  go_wp2_with fail
  refine (is_same a0 _).mono ?_
  rintro e w1 ⟨rfl, hw⟩
  subst hw
  go_wp2_with fail
  go_ret
  exact ⟨rfl, rfl⟩
set_option maxHeartbeats 2000000 in
set_option maxRecDepth 100000 in
theorem code_1 (a0 a1 a2 : Addr) (w : World) (E : Errs3 w a0 a1 a2) : Calls Tryd.prog 40 #[.iface 104 (.pointer (some a1))] w fun e w' => e = .returned (.int .i64 2) ∧ w = w' := by
  have g0 := E.g0
  have g1 := E.g1
  obtain ⟨c0, t0, r0⟩ := E.r0
  obtain ⟨c1, t1, r1⟩ := E.r1
  have n := E.n01.symm
  have R0 := Lib.hid r0
  have R1 := Lib.hid r1
  have N := Lib.hid n
  clear r0 r1 n E
  go_enter Tryd.func40, Tryd.ntmps40
  go_wp2_with fail
  refine (is_other a1 a0 c1 c0 t1 t0 _ N.out R1.out R0.out).mono ?_
  rintro e w1 ⟨rfl, hw⟩
  subst hw
  go_wp2_with fail
  refine (is_same a1 _).mono ?_
  rintro e w2 ⟨rfl, hw⟩
  subst hw
  go_wp2_with fail
  go_ret
  exact ⟨rfl, rfl⟩
set_option maxHeartbeats 2000000 in
set_option maxRecDepth 100000 in
theorem code_2 (a0 a1 a2 : Addr) (w : World) (E : Errs3 w a0 a1 a2) : Calls Tryd.prog 40 #[.iface 104 (.pointer (some a2))] w fun e w' => e = .returned (.int .i64 3) ∧ w = w' := by
  have g0 := E.g0
  have g1 := E.g1
  have g2 := E.g2
  obtain ⟨c0, t0, r0⟩ := E.r0
  obtain ⟨c1, t1, r1⟩ := E.r1
  obtain ⟨c2, t2, r2⟩ := E.r2
  have R0 := Lib.hid r0
  have R1 := Lib.hid r1
  have R2 := Lib.hid r2
  have N := Lib.hid E.n02.symm
  have N' := Lib.hid E.n12.symm
  clear r0 r1 r2 E
  go_enter Tryd.func40, Tryd.ntmps40
  go_wp2_with fail
  refine (is_other a2 a0 c2 c0 t2 t0 _ N.out R2.out R0.out).mono ?_
  rintro e w1 ⟨rfl, hw⟩
  subst hw
  go_wp2_with fail
  refine (is_other a2 a1 c2 c1 t2 t1 _ N'.out R2.out R1.out).mono ?_
  rintro e w1 ⟨rfl, hw⟩
  subst hw
  go_wp2_with fail
  refine (is_same a2 _).mono ?_
  rintro e w2 ⟨rfl, hw⟩
  subst hw
  go_wp2_with fail
  go_ret
  exact ⟨rfl, rfl⟩
set_option maxHeartbeats 2000000 in
set_option maxRecDepth 100000 in
theorem code_3 (a0 a1 a2 a3 : Addr) (w : World) (E : Errs3 w a0 a1 a2) (n0 : a3 ≠ a0) (n1 : a3 ≠ a1) (n2 : a3 ≠ a2) (r3 : ∃ c t, w.heap[a3.block]? = some (.cells c t (0, 0))) :
    Calls Tryd.prog 40 #[.iface 104 (.pointer (some a3))] w fun e w' => e = .returned (.int .i64 6) ∧ w = w' := by
  have g0 := E.g0
  have g1 := E.g1
  have g2 := E.g2
  obtain ⟨c0, t0, r0⟩ := E.r0
  obtain ⟨c1, t1, r1⟩ := E.r1
  obtain ⟨c2, t2, r2⟩ := E.r2
  obtain ⟨c3, t3, r3⟩ := r3
  have R0 := Lib.hid r0
  have R1 := Lib.hid r1
  have R2 := Lib.hid r2
  have R3 := Lib.hid r3
  have N := Lib.hid n0
  have N' := Lib.hid n1
  have N'' := Lib.hid n2
  clear r0 r1 r2 r3 E n0 n1 n2
  go_enter Tryd.func40, Tryd.ntmps40
  go_wp2_with fail
  refine (is_other a3 a0 c3 c0 t3 t0 _ N.out R3.out R0.out).mono ?_
  rintro e w1 ⟨rfl, hw⟩
  subst hw
  go_wp2_with fail
  refine (is_other a3 a1 c3 c1 t3 t1 _ N'.out R3.out R1.out).mono ?_
  rintro e w1 ⟨rfl, hw⟩
  subst hw
  go_wp2_with fail
  refine (is_other a3 a2 c3 c2 t3 t2 _ N''.out R3.out R2.out).mono ?_
  rintro e w2 ⟨rfl, hw⟩
  subst hw
  go_wp2_with fail
  go_ret
  exact ⟨rfl, rfl⟩

/-- The four errors of the chapter. -/
structure Errs4 (w : World) (a0 a1 a2 a3 : Addr) : Prop where
  e3 : Errs3 w a0 a1 a2
  g3 : w.cell? ⟨3, 0, none⟩ = some (.iface 104 (.pointer (some a3)))
  r3 : ∃ c t, w.heap[a3.block]? = some (.cells c t (0, 0))
  n03 : a3 ≠ a0
  n13 : a3 ≠ a1
  n23 : a3 ≠ a2
theorem Errs4.below {w w' : World} {a0 a1 a2 a3 : Addr} (h : Errs4 w a0 a1 a2 a3) (hb : Below w.heap.size w w') : Errs4 w' a0 a1 a2 a3 where
  e3 := h.e3.below hb
  g3 := by rw [hb.cell (World.block_lt_of_cell? w _ h.g3)]; exact h.g3
  r3 := row_below h.r3 hb
  n03 := h.n03
  n13 := h.n13
  n23 := h.n23
theorem code_4 (a0 a1 a2 a3 : Addr) (w : World) (E : Errs4 w a0 a1 a2 a3) :
    Calls Tryd.prog 40 #[.iface 104 (.pointer (some a3))] w fun e w' => e = .returned (.int .i64 6) ∧ w = w' := code_3 a0 a1 a2 a3 w E.e3 E.n03 E.n13 E.n23 E.r3
end Go.Proofs.YtkhemijanhcibaaDoor
