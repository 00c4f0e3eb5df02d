/-
  The walk of FnExactFitsInside: program and model answer the same at every two boxes, and neither writes into its argument.
-/
import Derived.Test.YtjniljndnnoegaaSameB
import Derived.Test.YtjniljndnnoegaaFits2
import Derived.Deep.RegionHeld3
namespace Go.Proofs.Ytjniljndnnoegaa.fnExactFitsInside
open Go Go.RowKit
set_option linter.unusedVariables false

set_option maxHeartbeats 4000000 in
set_option maxRecDepth 100000 in
theorem walk (x00 x01 x02 : Int) (x10 x11 x12 : Int) (w : World) (w0 : I8s x00 x01 x02) (w1 : I8s x10 x11 x12) :
    Calls Try.prog 12 #[.agg #[.int .i8 x00, .int .i8 x01, .int .i8 x02], .agg #[.int .i8 x10, .int .i8 x11, .int .i8 x12]] w fun e w' => e = .returned (.bool true) ∧ Below w.heap.size w w' := by
  have H0 := Lib.hid w0
  have H1 := Lib.hid w1
  clear w0 w1
  go_enter Try.func12, Try.ntmps12
  go_wp2_with fail
  obtain ⟨v0, e0⟩ : ∃ v, w.alloc (.cells #[.int .i8 x00, .int .i8 x01, .int .i8 x02] 24) = v := ⟨_, rfl⟩
  have s0 : v0.heap.size = w.heap.size + 1 := by rw [← e0]; simp
  have q0 : At3 v0 (w.heap.size) x00 x01 x02 := by rw [← e0]; exact At3.new _ _ _ _ _
  have c0 : Below w.heap.size w v0 := by rw [← e0]; exact (Below.refl _ _).alloc (Nat.le_refl _) _
  obtain ⟨v1, e1⟩ : ∃ v, v0.alloc (.cells #[.int .i8 x10, .int .i8 x11, .int .i8 x12] 24) = v := ⟨_, rfl⟩
  have q1 : At3 v1 (w.heap.size + 1) x10 x11 x12 := by rw [← e1, ← s0]; exact At3.new _ _ _ _ _
  have c1 : Below w.heap.size w v1 := by rw [← e1]; exact c0.alloc (by omega) _
  have q0 : At3 v1 (w.heap.size) x00 x01 x02 := by rw [← e1]; exact q0.alloc _
  have SD : v1.drew.cell? ⟨w.heap.size, 0, none⟩ = some (.int .i8 x00) ∧ v1.drew.cell? ⟨w.heap.size, 1, none⟩ = some (.int .i8 x01) ∧ v1.drew.cell? ⟨w.heap.size, 2, none⟩ = some (.int .i8 x02) ∧ v1.drew.cell? ⟨w.heap.size + 1, 0, none⟩ = some (.int .i8 x10) ∧ v1.drew.cell? ⟨w.heap.size + 1, 1, none⟩ = some (.int .i8 x11) ∧ v1.drew.cell? ⟨w.heap.size + 1, 2, none⟩ = some (.int .i8 x12) ∧ Hid (Below w.heap.size w v1.drew) := ⟨q0.1, q0.2.1, q0.2.2, q1.1, q1.2.1, q1.2.2, Lib.hid c1.drew⟩
  have q00 := q0.1
  have q01 := q0.2.1
  have q02 := q0.2.2
  have q10 := q1.1
  have q11 := q1.2.1
  have q12 := q1.2.2
  rw [e0, e1]
  clear e0 e1 s0 q0 c0 q1 c1
  go_region_held3 (fun v => v.cell? ⟨w.heap.size, 0, none⟩ = some (.int .i8 x00) ∧ v.cell? ⟨w.heap.size, 1, none⟩ = some (.int .i8 x01) ∧ v.cell? ⟨w.heap.size, 2, none⟩ = some (.int .i8 x02) ∧ v.cell? ⟨w.heap.size + 1, 0, none⟩ = some (.int .i8 x10) ∧ v.cell? ⟨w.heap.size + 1, 1, none⟩ = some (.int .i8 x11) ∧ v.cell? ⟨w.heap.size + 1, 2, none⟩ = some (.int .i8 x12) ∧ Hid (Below w.heap.size w v)) (first | exact SD | exact keep2 (by assumption) (by assumption) | go_keep) (first | (go_at_call 16; refine (toBox_any _ _ _ _).mono ?_; rintro e z ⟨rfl, b⟩) | (go_at_call 38; refine (sfits_any _ _ _ _ _ _ _ H0.out H1.out).mono ?_; rintro e z ⟨rfl, b⟩))
  have hS : z.cell? ⟨w.heap.size, 0, none⟩ = some (.int .i8 x00) ∧ z.cell? ⟨w.heap.size, 1, none⟩ = some (.int .i8 x01) ∧ z.cell? ⟨w.heap.size, 2, none⟩ = some (.int .i8 x02) ∧ z.cell? ⟨w.heap.size + 1, 0, none⟩ = some (.int .i8 x10) ∧ z.cell? ⟨w.heap.size + 1, 1, none⟩ = some (.int .i8 x11) ∧ z.cell? ⟨w.heap.size + 1, 2, none⟩ = some (.int .i8 x12) ∧ Hid (Below w.heap.size w z) := by assumption
  have l0 : w.heap.size < z.heap.size := World.block_lt_of_cell? z _ hS.1
  have l1 : w.heap.size + 1 < z.heap.size := World.block_lt_of_cell? z _ hS.2.2.2.1
  obtain ⟨z1, ez⟩ : ∃ z1 : World, z1 = z := ⟨_, rfl⟩
  rw [← ez] at hS l0 l1 ⊢
  clear ez
  clear SD
  obtain ⟨q00, q01, q02, q10, q11, q12, C⟩ := hS
  go_wp2_with fail
  have SD : z1.drew.cell? ⟨w.heap.size, 0, none⟩ = some (.int .i8 x00) ∧ z1.drew.cell? ⟨w.heap.size, 1, none⟩ = some (.int .i8 x01) ∧ z1.drew.cell? ⟨w.heap.size, 2, none⟩ = some (.int .i8 x02) ∧ z1.drew.cell? ⟨w.heap.size + 1, 0, none⟩ = some (.int .i8 x10) ∧ z1.drew.cell? ⟨w.heap.size + 1, 1, none⟩ = some (.int .i8 x11) ∧ z1.drew.cell? ⟨w.heap.size + 1, 2, none⟩ = some (.int .i8 x12) ∧ Hid (Below w.heap.size w z1.drew) := ⟨q00, q01, q02, q10, q11, q12, Lib.hid C.out.drew⟩
  go_region_held3 (fun v => v.cell? ⟨w.heap.size, 0, none⟩ = some (.int .i8 x00) ∧ v.cell? ⟨w.heap.size, 1, none⟩ = some (.int .i8 x01) ∧ v.cell? ⟨w.heap.size, 2, none⟩ = some (.int .i8 x02) ∧ v.cell? ⟨w.heap.size + 1, 0, none⟩ = some (.int .i8 x10) ∧ v.cell? ⟨w.heap.size + 1, 1, none⟩ = some (.int .i8 x11) ∧ v.cell? ⟨w.heap.size + 1, 2, none⟩ = some (.int .i8 x12) ∧ Hid (Below w.heap.size w v)) (first | exact SD | exact keep2 (by assumption) (by assumption) | go_keep) (first | (go_at_call 16; refine (toBox_any _ _ _ _).mono ?_; rintro e z ⟨rfl, b⟩) | (go_at_call 39; refine (ifits_any _ _ _ _ _ _ _ H0.out H1.out).mono ?_; rintro e z ⟨rfl, b⟩))
  have hS : z.cell? ⟨w.heap.size, 0, none⟩ = some (.int .i8 x00) ∧ z.cell? ⟨w.heap.size, 1, none⟩ = some (.int .i8 x01) ∧ z.cell? ⟨w.heap.size, 2, none⟩ = some (.int .i8 x02) ∧ z.cell? ⟨w.heap.size + 1, 0, none⟩ = some (.int .i8 x10) ∧ z.cell? ⟨w.heap.size + 1, 1, none⟩ = some (.int .i8 x11) ∧ z.cell? ⟨w.heap.size + 1, 2, none⟩ = some (.int .i8 x12) ∧ Hid (Below w.heap.size w z) := by assumption
  have C2 := hS.2.2.2.2.2.2
  clear hS SD
  go_wp2_with fail
  go_ret
  exact ⟨rfl, C2.out⟩
end Go.Proofs.Ytjniljndnnoegaa.fnExactFitsInside
