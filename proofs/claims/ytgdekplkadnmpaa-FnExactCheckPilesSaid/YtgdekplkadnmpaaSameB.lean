/-
  Contracts of both SameBox.
-/
import Derived.Test.YtgdekplkadnmpaaBoxF
namespace Go.Proofs.Ytgdekplkadnmpaa
open Go Go.RowKit
set_option linter.unusedVariables false

/-- Two boxes that lie in memory still lie there behind a call that leaves all as it was. -/
theorem keep2 {w w' z : World} {B0 B1 : Nat} {x00 x01 x02 x10 x11 x12 : Int} (b : Below w'.heap.size w' z) (h : w'.cell? ⟨B0, 0, none⟩ = some (.int .i8 x00) ∧ w'.cell? ⟨B0, 1, none⟩ = some (.int .i8 x01) ∧ w'.cell? ⟨B0, 2, none⟩ = some (.int .i8 x02) ∧ w'.cell? ⟨B1, 0, none⟩ = some (.int .i8 x10) ∧ w'.cell? ⟨B1, 1, none⟩ = some (.int .i8 x11) ∧ w'.cell? ⟨B1, 2, none⟩ = some (.int .i8 x12) ∧ Hid (Below w.heap.size w w')) :
    z.cell? ⟨B0, 0, none⟩ = some (.int .i8 x00) ∧ z.cell? ⟨B0, 1, none⟩ = some (.int .i8 x01) ∧ z.cell? ⟨B0, 2, none⟩ = some (.int .i8 x02) ∧ z.cell? ⟨B1, 0, none⟩ = some (.int .i8 x10) ∧ z.cell? ⟨B1, 1, none⟩ = some (.int .i8 x11) ∧ z.cell? ⟨B1, 2, none⟩ = some (.int .i8 x12) ∧ Hid (Below w.heap.size w z) := by
  obtain ⟨h00, h01, h02, h10, h11, h12, hC⟩ := h
  have p : At3 z B0 x00 x01 x02 := At3.below ⟨h00, h01, h02⟩ b
  have q : At3 z B1 x10 x11 x12 := At3.below ⟨h10, h11, h12⟩ b
  exact ⟨p.1, p.2.1, p.2.2, q.1, q.2.1, q.2.2, Lib.hid (blink hC.out b)⟩

theorem hidA {w w' : World} {x00 x01 x02 x10 x11 x12 : Int} (h : w'.cell? ⟨w.heap.size, 0, none⟩ = some (.int .i8 x00) ∧ w'.cell? ⟨w.heap.size, 1, none⟩ = some (.int .i8 x01) ∧ w'.cell? ⟨w.heap.size, 2, none⟩ = some (.int .i8 x02) ∧ w'.cell? ⟨w.heap.size + 1, 0, none⟩ = some (.int .i8 x10) ∧ w'.cell? ⟨w.heap.size + 1, 1, none⟩ = some (.int .i8 x11) ∧ w'.cell? ⟨w.heap.size + 1, 2, none⟩ = some (.int .i8 x12) ∧ Hid (Below w.heap.size w w')) (o : Obj) : Hid (Below w.heap.size w (w'.alloc o)) :=
  Lib.hid (h.2.2.2.2.2.2.out.alloc (Nat.le_of_lt (World.block_lt_of_cell? w' _ h.1)) o)
theorem hidS {w w' : World} (h : Hid (Below w.heap.size w w')) (p : Addr) (u : Value) (hp : w.heap.size ≤ p.block) : Hid (Below w.heap.size w (w'.setCell p u)) :=
  Lib.hid (h.out.setCell hp u)

/-- Two boxes that lie in memory still lie there beside a new block. -/
theorem keepA {w w' : World} {B0 B1 : Nat} {x00 x01 x02 x10 x11 x12 : Int} (h : w'.cell? ⟨B0, 0, none⟩ = some (.int .i8 x00) ∧ w'.cell? ⟨B0, 1, none⟩ = some (.int .i8 x01) ∧ w'.cell? ⟨B0, 2, none⟩ = some (.int .i8 x02) ∧ w'.cell? ⟨B1, 0, none⟩ = some (.int .i8 x10) ∧ w'.cell? ⟨B1, 1, none⟩ = some (.int .i8 x11) ∧ w'.cell? ⟨B1, 2, none⟩ = some (.int .i8 x12) ∧ Hid (Below w.heap.size w w')) (o : Obj) :
    (w'.alloc o).cell? ⟨B0, 0, none⟩ = some (.int .i8 x00) ∧ (w'.alloc o).cell? ⟨B0, 1, none⟩ = some (.int .i8 x01) ∧ (w'.alloc o).cell? ⟨B0, 2, none⟩ = some (.int .i8 x02) ∧ (w'.alloc o).cell? ⟨B1, 0, none⟩ = some (.int .i8 x10) ∧ (w'.alloc o).cell? ⟨B1, 1, none⟩ = some (.int .i8 x11) ∧ (w'.alloc o).cell? ⟨B1, 2, none⟩ = some (.int .i8 x12) ∧ Hid (Below w.heap.size w (w'.alloc o)) :=
  keep2 ((Below.refl _ _).alloc (Nat.le_refl _) o) h

def sameB (a b c x y z : Int) : Bool := decide (a = x ∧ b = y ∧ c = z)

end Go.Proofs.Ytgdekplkadnmpaa
