/-
  Contracts of fitsInside and l02Inside, and of both FitsInside.
-/
import Derived.Test.YtkhemijanhcibabVol
import Derived.Deep.RegionHeld3
import Derived.Laws.NewBlocks
import Derived.Laws.Alloc2
namespace Go.Proofs.Ytkhemijanhcibab
open Go Go.RowKit
set_option linter.unusedVariables false

/-- What lay below reads as it read. -/
theorem bcell {W w1 : World} (hb : Below W.heap.size W w1) : (∀ b o, b < W.heap.size → w1.cell? ⟨b, o, none⟩ = W.cell? ⟨b, o, none⟩) ∧ (∀ b o, b < W.heap.size → w1.frozen? ⟨b, o, none⟩ = W.frozen? ⟨b, o, none⟩) ∧ W.heap.size ≤ w1.heap.size :=
  ⟨fun b o h => hb.cell (p := ⟨b, o, none⟩) h, fun b o h => hb.frozen (p := ⟨b, o, none⟩) h, hb.size⟩

theorem keep2' {w' z : World} {B0 B1 : Nat} {x00 x01 x02 x10 x11 x12 : Int} (b : Below w'.heap.size w' z) (h : w'.cell? ⟨B0, 0, none⟩ = some (.int .i8 x00) ∧ w'.cell? ⟨B0, 1, none⟩ = some (.int .i8 x01) ∧ w'.cell? ⟨B0, 2, none⟩ = some (.int .i8 x02) ∧ w'.cell? ⟨B1, 0, none⟩ = some (.int .i8 x10) ∧ w'.cell? ⟨B1, 1, none⟩ = some (.int .i8 x11) ∧ w'.cell? ⟨B1, 2, none⟩ = some (.int .i8 x12)) :
    z.cell? ⟨B0, 0, none⟩ = some (.int .i8 x00) ∧ z.cell? ⟨B0, 1, none⟩ = some (.int .i8 x01) ∧ z.cell? ⟨B0, 2, none⟩ = some (.int .i8 x02) ∧ z.cell? ⟨B1, 0, none⟩ = some (.int .i8 x10) ∧ z.cell? ⟨B1, 1, none⟩ = some (.int .i8 x11) ∧ z.cell? ⟨B1, 2, none⟩ = some (.int .i8 x12) := by
  obtain ⟨h00, h01, h02, h10, h11, h12⟩ := h
  have p : At3 z B0 x00 x01 x02 := At3.below ⟨h00, h01, h02⟩ b
  have q : At3 z B1 x10 x11 x12 := At3.below ⟨h10, h11, h12⟩ b
  exact ⟨p.1, p.2.1, p.2.2, q.1, q.2.1, q.2.2⟩

theorem keepAA {w' : World} {B0 B1 : Nat} {x00 x01 x02 x10 x11 x12 : Int} {o o' : Obj} (h : w'.cell? ⟨B0, 0, none⟩ = some (.int .i8 x00) ∧ w'.cell? ⟨B0, 1, none⟩ = some (.int .i8 x01) ∧ w'.cell? ⟨B0, 2, none⟩ = some (.int .i8 x02) ∧ w'.cell? ⟨B1, 0, none⟩ = some (.int .i8 x10) ∧ w'.cell? ⟨B1, 1, none⟩ = some (.int .i8 x11) ∧ w'.cell? ⟨B1, 2, none⟩ = some (.int .i8 x12)) :
    ((w'.alloc o).alloc o').cell? ⟨B0, 0, none⟩ = some (.int .i8 x00) ∧ ((w'.alloc o).alloc o').cell? ⟨B0, 1, none⟩ = some (.int .i8 x01) ∧ ((w'.alloc o).alloc o').cell? ⟨B0, 2, none⟩ = some (.int .i8 x02) ∧ ((w'.alloc o).alloc o').cell? ⟨B1, 0, none⟩ = some (.int .i8 x10) ∧ ((w'.alloc o).alloc o').cell? ⟨B1, 1, none⟩ = some (.int .i8 x11) ∧ ((w'.alloc o).alloc o').cell? ⟨B1, 2, none⟩ = some (.int .i8 x12) := by
  obtain ⟨h00, h01, h02, h10, h11, h12⟩ := h
  have p : At3 ((w'.alloc o).alloc o') B0 x00 x01 x02 := (At3.alloc ⟨h00, h01, h02⟩ o).alloc o'
  have q : At3 ((w'.alloc o).alloc o') B1 x10 x11 x12 := (At3.alloc ⟨h10, h11, h12⟩ o).alloc o'
  exact ⟨p.1, p.2.1, p.2.2, q.1, q.2.1, q.2.2⟩

theorem keepA1 {w' : World} {B0 B1 : Nat} {x00 x01 x02 x10 x11 x12 : Int} {o : Obj} (h : w'.cell? ⟨B0, 0, none⟩ = some (.int .i8 x00) ∧ w'.cell? ⟨B0, 1, none⟩ = some (.int .i8 x01) ∧ w'.cell? ⟨B0, 2, none⟩ = some (.int .i8 x02) ∧ w'.cell? ⟨B1, 0, none⟩ = some (.int .i8 x10) ∧ w'.cell? ⟨B1, 1, none⟩ = some (.int .i8 x11) ∧ w'.cell? ⟨B1, 2, none⟩ = some (.int .i8 x12)) :
    (w'.alloc o).cell? ⟨B0, 0, none⟩ = some (.int .i8 x00) ∧ (w'.alloc o).cell? ⟨B0, 1, none⟩ = some (.int .i8 x01) ∧ (w'.alloc o).cell? ⟨B0, 2, none⟩ = some (.int .i8 x02) ∧ (w'.alloc o).cell? ⟨B1, 0, none⟩ = some (.int .i8 x10) ∧ (w'.alloc o).cell? ⟨B1, 1, none⟩ = some (.int .i8 x11) ∧ (w'.alloc o).cell? ⟨B1, 2, none⟩ = some (.int .i8 x12) := by
  obtain ⟨h00, h01, h02, h10, h11, h12⟩ := h
  have p : At3 (w'.alloc o) B0 x00 x01 x02 := At3.alloc ⟨h00, h01, h02⟩ o
  have q : At3 (w'.alloc o) B1 x10 x11 x12 := At3.alloc ⟨h10, h11, h12⟩ o
  exact ⟨p.1, p.2.1, p.2.2, q.1, q.2.1, q.2.2⟩

theorem keepW {n : Nat} {z W : World} {B0 B1 : Nat} {x00 x01 x02 x10 x11 x12 : Int} (hb : Below n z W) (h0 : B0 < n) (h1 : B1 < n) (h : z.cell? ⟨B0, 0, none⟩ = some (.int .i8 x00) ∧ z.cell? ⟨B0, 1, none⟩ = some (.int .i8 x01) ∧ z.cell? ⟨B0, 2, none⟩ = some (.int .i8 x02) ∧ z.cell? ⟨B1, 0, none⟩ = some (.int .i8 x10) ∧ z.cell? ⟨B1, 1, none⟩ = some (.int .i8 x11) ∧ z.cell? ⟨B1, 2, none⟩ = some (.int .i8 x12)) :
    W.cell? ⟨B0, 0, none⟩ = some (.int .i8 x00) ∧ W.cell? ⟨B0, 1, none⟩ = some (.int .i8 x01) ∧ W.cell? ⟨B0, 2, none⟩ = some (.int .i8 x02) ∧ W.cell? ⟨B1, 0, none⟩ = some (.int .i8 x10) ∧ W.cell? ⟨B1, 1, none⟩ = some (.int .i8 x11) ∧ W.cell? ⟨B1, 2, none⟩ = some (.int .i8 x12) := by
  obtain ⟨h00, h01, h02, h10, h11, h12⟩ := h
  exact ⟨(hb.cell (p := ⟨B0, 0, none⟩) h0).trans h00, (hb.cell (p := ⟨B0, 1, none⟩) h0).trans h01, (hb.cell (p := ⟨B0, 2, none⟩) h0).trans h02, (hb.cell (p := ⟨B1, 0, none⟩) h1).trans h10, (hb.cell (p := ⟨B1, 1, none⟩) h1).trans h11, (hb.cell (p := ⟨B1, 2, none⟩) h1).trans h12⟩

/-- Whether the sides in order are less, side by side. -/
def fitB (a b c x y z : Int) : Bool := decide (lo3 a b c < lo3 x y z ∧ mi3 a b c < mi3 x y z ∧ hi3 a b c < hi3 x y z)

end Go.Proofs.Ytkhemijanhcibab
