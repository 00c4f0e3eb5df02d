/-
  The program's sides in order, its check of a box, its sorting, and whether a box fits inside another one.
-/
import Derived.Test.YtbclmafplaipaaaDoorBoxI
import Derived.Outline
namespace Go.Proofs.YtbclmafplaipaaaDoor
open Go Go.RowKit
set_option linter.unusedVariables false

theorem Blk3.alloc {w : World} {B : Nat} {T : TypeId} {a b c : Int} (h : Blk3 w B T a b c) (o : Obj) : Blk3 (w.alloc o) B T a b c := (heap_alloc_old w o (Array.getElem?_eq_some_iff.1 h).1).trans h
theorem Blk3.lt {w : World} {B : Nat} {T : TypeId} {a b c : Int} (h : Blk3 w B T a b c) : B < w.heap.size := (Array.getElem?_eq_some_iff.1 h).1
theorem Blk3.below {n : Nat} {w w' : World} {B : Nat} {T : TypeId} {a b c : Int} (h : Blk3 w B T a b c) (hb : Below n w w') (hn : B < n) : Blk3 w' B T a b c := (hb.block B hn).trans h
theorem Blk3.store {w : World} {B : Nat} {T : TypeId} {a b c x y z : Int} (h : Blk3 w B T a b c) :
    Blk3 (((w.setCell ⟨B, 0, none⟩ (.int .i8 x)).setCell ⟨B, 1, none⟩ (.int .i8 y)).setCell ⟨B, 2, none⟩ (.int .i8 z)) B T x y z := by
  have h1 := heap_setCell_same w B 0 _ T (.int .i8 x) h
  have h2 := heap_setCell_same (w.setCell ⟨B, 0, none⟩ (.int .i8 x)) B 1 _ T (.int .i8 y) h1
  have h3 := heap_setCell_same ((w.setCell ⟨B, 0, none⟩ (.int .i8 x)).setCell ⟨B, 1, none⟩ (.int .i8 y)) B 2 _ T (.int .i8 z) h2
  unfold Blk3
  rw [h3]
  rfl

set_option maxHeartbeats 2000000 in
theorem asc_any (a b c : Int) (w : World) :
    Calls Tryd.prog 167 #[.agg #[.int .i8 a, .int .i8 b, .int .i8 c]] w fun e w' => e = .returned (.agg #[.int .i8 (lo3 a b c), .int .i8 (mi3 a b c), .int .i8 (hi3 a b c)]) ∧ Below w.heap.size w w' := by
  obtain ⟨x, hx⟩ : ∃ x, lo3 a b c = x := ⟨_, rfl⟩
  obtain ⟨y, hy⟩ : ∃ y, mi3 a b c = y := ⟨_, rfl⟩
  obtain ⟨z, hz⟩ : ∃ z, hi3 a b c = z := ⟨_, rfl⟩
  rw [hx, hy, hz]
  have HX := Lib.hid hx
  have HY := Lib.hid hy
  have HZ := Lib.hid hz
  clear hx hy hz
  go_enter Tryd.func167, Tryd.ntmps167
  go_wp2_with fail
  obtain ⟨W1, e1⟩ : ∃ W, w.alloc (.cells #[.int .i8 a, .int .i8 b, .int .i8 c] 90) = W := ⟨_, rfl⟩
  have s1 : W1.heap.size = w.heap.size + 1 := by rw [← e1]; simp
  obtain ⟨W2, e2⟩ : ∃ W, W1.alloc (.cells #[.int .i8 0, .int .i8 0, .int .i8 0] 167) = W := ⟨_, rfl⟩
  have s2 : W2.heap.size = w.heap.size + 1 + 1 := by rw [← e2]; simp [s1]
  have z2 : Blk3 W2 (w.heap.size + 1) 167 0 0 0 := by rw [← e2, ← s1]; exact Blk3.new _ _ _ _ _
  obtain ⟨W3, e3⟩ : ∃ W, W2.alloc (.cells #[.int .i8 a, .int .i8 b, .int .i8 c] 167) = W := ⟨_, rfl⟩
  have z3 : Blk3 W3 (w.heap.size + 1) 167 0 0 0 := by rw [← e3]; exact z2.alloc _
  have y3 : Blk3 W3 (w.heap.size + 1 + 1) 167 a b c := by rw [← e3, ← s2]; exact Blk3.new _ _ _ _ _
  have b3 : Below w.heap.size w W3 := by
    rw [← e3]; refine Below.alloc ?_ (by omega) _
    rw [← e2]; refine Below.alloc ?_ (by omega) _
    rw [← e1]; exact (Below.refl _ _).alloc (Nat.le_refl _) _
  rw [e1, e2, e3]
  have HZ3 := Lib.hid z3
  have HY3 := Lib.hid y3
  have HB3 := Lib.hid b3
  clear e1 e2 e3 s1 s2 z2 z3 y3 b3
  refine (sort3_any a b c _ 167 _ HY3.out).mono ?_
  rintro e w4 ⟨⟨v, rfl⟩, hb4, hw4⟩
  rw [HX.out, HY.out, HZ.out] at hb4
  have z4 := HZ3.out.below hw4 (by omega)
  have c0 := hb4.at3.1
  have c1 := hb4.at3.2.1
  have c2 := hb4.at3.2.2
  have d0 := z4.at3.1
  have d1 := z4.at3.2.1
  have d2 := z4.at3.2.2
  have f0 := z4.frozen 0
  have f1 := z4.frozen 1
  have f2 := z4.frozen 2
  have HS := Lib.hid (z4.store (x := x) (y := y) (z := z))
  have HB4 : Hid (Below w.heap.size w w4) := Lib.hid (HB3.out.trans (hw4.mono (by omega)))
  clear hb4 hw4 z4
  go_wp2_with fail
  go_outline
  obtain ⟨Wf, eW⟩ : ∃ Wf, ((w4.setCell ⟨w.heap.size + 1, 0, none⟩ (.int .i8 x)).setCell ⟨w.heap.size + 1, 1, none⟩ (.int .i8 y)).setCell ⟨w.heap.size + 1, 2, none⟩ (.int .i8 z) = Wf := ⟨_, rfl⟩
  rw [eW]
  have kf : Blk3 Wf (w.heap.size + 1) 167 x y z := by rw [← eW]; exact HS.out
  have bf : Below w.heap.size w Wf := by rw [← eW]; exact ((HB4.out.setCell (by simp) _).setCell (by simp) _).setCell (by simp) _
  have r0 := kf.at3.1
  have r1 := kf.at3.2.1
  have r2 := kf.at3.2.2
  exact bodyPost_ret (v := .agg #[.int .i8 x, .int .i8 y, .int .i8 z]) (by simp [results, Tryd.results167, go_sem, r0, r1, r2]) rfl ⟨rfl, bf⟩
end Go.Proofs.YtbclmafplaipaaaDoor
