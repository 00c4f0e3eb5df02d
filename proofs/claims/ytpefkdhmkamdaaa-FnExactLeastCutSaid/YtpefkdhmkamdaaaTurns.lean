/-
  The iterator of turns: it hands over the turns of a box in their order.
-/
import Derived.Test.YtpefkdhmkamdaaaAsc
import Derived.Test.YtpefkdhmkamdaaaTurnsP
import Derived.Test.YtpefkdhmkamdaaaUp
import Derived.RangeFuncCalls
namespace Go.Proofs.Ytpefkdhmkamdaaa
open Go Go.RowKit Go.Shelf
set_option linter.unusedVariables false
attribute [local go_sem] Oper.semAt_some

set_option maxHeartbeats 2000000 in
theorem inext_a (a b c : Int) (h : b < c) (w : World) :
    Calls Try.prog 35 #[.agg #[.int .i8 a, .int .i8 b, .int .i8 c]] w fun e w' => e = .returned (.agg #[.int .i8 a, .int .i8 c, .int .i8 b]) ∧ Below w.heap.size w w' := by
  have t0 : decide (b < c) = true := decide_eq_true h
  obtain ⟨W0, e0⟩ : ∃ W, w.alloc (.cells #[.int .i8 a, .int .i8 b, .int .i8 c] 55) = W := ⟨_, rfl⟩
  have s0 : W0.heap.size = w.heap.size + 1 := by rw [← e0]; simp
  have q0 : At3 W0 w.heap.size a b c := by rw [← e0]; exact At3.new _ _ _ _ _
  obtain ⟨W1, e1⟩ : ∃ W, W0.alloc (.cells #[.int .i8 0, .int .i8 0, .int .i8 0] 55) = W := ⟨_, rfl⟩
  have b1 : Below w.heap.size w W1 := by
    rw [← e1]; refine Below.alloc ?_ (by omega) _
    rw [← e0]; exact (Below.refl _ _).alloc (Nat.le_refl _) _
  have q1 : At3 W1 w.heap.size a b c := by rw [← e1]; exact q0.alloc _
  have k1 : Blk3 W1 (w.heap.size + 1) 55 0 0 0 := by rw [← e1, ← s0]; exact Blk3.new _ _ _ _ _
  have E0 := Lib.hid e0
  have E1 := Lib.hid e1
  have B1 := Lib.hid b1
  have g0 := q1.1
  have g1 := q1.2.1
  have g2 := q1.2.2
  have d0 := k1.at3.1
  have d1 := k1.at3.2.1
  have d2 := k1.at3.2.2
  have f0 := k1.frozen 0
  have f1 := k1.frozen 1
  have f2 := k1.frozen 2
  have K1 := Lib.hid k1
  clear e0 e1 s0 q0 b1 q1 k1
  go_enter Try.func35, Try.ntmps35
  go_wp2_with (rw [E0.out, E1.out])
  clear d0 d1 d2
  obtain ⟨Wf, eW⟩ : ∃ Wf, ((W1.setCell ⟨w.heap.size + 1, 0, none⟩ (.int .i8 a)).setCell ⟨w.heap.size + 1, 1, none⟩ (.int .i8 c)).setCell ⟨w.heap.size + 1, 2, none⟩ (.int .i8 b) = Wf := ⟨_, rfl⟩
  rw [eW]
  have kf : Blk3 Wf (w.heap.size + 1) 55 a c b := by rw [← eW]; exact K1.out.store
  have bf : Below w.heap.size w Wf := by rw [← eW]; exact ((B1.out.setCell (by simp) _).setCell (by simp) _).setCell (by simp) _
  have r0 := kf.at3.1
  have r1 := kf.at3.2.1
  have r2 := kf.at3.2.2
  exact bodyPost_ret (v := .agg #[.int .i8 a, .int .i8 c, .int .i8 b]) (by simp [results, Try.results35, go_sem, r0, r1, r2]) rfl ⟨rfl, bf⟩

set_option maxHeartbeats 2000000 in
theorem inext_b (a b c : Int) (h : ¬ b < c) (g : a < c) (w : World) :
    Calls Try.prog 35 #[.agg #[.int .i8 a, .int .i8 b, .int .i8 c]] w fun e w' => e = .returned (.agg #[.int .i8 c, .int .i8 a, .int .i8 b]) ∧ Below w.heap.size w w' := by
  have t0 : decide (b < c) = false := decide_eq_false h
  have t1 : decide (a < c) = true := decide_eq_true g
  obtain ⟨W0, e0⟩ : ∃ W, w.alloc (.cells #[.int .i8 a, .int .i8 b, .int .i8 c] 55) = W := ⟨_, rfl⟩
  have s0 : W0.heap.size = w.heap.size + 1 := by rw [← e0]; simp
  have q0 : At3 W0 w.heap.size a b c := by rw [← e0]; exact At3.new _ _ _ _ _
  obtain ⟨W1, e1⟩ : ∃ W, W0.alloc (.cells #[.int .i8 0, .int .i8 0, .int .i8 0] 55) = W := ⟨_, rfl⟩
  have b1 : Below w.heap.size w W1 := by
    rw [← e1]; refine Below.alloc ?_ (by omega) _
    rw [← e0]; exact (Below.refl _ _).alloc (Nat.le_refl _) _
  have q1 : At3 W1 w.heap.size a b c := by rw [← e1]; exact q0.alloc _
  have k1 : Blk3 W1 (w.heap.size + 1) 55 0 0 0 := by rw [← e1, ← s0]; exact Blk3.new _ _ _ _ _
  have E0 := Lib.hid e0
  have E1 := Lib.hid e1
  have B1 := Lib.hid b1
  have g0 := q1.1
  have g1 := q1.2.1
  have g2 := q1.2.2
  have d0 := k1.at3.1
  have d1 := k1.at3.2.1
  have d2 := k1.at3.2.2
  have f0 := k1.frozen 0
  have f1 := k1.frozen 1
  have f2 := k1.frozen 2
  have K1 := Lib.hid k1
  clear e0 e1 s0 q0 b1 q1 k1
  go_enter Try.func35, Try.ntmps35
  go_wp2_with (rw [E0.out, E1.out])
  clear d0 d1 d2
  obtain ⟨Wf, eW⟩ : ∃ Wf, ((W1.setCell ⟨w.heap.size + 1, 0, none⟩ (.int .i8 c)).setCell ⟨w.heap.size + 1, 1, none⟩ (.int .i8 a)).setCell ⟨w.heap.size + 1, 2, none⟩ (.int .i8 b) = Wf := ⟨_, rfl⟩
  rw [eW]
  have kf : Blk3 Wf (w.heap.size + 1) 55 c a b := by rw [← eW]; exact K1.out.store
  have bf : Below w.heap.size w Wf := by rw [← eW]; exact ((B1.out.setCell (by simp) _).setCell (by simp) _).setCell (by simp) _
  have r0 := kf.at3.1
  have r1 := kf.at3.2.1
  have r2 := kf.at3.2.2
  exact bodyPost_ret (v := .agg #[.int .i8 c, .int .i8 a, .int .i8 b]) (by simp [results, Try.results35, go_sem, r0, r1, r2]) rfl ⟨rfl, bf⟩

set_option maxHeartbeats 2000000 in
theorem inext_c (a b c : Int) (h : ¬ b < c) (g : ¬ a < c) (w : World) :
    Calls Try.prog 35 #[.agg #[.int .i8 a, .int .i8 b, .int .i8 c]] w fun e w' => e = .returned (.agg #[.int .i8 b, .int .i8 c, .int .i8 a]) ∧ Below w.heap.size w w' := by
  have t0 : decide (b < c) = false := decide_eq_false h
  have t1 : decide (a < c) = false := decide_eq_false g
  obtain ⟨W0, e0⟩ : ∃ W, w.alloc (.cells #[.int .i8 a, .int .i8 b, .int .i8 c] 55) = W := ⟨_, rfl⟩
  have s0 : W0.heap.size = w.heap.size + 1 := by rw [← e0]; simp
  have q0 : At3 W0 w.heap.size a b c := by rw [← e0]; exact At3.new _ _ _ _ _
  obtain ⟨W1, e1⟩ : ∃ W, W0.alloc (.cells #[.int .i8 0, .int .i8 0, .int .i8 0] 55) = W := ⟨_, rfl⟩
  have b1 : Below w.heap.size w W1 := by
    rw [← e1]; refine Below.alloc ?_ (by omega) _
    rw [← e0]; exact (Below.refl _ _).alloc (Nat.le_refl _) _
  have q1 : At3 W1 w.heap.size a b c := by rw [← e1]; exact q0.alloc _
  have k1 : Blk3 W1 (w.heap.size + 1) 55 0 0 0 := by rw [← e1, ← s0]; exact Blk3.new _ _ _ _ _
  have E0 := Lib.hid e0
  have E1 := Lib.hid e1
  have B1 := Lib.hid b1
  have g0 := q1.1
  have g1 := q1.2.1
  have g2 := q1.2.2
  have d0 := k1.at3.1
  have d1 := k1.at3.2.1
  have d2 := k1.at3.2.2
  have f0 := k1.frozen 0
  have f1 := k1.frozen 1
  have f2 := k1.frozen 2
  have K1 := Lib.hid k1
  clear e0 e1 s0 q0 b1 q1 k1
  go_enter Try.func35, Try.ntmps35
  go_wp2_with (rw [E0.out, E1.out])
  clear d0 d1 d2
  obtain ⟨Wf, eW⟩ : ∃ Wf, ((W1.setCell ⟨w.heap.size + 1, 0, none⟩ (.int .i8 b)).setCell ⟨w.heap.size + 1, 1, none⟩ (.int .i8 c)).setCell ⟨w.heap.size + 1, 2, none⟩ (.int .i8 a) = Wf := ⟨_, rfl⟩
  rw [eW]
  have kf : Blk3 Wf (w.heap.size + 1) 55 b c a := by rw [← eW]; exact K1.out.store
  have bf : Below w.heap.size w Wf := by rw [← eW]; exact ((B1.out.setCell (by simp) _).setCell (by simp) _).setCell (by simp) _
  have r0 := kf.at3.1
  have r1 := kf.at3.2.1
  have r2 := kf.at3.2.2
  exact bodyPost_ret (v := .agg #[.int .i8 b, .int .i8 c, .int .i8 a]) (by simp [results, Try.results35, go_sem, r0, r1, r2]) rfl ⟨rfl, bf⟩

theorem inext_any (t : Tri) (w : World) :
    Calls Try.prog 35 #[.agg #[.int .i8 t.1, .int .i8 t.2.1, .int .i8 t.2.2]] w fun e w' => e = .returned (.agg #[.int .i8 (nextT t).1, .int .i8 (nextT t).2.1, .int .i8 (nextT t).2.2]) ∧ Below w.heap.size w w' := by
  obtain ⟨a, b, c⟩ := t
  by_cases h : b < c
  · rw [nextT_a h]; exact inext_a a b c h w
  · by_cases g : a < c
    · rw [nextT_b h g]; exact inext_b a b c h g w
    · rw [nextT_c h g]; exact inext_c a b c h g w

set_option maxHeartbeats 1000000 in
theorem iturns_any (a b c : Int) (w : World) :
    Calls Try.prog 30 #[.agg #[.int .i8 a, .int .i8 b, .int .i8 c]] w fun e w' => e = .returned (.func (.func 34) #[] #[.pointer (some ⟨w.heap.size, 0, none⟩)]) ∧ w' = w.alloc (.cells #[.int .i8 a, .int .i8 b, .int .i8 c] 27) := by
  go_enter Try.func30, Try.ntmps30
  go_wp2
  go_ret
  exact ⟨rfl, rfl⟩
end Go.Proofs.Ytpefkdhmkamdaaa
