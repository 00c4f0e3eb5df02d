/-
  The program's sorting of the three sides (slices.Sort at three int8), and its check of a box.
-/
import Derived.Test.YtbclmafplaipaaaDoorBox
import Derived.BigRegion
import Derived.RegionTactic
import Derived.ChangeAlike
namespace Go.Proofs.YtbclmafplaipaaaDoor
open Go Go.RowKit
set_option linter.unusedVariables false

set_option maxHeartbeats 1000000 in
theorem nan_any (x : Int) (w : World) :
    Calls Tryd.prog 212 #[.int .i8 x] w fun e w' => e = .returned (.bool false) ∧ w' = w := by
  have h : (x != x) = false := by simp
  go_enter Tryd.func212, Tryd.ntmps212
  go_wp2
  go_ret
  exact ⟨rfl, rfl⟩

set_option maxHeartbeats 1000000 in
theorem less_any (x y : Int) (w : World) :
    Calls Tryd.prog 203 #[.int .i8 x, .int .i8 y] w fun e w' => e = .returned (.bool (decide (x < y))) ∧ w' = w := by
  go_enter Tryd.func203, Tryd.ntmps203
  go_wp2_with (go_at_call 212; refine (nan_any _ _).mono ?_; rintro e w2 ⟨rfl, hw2⟩; subst hw2)
  go_ret
  exact ⟨rfl, rfl⟩

/-- The three cells behind 'data[1], data[0] = data[0], data[1]'. -/
theorem Blk3.swap10 {w : World} {B : Nat} {T : TypeId} {a b c : Int} (h : Blk3 w B T a b c) (n : Nat) :
    Blk3 (((w.drewN n).setCell ⟨B, 1, none⟩ (.int .i8 a)).setCell ⟨B, 0, none⟩ (.int .i8 b)) B T b a c ∧ Below B w (((w.drewN n).setCell ⟨B, 1, none⟩ (.int .i8 a)).setCell ⟨B, 0, none⟩ (.int .i8 b)) := by
  refine ⟨?_, (((below_drewN (Below.refl _ _) n).setCell (Nat.le_refl B) _).setCell (Nat.le_refl B) _)⟩
  unfold Blk3
  rw [heap_setCell_same ((w.drewN n).setCell ⟨B, 1, none⟩ (.int .i8 a)) B 0 _ T _ (heap_setCell_same (w.drewN n) B 1 _ T _ h)]
  rfl
theorem Blk3.swap21 {w : World} {B : Nat} {T : TypeId} {a b c : Int} (h : Blk3 w B T a b c) (n : Nat) :
    Blk3 (((w.drewN n).setCell ⟨B, 2, none⟩ (.int .i8 b)).setCell ⟨B, 1, none⟩ (.int .i8 c)) B T a c b ∧ Below B w (((w.drewN n).setCell ⟨B, 2, none⟩ (.int .i8 b)).setCell ⟨B, 1, none⟩ (.int .i8 c)) := by
  refine ⟨?_, (((below_drewN (Below.refl _ _) n).setCell (Nat.le_refl B) _).setCell (Nat.le_refl B) _)⟩
  unfold Blk3
  rw [heap_setCell_same ((w.drewN n).setCell ⟨B, 2, none⟩ (.int .i8 b)) B 1 _ T _ (heap_setCell_same (w.drewN n) B 2 _ T _ h)]
  rfl
theorem Blk3.drewN {w : World} {B : Nat} {T : TypeId} {a b c : Int} (h : Blk3 w B T a b c) (n : Nat) : Blk3 (w.drewN n) B T a b c := h

set_option maxHeartbeats 4000000 in
theorem ins_bac (a b c : Int) (h1 : b < a) (h2 : a ≤ c) (B : Nat) (T : TypeId) (w : World) (hb : Blk3 w B T a b c) :
    Calls Tryd.prog 197 #[.slice (some ⟨B, 0, none⟩) 3 3, .int .i64 0, .int .i64 3] w fun e w' => (∃ v, e = .returned v) ∧ Blk3 w' B T b a c ∧ Below B w w' := by
  have c0 := hb.at3.1
  have c1 := hb.at3.2.1
  have c2 := hb.at3.2.2
  have f0 := hb.frozen 0
  have f1 := hb.frozen 1
  have f2 := hb.frozen 2
  have tba : decide (b < a) = true := by simp; omega
  have tca : decide (c < a) = false := by simp; omega
  have HB := Lib.hid hb
  have HW : Hid (Below B w w) := Lib.hid (Below.refl _ _)
  clear hb
  go_enter Tryd.func197, Tryd.ntmps197
  go_wp2_with fail
  refine wp_loop_rounds 3 ?_
  rw [rounds_succ]
  go_wp2_with fail
  refine wp_loop_rounds 2 ?_
  rw [rounds_succ]
  go_wp2_with fail
  go_quiet ((go_at_call 203; exact Calls.quiet_of_same (less_any _ _ _)))
  go_wp2_with fail
  go_region
  go_wp2_with fail
  obtain ⟨w1, ew1, hbw1, hww1⟩ : ∃ W, (((w.drewN (nq + 1)).setCell ⟨B, 1, none⟩ (.int .i8 a)).setCell ⟨B, 0, none⟩ (.int .i8 b)) = W ∧ Blk3 W B T b a c ∧ Below B w W := ⟨_, rfl, HB.out.swap10 _⟩
  rw [ew1]
  have HW := Lib.hid (HW.out.trans hww1)
  clear ew1 hww1 c0 c1 c2 f0 f1 f2
  have c0 := hbw1.at3.1
  have c1 := hbw1.at3.2.1
  have c2 := hbw1.at3.2.2
  have f0 := hbw1.frozen 0
  have f1 := hbw1.frozen 1
  have f2 := hbw1.frozen 2
  have HB := Lib.hid hbw1
  clear hbw1
  rw [rounds_succ]
  go_wp2_with fail
  go_quiet (fail)
  go_wp2_with fail
  obtain ⟨w2, ew2, hbw2, hww2⟩ : ∃ W, w1.drewN nq = W ∧ Blk3 W B T b a c ∧ Below B w1 W := ⟨_, rfl, HB.out.drewN _, below_drewN (Below.refl _ _) _⟩
  rw [ew2]
  have HW := Lib.hid (HW.out.trans hww2)
  clear ew2 hww2 c0 c1 c2 f0 f1 f2
  have c0 := hbw2.at3.1
  have c1 := hbw2.at3.2.1
  have c2 := hbw2.at3.2.2
  have f0 := hbw2.frozen 0
  have f1 := hbw2.frozen 1
  have f2 := hbw2.frozen 2
  have HB := Lib.hid hbw2
  clear hbw2
  rw [rounds_succ]
  go_wp2_with fail
  refine wp_loop_rounds 3 ?_
  rw [rounds_succ]
  go_wp2_with fail
  go_quiet ((go_at_call 203; exact Calls.quiet_of_same (less_any _ _ _)))
  go_wp2_with fail
  obtain ⟨w3, ew3, hbw3, hww3⟩ : ∃ W, w2.drewN nq = W ∧ Blk3 W B T b a c ∧ Below B w2 W := ⟨_, rfl, HB.out.drewN _, below_drewN (Below.refl _ _) _⟩
  rw [ew3]
  have HW := Lib.hid (HW.out.trans hww3)
  clear ew3 hww3 c0 c1 c2 f0 f1 f2
  have c0 := hbw3.at3.1
  have c1 := hbw3.at3.2.1
  have c2 := hbw3.at3.2.2
  have f0 := hbw3.frozen 0
  have f1 := hbw3.frozen 1
  have f2 := hbw3.frozen 2
  have HB := Lib.hid hbw3
  clear hbw3
  rw [rounds_succ]
  go_wp2_with fail
  go_end0
  exact ⟨⟨_, rfl⟩, HB.out, HW.out⟩

set_option maxHeartbeats 4000000 in
theorem ins_abc (a b c : Int) (h1 : a ≤ b) (h2 : b ≤ c) (B : Nat) (T : TypeId) (w : World) (hb : Blk3 w B T a b c) :
    Calls Tryd.prog 197 #[.slice (some ⟨B, 0, none⟩) 3 3, .int .i64 0, .int .i64 3] w fun e w' => (∃ v, e = .returned v) ∧ Blk3 w' B T a b c ∧ Below B w w' := by
  have c0 := hb.at3.1
  have c1 := hb.at3.2.1
  have c2 := hb.at3.2.2
  have f0 := hb.frozen 0
  have f1 := hb.frozen 1
  have f2 := hb.frozen 2
  have tba : decide (b < a) = false := by simp; omega
  have tcb : decide (c < b) = false := by simp; omega
  have HB := Lib.hid hb
  have HW : Hid (Below B w w) := Lib.hid (Below.refl _ _)
  clear hb
  go_enter Tryd.func197, Tryd.ntmps197
  go_wp2_with fail
  refine wp_loop_rounds 3 ?_
  rw [rounds_succ]
  go_wp2_with fail
  refine wp_loop_rounds 2 ?_
  rw [rounds_succ]
  go_wp2_with fail
  go_quiet ((go_at_call 203; exact Calls.quiet_of_same (less_any _ _ _)))
  go_wp2_with fail
  obtain ⟨w1, ew1, hbw1, hww1⟩ : ∃ W, w.drewN nq = W ∧ Blk3 W B T a b c ∧ Below B w W := ⟨_, rfl, HB.out.drewN _, below_drewN (Below.refl _ _) _⟩
  rw [ew1]
  have HW := Lib.hid (HW.out.trans hww1)
  clear ew1 hww1 c0 c1 c2 f0 f1 f2
  have c0 := hbw1.at3.1
  have c1 := hbw1.at3.2.1
  have c2 := hbw1.at3.2.2
  have f0 := hbw1.frozen 0
  have f1 := hbw1.frozen 1
  have f2 := hbw1.frozen 2
  have HB := Lib.hid hbw1
  clear hbw1
  rw [rounds_succ]
  go_wp2_with fail
  refine wp_loop_rounds 3 ?_
  rw [rounds_succ]
  go_wp2_with fail
  go_quiet ((go_at_call 203; exact Calls.quiet_of_same (less_any _ _ _)))
  go_wp2_with fail
  obtain ⟨w2, ew2, hbw2, hww2⟩ : ∃ W, w1.drewN nq = W ∧ Blk3 W B T a b c ∧ Below B w1 W := ⟨_, rfl, HB.out.drewN _, below_drewN (Below.refl _ _) _⟩
  rw [ew2]
  have HW := Lib.hid (HW.out.trans hww2)
  clear ew2 hww2 c0 c1 c2 f0 f1 f2
  have c0 := hbw2.at3.1
  have c1 := hbw2.at3.2.1
  have c2 := hbw2.at3.2.2
  have f0 := hbw2.frozen 0
  have f1 := hbw2.frozen 1
  have f2 := hbw2.frozen 2
  have HB := Lib.hid hbw2
  clear hbw2
  rw [rounds_succ]
  go_wp2_with fail
  go_end0
  exact ⟨⟨_, rfl⟩, HB.out, HW.out⟩

set_option maxHeartbeats 4000000 in
theorem ins_acb (a b c : Int) (h1 : a ≤ c) (h2 : c < b) (B : Nat) (T : TypeId) (w : World) (hb : Blk3 w B T a b c) :
    Calls Tryd.prog 197 #[.slice (some ⟨B, 0, none⟩) 3 3, .int .i64 0, .int .i64 3] w fun e w' => (∃ v, e = .returned v) ∧ Blk3 w' B T a c b ∧ Below B w w' := by
  have c0 := hb.at3.1
  have c1 := hb.at3.2.1
  have c2 := hb.at3.2.2
  have f0 := hb.frozen 0
  have f1 := hb.frozen 1
  have f2 := hb.frozen 2
  have tba : decide (b < a) = false := by simp; omega
  have tcb : decide (c < b) = true := by simp; omega
  have tca : decide (c < a) = false := by simp; omega
  have HB := Lib.hid hb
  have HW : Hid (Below B w w) := Lib.hid (Below.refl _ _)
  clear hb
  go_enter Tryd.func197, Tryd.ntmps197
  go_wp2_with fail
  refine wp_loop_rounds 3 ?_
  rw [rounds_succ]
  go_wp2_with fail
  refine wp_loop_rounds 2 ?_
  rw [rounds_succ]
  go_wp2_with fail
  go_quiet ((go_at_call 203; exact Calls.quiet_of_same (less_any _ _ _)))
  go_wp2_with fail
  obtain ⟨w1, ew1, hbw1, hww1⟩ : ∃ W, w.drewN nq = W ∧ Blk3 W B T a b c ∧ Below B w W := ⟨_, rfl, HB.out.drewN _, below_drewN (Below.refl _ _) _⟩
  rw [ew1]
  have HW := Lib.hid (HW.out.trans hww1)
  clear ew1 hww1 c0 c1 c2 f0 f1 f2
  have c0 := hbw1.at3.1
  have c1 := hbw1.at3.2.1
  have c2 := hbw1.at3.2.2
  have f0 := hbw1.frozen 0
  have f1 := hbw1.frozen 1
  have f2 := hbw1.frozen 2
  have HB := Lib.hid hbw1
  clear hbw1
  rw [rounds_succ]
  go_wp2_with fail
  refine wp_loop_rounds 3 ?_
  rw [rounds_succ]
  go_wp2_with fail
  go_quiet ((go_at_call 203; exact Calls.quiet_of_same (less_any _ _ _)))
  go_wp2_with fail
  go_region
  go_wp2_with fail
  obtain ⟨w2, ew2, hbw2, hww2⟩ : ∃ W, (((w1.drewN (nq + 1)).setCell ⟨B, 2, none⟩ (.int .i8 b)).setCell ⟨B, 1, none⟩ (.int .i8 c)) = W ∧ Blk3 W B T a c b ∧ Below B w1 W := ⟨_, rfl, HB.out.swap21 _⟩
  rw [ew2]
  have HW := Lib.hid (HW.out.trans hww2)
  clear ew2 hww2 c0 c1 c2 f0 f1 f2
  have c0 := hbw2.at3.1
  have c1 := hbw2.at3.2.1
  have c2 := hbw2.at3.2.2
  have f0 := hbw2.frozen 0
  have f1 := hbw2.frozen 1
  have f2 := hbw2.frozen 2
  have HB := Lib.hid hbw2
  clear hbw2
  rw [rounds_succ]
  go_wp2_with fail
  go_quiet ((go_at_call 203; exact Calls.quiet_of_same (less_any _ _ _)))
  go_wp2_with fail
  obtain ⟨w3, ew3, hbw3, hww3⟩ : ∃ W, w2.drewN nq = W ∧ Blk3 W B T a c b ∧ Below B w2 W := ⟨_, rfl, HB.out.drewN _, below_drewN (Below.refl _ _) _⟩
  rw [ew3]
  have HW := Lib.hid (HW.out.trans hww3)
  clear ew3 hww3 c0 c1 c2 f0 f1 f2
  have c0 := hbw3.at3.1
  have c1 := hbw3.at3.2.1
  have c2 := hbw3.at3.2.2
  have f0 := hbw3.frozen 0
  have f1 := hbw3.frozen 1
  have f2 := hbw3.frozen 2
  have HB := Lib.hid hbw3
  clear hbw3
  rw [rounds_succ]
  go_wp2_with fail
  go_end0
  exact ⟨⟨_, rfl⟩, HB.out, HW.out⟩

set_option maxHeartbeats 4000000 in
theorem ins_cab (a b c : Int) (h1 : c < a) (h2 : a ≤ b) (B : Nat) (T : TypeId) (w : World) (hb : Blk3 w B T a b c) :
    Calls Tryd.prog 197 #[.slice (some ⟨B, 0, none⟩) 3 3, .int .i64 0, .int .i64 3] w fun e w' => (∃ v, e = .returned v) ∧ Blk3 w' B T c a b ∧ Below B w w' := by
  have c0 := hb.at3.1
  have c1 := hb.at3.2.1
  have c2 := hb.at3.2.2
  have f0 := hb.frozen 0
  have f1 := hb.frozen 1
  have f2 := hb.frozen 2
  have tba : decide (b < a) = false := by simp; omega
  have tcb : decide (c < b) = true := by simp; omega
  have tca : decide (c < a) = true := by simp; omega
  have HB := Lib.hid hb
  have HW : Hid (Below B w w) := Lib.hid (Below.refl _ _)
  clear hb
  go_enter Tryd.func197, Tryd.ntmps197
  go_wp2_with fail
  refine wp_loop_rounds 3 ?_
  rw [rounds_succ]
  go_wp2_with fail
  refine wp_loop_rounds 2 ?_
  rw [rounds_succ]
  go_wp2_with fail
  go_quiet ((go_at_call 203; exact Calls.quiet_of_same (less_any _ _ _)))
  go_wp2_with fail
  obtain ⟨w1, ew1, hbw1, hww1⟩ : ∃ W, w.drewN nq = W ∧ Blk3 W B T a b c ∧ Below B w W := ⟨_, rfl, HB.out.drewN _, below_drewN (Below.refl _ _) _⟩
  rw [ew1]
  have HW := Lib.hid (HW.out.trans hww1)
  clear ew1 hww1 c0 c1 c2 f0 f1 f2
  have c0 := hbw1.at3.1
  have c1 := hbw1.at3.2.1
  have c2 := hbw1.at3.2.2
  have f0 := hbw1.frozen 0
  have f1 := hbw1.frozen 1
  have f2 := hbw1.frozen 2
  have HB := Lib.hid hbw1
  clear hbw1
  rw [rounds_succ]
  go_wp2_with fail
  refine wp_loop_rounds 3 ?_
  rw [rounds_succ]
  go_wp2_with fail
  go_quiet ((go_at_call 203; exact Calls.quiet_of_same (less_any _ _ _)))
  go_wp2_with fail
  go_region
  go_wp2_with fail
  obtain ⟨w2, ew2, hbw2, hww2⟩ : ∃ W, (((w1.drewN (nq + 1)).setCell ⟨B, 2, none⟩ (.int .i8 b)).setCell ⟨B, 1, none⟩ (.int .i8 c)) = W ∧ Blk3 W B T a c b ∧ Below B w1 W := ⟨_, rfl, HB.out.swap21 _⟩
  rw [ew2]
  have HW := Lib.hid (HW.out.trans hww2)
  clear ew2 hww2 c0 c1 c2 f0 f1 f2
  have c0 := hbw2.at3.1
  have c1 := hbw2.at3.2.1
  have c2 := hbw2.at3.2.2
  have f0 := hbw2.frozen 0
  have f1 := hbw2.frozen 1
  have f2 := hbw2.frozen 2
  have HB := Lib.hid hbw2
  clear hbw2
  rw [rounds_succ]
  go_wp2_with fail
  go_quiet ((go_at_call 203; exact Calls.quiet_of_same (less_any _ _ _)))
  go_wp2_with fail
  go_region
  go_wp2_with fail
  obtain ⟨w3, ew3, hbw3, hww3⟩ : ∃ W, (((w2.drewN (nq + 1)).setCell ⟨B, 1, none⟩ (.int .i8 a)).setCell ⟨B, 0, none⟩ (.int .i8 c)) = W ∧ Blk3 W B T c a b ∧ Below B w2 W := ⟨_, rfl, HB.out.swap10 _⟩
  rw [ew3]
  have HW := Lib.hid (HW.out.trans hww3)
  clear ew3 hww3 c0 c1 c2 f0 f1 f2
  have c0 := hbw3.at3.1
  have c1 := hbw3.at3.2.1
  have c2 := hbw3.at3.2.2
  have f0 := hbw3.frozen 0
  have f1 := hbw3.frozen 1
  have f2 := hbw3.frozen 2
  have HB := Lib.hid hbw3
  clear hbw3
  rw [rounds_succ]
  go_wp2_with fail
  go_quiet (fail)
  go_wp2_with fail
  obtain ⟨w4, ew4, hbw4, hww4⟩ : ∃ W, w3.drewN nq = W ∧ Blk3 W B T c a b ∧ Below B w3 W := ⟨_, rfl, HB.out.drewN _, below_drewN (Below.refl _ _) _⟩
  rw [ew4]
  have HW := Lib.hid (HW.out.trans hww4)
  clear ew4 hww4 c0 c1 c2 f0 f1 f2
  have c0 := hbw4.at3.1
  have c1 := hbw4.at3.2.1
  have c2 := hbw4.at3.2.2
  have f0 := hbw4.frozen 0
  have f1 := hbw4.frozen 1
  have f2 := hbw4.frozen 2
  have HB := Lib.hid hbw4
  clear hbw4
  rw [rounds_succ]
  go_wp2_with fail
  go_end0
  exact ⟨⟨_, rfl⟩, HB.out, HW.out⟩

set_option maxHeartbeats 4000000 in
theorem ins_bca (a b c : Int) (h1 : b ≤ c) (h2 : c < a) (B : Nat) (T : TypeId) (w : World) (hb : Blk3 w B T a b c) :
    Calls Tryd.prog 197 #[.slice (some ⟨B, 0, none⟩) 3 3, .int .i64 0, .int .i64 3] w fun e w' => (∃ v, e = .returned v) ∧ Blk3 w' B T b c a ∧ Below B w w' := by
  have c0 := hb.at3.1
  have c1 := hb.at3.2.1
  have c2 := hb.at3.2.2
  have f0 := hb.frozen 0
  have f1 := hb.frozen 1
  have f2 := hb.frozen 2
  have tba : decide (b < a) = true := by simp; omega
  have tca : decide (c < a) = true := by simp; omega
  have tcb : decide (c < b) = false := by simp; omega
  have HB := Lib.hid hb
  have HW : Hid (Below B w w) := Lib.hid (Below.refl _ _)
  clear hb
  go_enter Tryd.func197, Tryd.ntmps197
  go_wp2_with fail
  refine wp_loop_rounds 3 ?_
  rw [rounds_succ]
  go_wp2_with fail
  refine wp_loop_rounds 2 ?_
  rw [rounds_succ]
  go_wp2_with fail
  go_quiet ((go_at_call 203; exact Calls.quiet_of_same (less_any _ _ _)))
  go_wp2_with fail
  go_region
  go_wp2_with fail
  obtain ⟨w1, ew1, hbw1, hww1⟩ : ∃ W, (((w.drewN (nq + 1)).setCell ⟨B, 1, none⟩ (.int .i8 a)).setCell ⟨B, 0, none⟩ (.int .i8 b)) = W ∧ Blk3 W B T b a c ∧ Below B w W := ⟨_, rfl, HB.out.swap10 _⟩
  rw [ew1]
  have HW := Lib.hid (HW.out.trans hww1)
  clear ew1 hww1 c0 c1 c2 f0 f1 f2
  have c0 := hbw1.at3.1
  have c1 := hbw1.at3.2.1
  have c2 := hbw1.at3.2.2
  have f0 := hbw1.frozen 0
  have f1 := hbw1.frozen 1
  have f2 := hbw1.frozen 2
  have HB := Lib.hid hbw1
  clear hbw1
  rw [rounds_succ]
  go_wp2_with fail
  go_quiet (fail)
  go_wp2_with fail
  obtain ⟨w2, ew2, hbw2, hww2⟩ : ∃ W, w1.drewN nq = W ∧ Blk3 W B T b a c ∧ Below B w1 W := ⟨_, rfl, HB.out.drewN _, below_drewN (Below.refl _ _) _⟩
  rw [ew2]
  have HW := Lib.hid (HW.out.trans hww2)
  clear ew2 hww2 c0 c1 c2 f0 f1 f2
  have c0 := hbw2.at3.1
  have c1 := hbw2.at3.2.1
  have c2 := hbw2.at3.2.2
  have f0 := hbw2.frozen 0
  have f1 := hbw2.frozen 1
  have f2 := hbw2.frozen 2
  have HB := Lib.hid hbw2
  clear hbw2
  rw [rounds_succ]
  go_wp2_with fail
  refine wp_loop_rounds 3 ?_
  rw [rounds_succ]
  go_wp2_with fail
  go_quiet ((go_at_call 203; exact Calls.quiet_of_same (less_any _ _ _)))
  go_wp2_with fail
  go_region
  go_wp2_with fail
  obtain ⟨w3, ew3, hbw3, hww3⟩ : ∃ W, (((w2.drewN (nq + 1)).setCell ⟨B, 2, none⟩ (.int .i8 a)).setCell ⟨B, 1, none⟩ (.int .i8 c)) = W ∧ Blk3 W B T b c a ∧ Below B w2 W := ⟨_, rfl, HB.out.swap21 _⟩
  rw [ew3]
  have HW := Lib.hid (HW.out.trans hww3)
  clear ew3 hww3 c0 c1 c2 f0 f1 f2
  have c0 := hbw3.at3.1
  have c1 := hbw3.at3.2.1
  have c2 := hbw3.at3.2.2
  have f0 := hbw3.frozen 0
  have f1 := hbw3.frozen 1
  have f2 := hbw3.frozen 2
  have HB := Lib.hid hbw3
  clear hbw3
  rw [rounds_succ]
  go_wp2_with fail
  go_quiet ((go_at_call 203; exact Calls.quiet_of_same (less_any _ _ _)))
  go_wp2_with fail
  obtain ⟨w4, ew4, hbw4, hww4⟩ : ∃ W, w3.drewN nq = W ∧ Blk3 W B T b c a ∧ Below B w3 W := ⟨_, rfl, HB.out.drewN _, below_drewN (Below.refl _ _) _⟩
  rw [ew4]
  have HW := Lib.hid (HW.out.trans hww4)
  clear ew4 hww4 c0 c1 c2 f0 f1 f2
  have c0 := hbw4.at3.1
  have c1 := hbw4.at3.2.1
  have c2 := hbw4.at3.2.2
  have f0 := hbw4.frozen 0
  have f1 := hbw4.frozen 1
  have f2 := hbw4.frozen 2
  have HB := Lib.hid hbw4
  clear hbw4
  rw [rounds_succ]
  go_wp2_with fail
  go_end0
  exact ⟨⟨_, rfl⟩, HB.out, HW.out⟩

set_option maxHeartbeats 4000000 in
theorem ins_cba (a b c : Int) (h1 : c < b) (h2 : b < a) (B : Nat) (T : TypeId) (w : World) (hb : Blk3 w B T a b c) :
    Calls Tryd.prog 197 #[.slice (some ⟨B, 0, none⟩) 3 3, .int .i64 0, .int .i64 3] w fun e w' => (∃ v, e = .returned v) ∧ Blk3 w' B T c b a ∧ Below B w w' := by
  have c0 := hb.at3.1
  have c1 := hb.at3.2.1
  have c2 := hb.at3.2.2
  have f0 := hb.frozen 0
  have f1 := hb.frozen 1
  have f2 := hb.frozen 2
  have tba : decide (b < a) = true := by simp; omega
  have tca : decide (c < a) = true := by simp; omega
  have tcb : decide (c < b) = true := by simp; omega
  have HB := Lib.hid hb
  have HW : Hid (Below B w w) := Lib.hid (Below.refl _ _)
  clear hb
  go_enter Tryd.func197, Tryd.ntmps197
  go_wp2_with fail
  refine wp_loop_rounds 3 ?_
  rw [rounds_succ]
  go_wp2_with fail
  refine wp_loop_rounds 2 ?_
  rw [rounds_succ]
  go_wp2_with fail
  go_quiet ((go_at_call 203; exact Calls.quiet_of_same (less_any _ _ _)))
  go_wp2_with fail
  go_region
  go_wp2_with fail
  obtain ⟨w1, ew1, hbw1, hww1⟩ : ∃ W, (((w.drewN (nq + 1)).setCell ⟨B, 1, none⟩ (.int .i8 a)).setCell ⟨B, 0, none⟩ (.int .i8 b)) = W ∧ Blk3 W B T b a c ∧ Below B w W := ⟨_, rfl, HB.out.swap10 _⟩
  rw [ew1]
  have HW := Lib.hid (HW.out.trans hww1)
  clear ew1 hww1 c0 c1 c2 f0 f1 f2
  have c0 := hbw1.at3.1
  have c1 := hbw1.at3.2.1
  have c2 := hbw1.at3.2.2
  have f0 := hbw1.frozen 0
  have f1 := hbw1.frozen 1
  have f2 := hbw1.frozen 2
  have HB := Lib.hid hbw1
  clear hbw1
  rw [rounds_succ]
  go_wp2_with fail
  go_quiet (fail)
  go_wp2_with fail
  obtain ⟨w2, ew2, hbw2, hww2⟩ : ∃ W, w1.drewN nq = W ∧ Blk3 W B T b a c ∧ Below B w1 W := ⟨_, rfl, HB.out.drewN _, below_drewN (Below.refl _ _) _⟩
  rw [ew2]
  have HW := Lib.hid (HW.out.trans hww2)
  clear ew2 hww2 c0 c1 c2 f0 f1 f2
  have c0 := hbw2.at3.1
  have c1 := hbw2.at3.2.1
  have c2 := hbw2.at3.2.2
  have f0 := hbw2.frozen 0
  have f1 := hbw2.frozen 1
  have f2 := hbw2.frozen 2
  have HB := Lib.hid hbw2
  clear hbw2
  rw [rounds_succ]
  go_wp2_with fail
  refine wp_loop_rounds 3 ?_
  rw [rounds_succ]
  go_wp2_with fail
  go_quiet ((go_at_call 203; exact Calls.quiet_of_same (less_any _ _ _)))
  go_wp2_with fail
  go_region
  go_wp2_with fail
  obtain ⟨w3, ew3, hbw3, hww3⟩ : ∃ W, (((w2.drewN (nq + 1)).setCell ⟨B, 2, none⟩ (.int .i8 a)).setCell ⟨B, 1, none⟩ (.int .i8 c)) = W ∧ Blk3 W B T b c a ∧ Below B w2 W := ⟨_, rfl, HB.out.swap21 _⟩
  rw [ew3]
  have HW := Lib.hid (HW.out.trans hww3)
  clear ew3 hww3 c0 c1 c2 f0 f1 f2
  have c0 := hbw3.at3.1
  have c1 := hbw3.at3.2.1
  have c2 := hbw3.at3.2.2
  have f0 := hbw3.frozen 0
  have f1 := hbw3.frozen 1
  have f2 := hbw3.frozen 2
  have HB := Lib.hid hbw3
  clear hbw3
  rw [rounds_succ]
  go_wp2_with fail
  go_quiet ((go_at_call 203; exact Calls.quiet_of_same (less_any _ _ _)))
  go_wp2_with fail
  go_region
  go_wp2_with fail
  obtain ⟨w4, ew4, hbw4, hww4⟩ : ∃ W, (((w3.drewN (nq + 1)).setCell ⟨B, 1, none⟩ (.int .i8 b)).setCell ⟨B, 0, none⟩ (.int .i8 c)) = W ∧ Blk3 W B T c b a ∧ Below B w3 W := ⟨_, rfl, HB.out.swap10 _⟩
  rw [ew4]
  have HW := Lib.hid (HW.out.trans hww4)
  clear ew4 hww4 c0 c1 c2 f0 f1 f2
  have c0 := hbw4.at3.1
  have c1 := hbw4.at3.2.1
  have c2 := hbw4.at3.2.2
  have f0 := hbw4.frozen 0
  have f1 := hbw4.frozen 1
  have f2 := hbw4.frozen 2
  have HB := Lib.hid hbw4
  clear hbw4
  rw [rounds_succ]
  go_wp2_with fail
  go_quiet (fail)
  go_wp2_with fail
  obtain ⟨w5, ew5, hbw5, hww5⟩ : ∃ W, w4.drewN nq = W ∧ Blk3 W B T c b a ∧ Below B w4 W := ⟨_, rfl, HB.out.drewN _, below_drewN (Below.refl _ _) _⟩
  rw [ew5]
  have HW := Lib.hid (HW.out.trans hww5)
  clear ew5 hww5 c0 c1 c2 f0 f1 f2
  have c0 := hbw5.at3.1
  have c1 := hbw5.at3.2.1
  have c2 := hbw5.at3.2.2
  have f0 := hbw5.frozen 0
  have f1 := hbw5.frozen 1
  have f2 := hbw5.frozen 2
  have HB := Lib.hid hbw5
  clear hbw5
  rw [rounds_succ]
  go_wp2_with fail
  go_end0
  exact ⟨⟨_, rfl⟩, HB.out, HW.out⟩

theorem ord3_ex (a b c : Int) : ∃ x y z, Ord3 a b c x y z ∧ x ≤ y ∧ y ≤ z := ⟨_, _, _, ⟨rfl, rfl, rfl⟩, (ord3 a b c).1, (ord3 a b c).2⟩

theorem ins_any (a b c : Int) (B : Nat) (T : TypeId) (w : World) (hb : Blk3 w B T a b c) :
    Calls Tryd.prog 197 #[.slice (some ⟨B, 0, none⟩) 3 3, .int .i64 0, .int .i64 3] w fun e w' => (∃ v, e = .returned v) ∧ Blk3 w' B T (lo3 a b c) (mi3 a b c) (hi3 a b c) ∧ Below B w w' := by
  have close : ∀ x y z, Ord3 a b c x y z → Calls Tryd.prog 197 #[.slice (some ⟨B, 0, none⟩) 3 3, .int .i64 0, .int .i64 3] w (fun e w' => (∃ v, e = .returned v) ∧ Blk3 w' B T x y z ∧ Below B w w') →
      Calls Tryd.prog 197 #[.slice (some ⟨B, 0, none⟩) 3 3, .int .i64 0, .int .i64 3] w fun e w' => (∃ v, e = .returned v) ∧ Blk3 w' B T (lo3 a b c) (mi3 a b c) (hi3 a b c) ∧ Below B w w' := by
    rintro x y z ⟨rfl, rfl, rfl⟩ h
    exact h
  by_cases h1 : b < a
  · by_cases h2 : c < a
    · by_cases h3 : c < b
      · exact close c b a ⟨by unfold lo3; omega, by unfold mi3 lo3 hi3; omega, by unfold hi3; omega⟩ (ins_cba a b c h3 h1 B T w hb)
      · exact close b c a ⟨by unfold lo3; omega, by unfold mi3 lo3 hi3; omega, by unfold hi3; omega⟩ (ins_bca a b c (by omega) h2 B T w hb)
    · exact close b a c ⟨by unfold lo3; omega, by unfold mi3 lo3 hi3; omega, by unfold hi3; omega⟩ (ins_bac a b c h1 (by omega) B T w hb)
  · by_cases h2 : c < b
    · by_cases h3 : c < a
      · exact close c a b ⟨by unfold lo3; omega, by unfold mi3 lo3 hi3; omega, by unfold hi3; omega⟩ (ins_cab a b c h3 (by omega) B T w hb)
      · exact close a c b ⟨by unfold lo3; omega, by unfold mi3 lo3 hi3; omega, by unfold hi3; omega⟩ (ins_acb a b c (by omega) h2 B T w hb)
    · exact close a b c ⟨by unfold lo3; omega, by unfold mi3 lo3 hi3; omega, by unfold hi3; omega⟩ (ins_abc a b c (by omega) (by omega) B T w hb)

set_option maxHeartbeats 2000000 in
set_option maxRecDepth 100000 in
theorem pdq_any (a b c n : Int) (B : Nat) (T : TypeId) (w : World) (hb : Blk3 w B T a b c) :
    Calls Tryd.prog 193 #[.slice (some ⟨B, 0, none⟩) 3 3, .int .i64 0, .int .i64 3, .int .i64 n] w fun e w' => (∃ v, e = .returned v) ∧ Blk3 w' B T (lo3 a b c) (mi3 a b c) (hi3 a b c) ∧ Below B w w' := by
  have HB := Lib.hid hb
  clear hb
  go_enter Tryd.func193, Tryd.ntmps193
  go_wp2_with fail
  refine wp_loop_rounds 1 ?_
  rw [rounds_succ]
  go_wp2_with fail
  refine (ins_any a b c B T _ HB.out).mono ?_
  rintro e w2 ⟨⟨v, rfl⟩, hb2, hw2⟩
  have HB2 := Lib.hid hb2
  have HW2 := Lib.hid hw2
  clear hb2 hw2
  go_wp2_with fail
  refine bodyPost_ret (results_none rfl _ _ _) rfl ?_
  exact ⟨⟨_, rfl⟩, HB2.out, HW2.out⟩

set_option maxHeartbeats 2000000 in
set_option maxRecDepth 100000 in
theorem len64_3 (w : World) : Calls Tryd.prog 189 #[.int .u64 3] w fun e w' => (∃ n, e = .returned (.int .i64 n)) ∧ w = w' := by
  go_enter Tryd.func189, Tryd.ntmps189
  go_wp2_with fail
  go_ret
  exact ⟨⟨_, rfl⟩, rfl⟩

set_option maxHeartbeats 2000000 in
theorem len_3 (w : World) : Calls Tryd.prog 194 #[.int .u64 3] w fun e w' => (∃ n, e = .returned (.int .i64 n)) ∧ w = w' := by
  go_enter Tryd.func194, Tryd.ntmps194
  go_wp2_with (go_at_call 189; refine (len64_3 _).mono ?_; rintro e w2 ⟨⟨n, rfl⟩, rfl⟩)
  go_ret
  exact ⟨⟨_, rfl⟩, rfl⟩

set_option maxHeartbeats 2000000 in
theorem sort3_any (a b c : Int) (B : Nat) (T : TypeId) (w : World) (hb : Blk3 w B T a b c) :
    Calls Tryd.prog 185 #[.slice (some ⟨B, 0, none⟩) 3 3] w fun e w' => (∃ v, e = .returned v) ∧ Blk3 w' B T (lo3 a b c) (mi3 a b c) (hi3 a b c) ∧ Below B w w' := by
  have HB := Lib.hid hb
  clear hb
  go_enter Tryd.func185, Tryd.ntmps185
  go_wp2_with fail
  refine (len_3 _).mono ?_
  rintro e w2 ⟨⟨n, rfl⟩, rfl⟩
  go_wp2_with fail
  refine (pdq_any a b c n B T _ HB.out).mono ?_
  rintro e w2 ⟨⟨v, rfl⟩, hb2, hw2⟩
  have HB2 := Lib.hid hb2
  have HW2 := Lib.hid hw2
  clear hb2 hw2
  go_wp2_with fail
  go_end0
  exact ⟨⟨_, rfl⟩, HB2.out, HW2.out⟩

end Go.Proofs.YtbclmafplaipaaaDoor
