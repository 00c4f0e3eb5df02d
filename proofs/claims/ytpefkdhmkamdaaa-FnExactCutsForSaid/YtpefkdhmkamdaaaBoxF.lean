/-
  Contracts of the program's and the model's functions on one box or two: ValidBox, SortBox, SameBox, VolumeOf, FitsInside.
-/
import Derived.Test.YtpefkdhmkamdaaaAsc
namespace Go.Proofs.Ytpefkdhmkamdaaa
open Go Go.RowKit
set_option linter.unusedVariables false

theorem okB_lo {a b c x z : Int} (hx : lo3 a b c = x) (hz : hi3 a b c = z) (h : 1 ≤ x ∧ z ≤ 60) : okB a b c = true := decide_eq_true (by omega)
theorem okB_no {a b c x z : Int} (hx : lo3 a b c = x) (hz : hi3 a b c = z) (h : ¬ (1 ≤ x ∧ z ≤ 60)) : okB a b c = false := decide_eq_false (by omega)
set_option maxHeartbeats 2000000 in
theorem ivbox_any (a b c : Int) (w : World) (ha : I8s a b c) :
    Calls Try.prog 28 #[.agg #[.int .i8 a, .int .i8 b, .int .i8 c]] w fun e w' => e = .returned (.bool (okB a b c)) ∧ Below w.heap.size w w' := by
  obtain ⟨x, hx⟩ : ∃ x, lo3 a b c = x := ⟨_, rfl⟩
  obtain ⟨y, hy⟩ : ∃ y, mi3 a b c = y := ⟨_, rfl⟩
  obtain ⟨z, hz⟩ : ∃ z, hi3 a b c = z := ⟨_, rfl⟩
  have HA := Lib.hid ha
  have HX := Lib.hid hx
  have HY := Lib.hid hy
  have HZ := Lib.hid hz
  clear hx hy hz ha
  obtain ⟨W1, e1⟩ : ∃ W, w.alloc (.cells #[.int .i8 a, .int .i8 b, .int .i8 c] 27) = W := ⟨_, rfl⟩
  have HE1 := Lib.hid e1
  have s1 : W1.heap.size = w.heap.size + 1 := by rw [← e1]; simp
  have b1 : Below w.heap.size w W1 := by rw [← e1]; exact (Below.refl _ _).alloc (Nat.le_refl _) _
  have q1 : At3 W1 w.heap.size a b c := by rw [← e1]; exact At3.new _ _ _ _ _
  have B1 := Lib.hid b1
  have S1 := Lib.hid s1
  have Q1 := Lib.hid q1
  clear e1 b1 s1 q1
  by_cases h1 : 1 ≤ x
  · by_cases h2 : z ≤ 60
    · have HO := Lib.hid (okB_lo HX.out HZ.out ⟨h1, h2⟩)
      go_enter Try.func28, Try.ntmps28
      go_wp2_with fail
      rw [HE1.out]
      refine (asc_any a b c _).mono ?_
      rintro e w2 ⟨rfl, b2⟩
      rw [HX.out, HY.out, HZ.out]
      have B2 := Lib.hid (blink B1.out b2)
      have hs : w.heap.size ≤ w2.heap.size := B2.out.size
      clear b2
      go_wp2_with fail
      go_ret
      exact ⟨(ret_bool HO.out).symm, by repeat (first | exact B2.out | exact Below.refl _ _ | refine Below.drew ?_ | refine Below.setCell ?_ (by first | (simp; done) | (simp; omega) | omega) _ | refine Below.alloc ?_ (by first | (simp; done) | (simp; omega) | omega) _)⟩
    · have hd : decide (z ≤ 60) = false := decide_eq_false h2
      have HO := Lib.hid (okB_no HX.out HZ.out (fun h => h2 h.2))
      go_enter Try.func28, Try.ntmps28
      go_wp2_with fail
      rw [HE1.out]
      refine (asc_any a b c _).mono ?_
      rintro e w2 ⟨rfl, b2⟩
      rw [HX.out, HY.out, HZ.out]
      have B2 := Lib.hid (blink B1.out b2)
      have hs : w.heap.size ≤ w2.heap.size := B2.out.size
      clear b2
      go_wp2_with fail
      go_ret
      exact ⟨(ret_bool HO.out).symm, by repeat (first | exact B2.out | exact Below.refl _ _ | refine Below.drew ?_ | refine Below.setCell ?_ (by first | (simp; done) | (simp; omega) | omega) _ | refine Below.alloc ?_ (by first | (simp; done) | (simp; omega) | omega) _)⟩
  · have HO := Lib.hid (okB_no HX.out HZ.out (fun h => h1 h.1))
    go_enter Try.func28, Try.ntmps28
    go_wp2_with fail
    rw [HE1.out]
    refine (asc_any a b c _).mono ?_
    rintro e w2 ⟨rfl, b2⟩
    rw [HX.out, HY.out, HZ.out]
    have B2 := Lib.hid (blink B1.out b2)
    have hs : w.heap.size ≤ w2.heap.size := B2.out.size
    clear b2
    go_wp2_with fail
    go_ret
    exact ⟨(ret_bool HO.out).symm, by repeat (first | exact B2.out | exact Below.refl _ _ | refine Below.drew ?_ | refine Below.setCell ?_ (by first | (simp; done) | (simp; omega) | omega) _ | refine Below.alloc ?_ (by first | (simp; done) | (simp; omega) | omega) _)⟩

set_option maxHeartbeats 2000000 in
theorem isorted_any (a b c : Int) (w : World) :
    Calls Try.prog 23 #[.agg #[.int .i8 a, .int .i8 b, .int .i8 c]] w fun e w' => e = .returned (.agg #[.int .i8 (hi3 a b c), .int .i8 (mi3 a b c), .int .i8 (lo3 a b c)]) ∧ Below w.heap.size w w' := by
  obtain ⟨x, hx⟩ : ∃ x, lo3 a b c = x := ⟨_, rfl⟩
  obtain ⟨y, hy⟩ : ∃ y, mi3 a b c = y := ⟨_, rfl⟩
  obtain ⟨z, hz⟩ : ∃ z, hi3 a b c = z := ⟨_, rfl⟩
  rw [hx, hy, hz]
  have HX := Lib.hid hx
  have HY := Lib.hid hy
  have HZ := Lib.hid hz
  clear hx hy hz
  obtain ⟨W0, e0⟩ : ∃ W, w.alloc (.cells #[.int .i8 a, .int .i8 b, .int .i8 c] 27) = W := ⟨_, rfl⟩
  have s0 : W0.heap.size = w.heap.size + 1 := by rw [← e0]; simp
  have q0 : At3 W0 w.heap.size a b c := by rw [← e0]; exact At3.new _ _ _ _ _
  obtain ⟨W1, e1⟩ : ∃ W, W0.alloc (.cells #[.int .i8 0, .int .i8 0, .int .i8 0] 27) = W := ⟨_, rfl⟩
  have HE0 := Lib.hid e0
  have HE1 := Lib.hid e1
  have s1 : W1.heap.size = w.heap.size + 1 + 1 := by rw [← e1]; simp [s0]
  have b1 : Below w.heap.size w W1 := by
    rw [← e1]; refine Below.alloc ?_ (by omega) _
    rw [← e0]; exact (Below.refl _ _).alloc (Nat.le_refl _) _
  have q1 : At3 W1 w.heap.size a b c := by rw [← e1]; exact q0.alloc _
  have k1 : Blk3 W1 (w.heap.size + 1) 27 0 0 0 := by rw [← e1, ← s0]; exact Blk3.new _ _ _ _ _
  have B1 := Lib.hid b1
  have S1 := Lib.hid s1
  have Q1 := Lib.hid q1
  have K1 := Lib.hid k1
  clear e0 e1 b1 s0 s1 q0 q1 k1
  go_enter Try.func23, Try.ntmps23
  go_wp2_with fail
  rw [HE0.out, HE1.out]
  refine (asc_any a b c _).mono ?_
  rintro e w2 ⟨rfl, b2⟩
  rw [HX.out, HY.out, HZ.out]
  have B2 := Lib.hid (blink B1.out b2)
  have k2 := K1.out.below b2 (by have := S1.out; omega)
  have hsz : w.heap.size + 1 < w2.heap.size := by have := S1.out; have := b2.size; omega
  obtain ⟨w3, e3⟩ : ∃ W, w2.alloc (.cells #[.int .i8 x, .int .i8 y, .int .i8 z] 55) = W := ⟨_, rfl⟩
  have k3 : Blk3 w3 (w.heap.size + 1) 27 0 0 0 := by rw [← e3]; exact k2.alloc _
  have q3 : At3 w3 w2.heap.size x y z := by rw [← e3]; exact At3.new _ _ _ _ _
  have b3 : Below w.heap.size w w3 := by rw [← e3]; exact B2.out.alloc (by omega) _
  have c0 := q3.1
  have c1 := q3.2.1
  have c2 := q3.2.2
  have d0 := k3.at3.1
  have d1 := k3.at3.2.1
  have d2 := k3.at3.2.2
  have f0 := k3.frozen 0
  have f1 := k3.frozen 1
  have f2 := k3.frozen 2
  have K3 := Lib.hid k3
  have B3 := Lib.hid b3
  have HE3 := Lib.hid e3
  clear e3 q3 k3 b3 b2 k2
  go_wp2_with (rw [HE3.out])
  obtain ⟨Wf, eW⟩ : ∃ Wf, ((w3.setCell ⟨w.heap.size + 1, 0, none⟩ (.int .i8 z)).setCell ⟨w.heap.size + 1, 1, none⟩ (.int .i8 y)).setCell ⟨w.heap.size + 1, 2, none⟩ (.int .i8 x) = Wf := ⟨_, rfl⟩
  rw [eW]
  have kf : Blk3 Wf (w.heap.size + 1) 27 z y x := by rw [← eW]; exact K3.out.store
  have bf : Below w.heap.size w Wf := by rw [← eW]; exact ((B3.out.setCell (by simp) _).setCell (by simp) _).setCell (by simp) _
  have r0 := kf.at3.1
  have r1 := kf.at3.2.1
  have r2 := kf.at3.2.2
  exact bodyPost_ret (v := .agg #[.int .i8 z, .int .i8 y, .int .i8 x]) (by simp [results, Try.results23, go_sem, r0, r1, r2]) rfl ⟨rfl, bf⟩

/-- The box with its greatest side first, and the code. -/
def sortRes (a b c : Int) : Int × Int × Int × Int := if okB a b c = true then (hi3 a b c, mi3 a b c, lo3 a b c, 0) else (0, 0, 0, 1)
theorem sortRes_ok {a b c x y z : Int} (h : okB a b c = true) (hx : lo3 a b c = x) (hy : mi3 a b c = y) (hz : hi3 a b c = z) : sortRes a b c = (z, y, x, 0) := by unfold sortRes; rw [if_pos h, hx, hy, hz]
theorem sortRes_no {a b c : Int} (h : okB a b c = false) : sortRes a b c = (0, 0, 0, 1) := by unfold sortRes; rw [if_neg (by rw [h]; simp)]
def RetBox (B : Nat) (w : World) (r : Int × Int × Int × Int) (e : Ending) (w' : World) : Prop := e = .returned (.tuple #[.agg #[.int .i8 r.1, .int .i8 r.2.1, .int .i8 r.2.2.1], .int .i64 r.2.2.2]) ∧ Below B w w'
theorem ret_box {B : Nat} {w w' : World} {r : Int × Int × Int × Int} {x y z k : Int} (h : r = (x, y, z, k)) (hb : Below B w w') : RetBox B w r (.returned (.tuple #[.agg #[.int .i8 x, .int .i8 y, .int .i8 z], .int .i64 k])) w' := by subst h; exact ⟨rfl, hb⟩

end Go.Proofs.Ytpefkdhmkamdaaa
