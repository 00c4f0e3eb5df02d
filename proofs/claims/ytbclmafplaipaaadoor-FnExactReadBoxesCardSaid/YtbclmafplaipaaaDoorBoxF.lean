/-
  Contracts of the program's and the model's functions on one box or two: ValidBox, SortBox, SameBox, VolumeOf, FitsInside.
-/
import Derived.Test.YtbclmafplaipaaaDoorAsc
namespace Go.Proofs.YtbclmafplaipaaaDoor
open Go Go.RowKit
set_option linter.unusedVariables false

theorem okB_lo {a b c x z : Int} (hx : lo3 a b c = x) (hz : hi3 a b c = z) (h : 1 ≤ x ∧ z ≤ 60) : okB a b c = true := decide_eq_true (by omega)
theorem okB_no {a b c x z : Int} (hx : lo3 a b c = x) (hz : hi3 a b c = z) (h : ¬ (1 ≤ x ∧ z ≤ 60)) : okB a b c = false := decide_eq_false (by omega)
set_option maxHeartbeats 2000000 in
theorem ivbox_any (a b c : Int) (w : World) (ha : I8s a b c) :
    Calls Tryd.prog 145 #[.agg #[.int .i8 a, .int .i8 b, .int .i8 c]] w fun e w' => e = .returned (.bool (okB a b c)) ∧ Below w.heap.size w w' := by
  obtain ⟨x, hx⟩ : ∃ x, lo3 a b c = x := ⟨_, rfl⟩
  obtain ⟨y, hy⟩ : ∃ y, mi3 a b c = y := ⟨_, rfl⟩
  obtain ⟨z, hz⟩ : ∃ z, hi3 a b c = z := ⟨_, rfl⟩
  have HA := Lib.hid ha
  have HX := Lib.hid hx
  have HY := Lib.hid hy
  have HZ := Lib.hid hz
  clear hx hy hz ha
  obtain ⟨W1, e1⟩ : ∃ W, w.alloc (.cells #[.int .i8 a, .int .i8 b, .int .i8 c] 90) = W := ⟨_, rfl⟩
  have HE1 := Lib.hid e1
  have s1 : W1.heap.size = w.heap.size + 1 := by rw [← e1]; simp
  have b1 : Below w.heap.size w W1 := by rw [← e1]; exact (Below.refl _ _).alloc (Nat.le_refl _) _
  have q1 : At3 W1 w.heap.size a b c := by rw [← e1]; exact At3.new _ _ _ _ _
  have B1 := Lib.hid b1
  have S1 := Lib.hid s1
  have Q1 := Lib.hid q1
  clear e1 b1 s1 q1
  by_cases h1 : 1 ≤ x
  · by_cases h2 : z ≤ 60
    · have HO := Lib.hid (okB_lo HX.out HZ.out ⟨h1, h2⟩)
      go_enter Tryd.func145, Tryd.ntmps145
      go_wp2_with fail
      rw [HE1.out]
      refine (asc_any a b c _).mono ?_
      rintro e w2 ⟨rfl, b2⟩
      rw [HX.out, HY.out, HZ.out]
      have B2 := Lib.hid (blink B1.out b2)
      have hs : w.heap.size ≤ w2.heap.size := B2.out.size
      clear b2
      go_wp2_with fail
      go_ret
      exact ⟨(ret_bool HO.out).symm, by repeat (first | exact B2.out | exact Below.refl _ _ | refine Below.drew ?_ | refine Below.setCell ?_ (by first | (simp; done) | (simp; omega) | omega) _ | refine Below.alloc ?_ (by first | (simp; done) | (simp; omega) | omega) _)⟩
    · have hd : decide (z ≤ 60) = false := decide_eq_false h2
      have HO := Lib.hid (okB_no HX.out HZ.out (fun h => h2 h.2))
      go_enter Tryd.func145, Tryd.ntmps145
      go_wp2_with fail
      rw [HE1.out]
      refine (asc_any a b c _).mono ?_
      rintro e w2 ⟨rfl, b2⟩
      rw [HX.out, HY.out, HZ.out]
      have B2 := Lib.hid (blink B1.out b2)
      have hs : w.heap.size ≤ w2.heap.size := B2.out.size
      clear b2
      go_wp2_with fail
      go_ret
      exact ⟨(ret_bool HO.out).symm, by repeat (first | exact B2.out | exact Below.refl _ _ | refine Below.drew ?_ | refine Below.setCell ?_ (by first | (simp; done) | (simp; omega) | omega) _ | refine Below.alloc ?_ (by first | (simp; done) | (simp; omega) | omega) _)⟩
  · have HO := Lib.hid (okB_no HX.out HZ.out (fun h => h1 h.1))
    go_enter Tryd.func145, Tryd.ntmps145
    go_wp2_with fail
    rw [HE1.out]
    refine (asc_any a b c _).mono ?_
    rintro e w2 ⟨rfl, b2⟩
    rw [HX.out, HY.out, HZ.out]
    have B2 := Lib.hid (blink B1.out b2)
    have hs : w.heap.size ≤ w2.heap.size := B2.out.size
    clear b2
    go_wp2_with fail
    go_ret
    exact ⟨(ret_bool HO.out).symm, by repeat (first | exact B2.out | exact Below.refl _ _ | refine Below.drew ?_ | refine Below.setCell ?_ (by first | (simp; done) | (simp; omega) | omega) _ | refine Below.alloc ?_ (by first | (simp; done) | (simp; omega) | omega) _)⟩

/-- The box with its greatest side first, and the code. -/
def sortRes (a b c : Int) : Int × Int × Int × Int := if okB a b c = true then (hi3 a b c, mi3 a b c, lo3 a b c, 0) else (0, 0, 0, 1)
theorem sortRes_ok {a b c x y z : Int} (h : okB a b c = true) (hx : lo3 a b c = x) (hy : mi3 a b c = y) (hz : hi3 a b c = z) : sortRes a b c = (z, y, x, 0) := by unfold sortRes; rw [if_pos h, hx, hy, hz]
theorem sortRes_no {a b c : Int} (h : okB a b c = false) : sortRes a b c = (0, 0, 0, 1) := by unfold sortRes; rw [if_neg (by rw [h]; simp)]
def RetBox (B : Nat) (w : World) (r : Int × Int × Int × Int) (e : Ending) (w' : World) : Prop := e = .returned (.tuple #[.agg #[.int .i8 r.1, .int .i8 r.2.1, .int .i8 r.2.2.1], .int .i64 r.2.2.2]) ∧ Below B w w'
theorem ret_box {B : Nat} {w w' : World} {r : Int × Int × Int × Int} {x y z k : Int} (h : r = (x, y, z, k)) (hb : Below B w w') : RetBox B w r (.returned (.tuple #[.agg #[.int .i8 x, .int .i8 y, .int .i8 z], .int .i64 k])) w' := by subst h; exact ⟨rfl, hb⟩

end Go.Proofs.YtbclmafplaipaaaDoor
