/-
  The walk of FnExactCheckPiles: program and model answer the same at every argument; neither writes into its arguments, and what is answered lies in new memory.
-/
import Derived.Test.YtgdekplkadnmpaaBxL
import Derived.Test.YtgdekplkadnmpaaKeepO
import Derived.Test.YtgdekplkadnmpaaToI
import Derived.Test.YtgdekplkadnmpaaCpS
import Derived.Test.YtgdekplkadnmpaaCpI
namespace Go.Proofs.Ytgdekplkadnmpaa.fnExactCheckPiles
open Go Go.RowKit
set_option linter.unusedVariables false

set_option maxHeartbeats 16000000 in
set_option maxRecDepth 100000 in
theorem walk (a0 : Option Addr) (len0 cap0 : Nat) (ps0 : List (Int × Int × Int)) (a1 : Option Addr) (len1 cap1 : Nat) (z1 : List Int) (w : World) (hh0 : IsRowB w a0 len0 cap0 ps0 ∧ FitsB ps0) (hr1 : IsRow .i64 w a1 len1 cap1 z1) :
    Calls Try.prog 3 #[.slice a0 len0 cap0, .slice a1 len1 cap1] w fun e w' => e = .returned (.bool true) ∧ Below w.heap.size w w' := by
  obtain ⟨hr0, hf0⟩ := hh0
  have HF0 := Lib.hid hf0
  have HN0 := Lib.hid hr0.len_ok
  clear hf0
  by_cases hm1 : len1 ≤ 1048576
  rotate_left
  · have t1 : decide ((1048576 : Int) < (len1 : Int)) = true := by simp; omega
    go_enter Try.func3, Try.ntmps3
    go_wp2_with fail
    go_ret
    exact ⟨rfl, Below.refl _ _⟩
  have t1 : decide ((1048576 : Int) < (len1 : Int)) = false := by simp; omega
  by_cases hm0 : 0 ≤ 1048576 - (len0 : Int)
  rotate_left
  · have t0 : decide (1048576 - (len0 : Int) < 0) = true := decide_eq_true (by omega)
    go_enter Try.func3, Try.ntmps3
    go_wp2_with fail
    refine (szBoxS_big a0 len0 cap0 1048576 (by omega) (by omega) (by omega) HN0.out _).mono ?_
    rintro e we ⟨rfl, rfl⟩
    go_wp2_with fail
    go_ret
    exact ⟨rfl, (Below.refl _ _)⟩
  have t0 : decide (1048576 - (len0 : Int) < 0) = false := decide_eq_false (by omega)
  have hlq0 : ps0.length = len0 := hr0.len_eq
  have HX0 : Hid (ps0.length ≤ 1048576) := Lib.hid (by omega)
  have HL0 : Hid (len0 ≤ 1048576) := Lib.hid (by omega)
  have hxb0 : ps0.length ≤ 1048576 := HX0.out
  clear hlq0
  obtain ⟨xs1, hxs1⟩ : ∃ xs, z1.take len1 = xs := ⟨_, rfl⟩
  have hxl1 : xs1.length = len1 := by rw [← hxs1]; exact hr1.len_le
  have HZ1 := Lib.hid hxs1
  have HX1 : Hid (xs1.length ≤ 1048576) := Lib.hid (by rw [hxl1]; exact hm1)
  have hxb1 : xs1.length ≤ 1048576 := HX1.out
  clear hxs1 hxl1
  go_enter Try.func3, Try.ntmps3
  go_wp2_with fail
  refine (szBoxS_fit a0 len0 cap0 1048576 (by omega) (by omega) _).mono ?_
  rintro e we ⟨rfl, rfl⟩
  go_wp2_with fail
  refine (toBoxS_any a0 len0 cap0 ps0 _ hr0 HL0.out).mono ?_
  rintro e w1 ⟨rfl, o1, b1⟩
  have c1 : Below w.heap.size w w1 := b1
  have hs1 : w.heap.size ≤ w1.heap.size := b1.size
  go_wp2_with fail
  refine (toI_as a1 len1 cap1 z1 xs1 HZ1 _ (hr1.below c1) hm1).mono ?_
  rintro e w2 ⟨rfl, o2, b2⟩
  have c2 : Below w.heap.size w w2 := blink c1 b2
  have hs2 : w1.heap.size ≤ w2.heap.size := b2.size
  go_wp2_with fail
  refine (scp_any _ _ _ ps0 xs1 _ ((o1).below b2).reads (o2).reads HF0.out HX0.out HX1.out).mono ?_
  rintro e w3 ⟨rfl, b3⟩
  have c3 : Below w.heap.size w w3 := blink c2 b3
  have hs3 : w2.heap.size ≤ w3.heap.size := b3.size
  go_wp2_with fail
  refine (toBoxS_any a0 len0 cap0 ps0 _ (hr0.below c3) HL0.out).mono ?_
  rintro e w4 ⟨rfl, o4, b4⟩
  have c4 : Below w.heap.size w w4 := blink c3 b4
  have hs4 : w3.heap.size ≤ w4.heap.size := b4.size
  go_wp2_with fail
  refine (toI_as a1 len1 cap1 z1 xs1 HZ1 _ (hr1.below c4) hm1).mono ?_
  rintro e w5 ⟨rfl, o5, b5⟩
  have c5 : Below w.heap.size w w5 := blink c4 b5
  have hs5 : w4.heap.size ≤ w5.heap.size := b5.size
  go_wp2_with fail
  refine (icp_any _ _ _ ps0 xs1 _ ((o4).below b5).reads (o5).reads HF0.out HX0.out HX1.out).mono ?_
  rintro e w6 ⟨rfl, b6⟩
  have c6 : Below w.heap.size w w6 := blink c5 b6
  have hs6 : w5.heap.size ≤ w6.heap.size := b6.size
  go_wp2_with fail
  refine (toBoxS_any a0 len0 cap0 ps0 _ (hr0.below c6) HL0.out).mono ?_
  rintro e w7 ⟨rfl, o7, b7⟩
  have c7 : Below w.heap.size w w7 := blink c6 b7
  have hs7 : w6.heap.size ≤ w7.heap.size := b7.size
  go_wp2_with fail
  refine (eqBoxS_eq _ _ ps0 _ ((((o4).below b5).below b6).below b7).reads (o7).reads (HX0.out)).mono ?_
  rintro e w8 ⟨rfl, b8⟩
  have c8 : Below w.heap.size w w8 := blink c7 b8
  have hs8 : w7.heap.size ≤ w8.heap.size := b8.size
  go_wp2_with fail
  refine (toI_as a1 len1 cap1 z1 xs1 HZ1 _ (hr1.below c8) hm1).mono ?_
  rintro e w9 ⟨rfl, o9, b9⟩
  have c9 : Below w.heap.size w w9 := blink c8 b9
  have hs9 : w8.heap.size ≤ w9.heap.size := b9.size
  go_wp2_with fail
  refine (eqI_any _ _ xs1 xs1 _ (((((o5).below b6).below b7).below b8).below b9).reads (o9).reads (HX1.out) (HX1.out)).mono ?_
  rintro e w10 ⟨rfl, b10⟩
  have c10 : Below w.heap.size w w10 := blink c9 b10
  have hs10 : w9.heap.size ≤ w10.heap.size := b10.size
  rw [eqB_true rfl]
  go_wp2_with fail
  go_ret
  exact ⟨rfl, c10⟩
end Go.Proofs.Ytgdekplkadnmpaa.fnExactCheckPiles
