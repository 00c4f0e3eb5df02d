/-
  The walk of FnExactExchangesFor: program and model answer the same at every argument; neither writes into its arguments, and what is answered lies in new memory.
-/
import Derived.Test.YtocogipejchneaaDoorToI
import Derived.Test.YtocogipejchneaaDoorKeepO
import Derived.Test.YtocogipejchneaaDoorSpC
namespace Go.Proofs.YtocogipejchneaaDoor.fnExactExchangesFor
open Go Go.RowKit
set_option linter.unusedVariables false

set_option maxHeartbeats 16000000 in
set_option maxRecDepth 100000 in
theorem walk (a0 : Option Addr) (len0 cap0 : Nat) (z0 : List Int) (a1 : Option Addr) (len1 cap1 : Nat) (z1 : List Int) (w : World) (hr0 : IsRow .i64 w a0 len0 cap0 z0) (hr1 : IsRow .i64 w a1 len1 cap1 z1) :
    Calls Tryd.prog 4 #[.slice a0 len0 cap0, .slice a1 len1 cap1] w fun e w' => e = .returned (.bool true) ∧ Below w.heap.size w w' := by
  by_cases hm0 : len0 ≤ 1048576
  rotate_left
  · have t0 : decide ((1048576 : Int) < (len0 : Int)) = true := by simp; omega
    go_enter Tryd.func4, Tryd.ntmps4
    go_wp2_with fail
    go_ret
    exact ⟨rfl, Below.refl _ _⟩
  have t0 : decide ((1048576 : Int) < (len0 : Int)) = false := by simp; omega
  by_cases hm1 : len1 ≤ 1048576
  rotate_left
  · have t1 : decide ((1048576 : Int) < (len1 : Int)) = true := by simp; omega
    go_enter Tryd.func4, Tryd.ntmps4
    go_wp2_with fail
    go_ret
    exact ⟨rfl, Below.refl _ _⟩
  have t1 : decide ((1048576 : Int) < (len1 : Int)) = false := by simp; omega
  obtain ⟨xs0, hxs0⟩ : ∃ xs, z0.take len0 = xs := ⟨_, rfl⟩
  have hxl0 : xs0.length = len0 := by rw [← hxs0]; exact hr0.len_le
  have HZ0 := Lib.hid hxs0
  have HX0 : Hid (xs0.length ≤ 1048576) := Lib.hid (by rw [hxl0]; exact hm0)
  have hxb0 : xs0.length ≤ 1048576 := HX0.out
  clear hxs0 hxl0
  obtain ⟨xs1, hxs1⟩ : ∃ xs, z1.take len1 = xs := ⟨_, rfl⟩
  have hxl1 : xs1.length = len1 := by rw [← hxs1]; exact hr1.len_le
  have HZ1 := Lib.hid hxs1
  have HX1 : Hid (xs1.length ≤ 1048576) := Lib.hid (by rw [hxl1]; exact hm1)
  have hxb1 : xs1.length ≤ 1048576 := HX1.out
  clear hxs1 hxl1
  go_enter Tryd.func4, Tryd.ntmps4
  go_wp2_with fail
  refine (toI_as a0 len0 cap0 z0 xs0 HZ0 _ hr0 hm0).mono ?_
  rintro e w1 ⟨rfl, o1, b1⟩
  have c1 : Below w.heap.size w w1 := b1
  have hs1 : w.heap.size ≤ w1.heap.size := b1.size
  go_wp2_with fail
  refine (toI_as a1 len1 cap1 z1 xs1 HZ1 _ (hr1.below c1) hm1).mono ?_
  rintro e w2 ⟨rfl, o2, b2⟩
  have c2 : Below w.heap.size w w2 := blink c1 b2
  have hs2 : w1.heap.size ≤ w2.heap.size := b2.size
  go_wp2_with fail
  refine (sexc_any _ _ _ _ xs0 xs1 _ ((o1).below b2).reads (o2).reads HX0.out HX1.out).mono ?_
  rintro e w3 ⟨rfl, b3⟩
  have c3 : Below w.heap.size w w3 := blink c2 b3
  have hs3 : w2.heap.size ≤ w3.heap.size := b3.size
  go_wp2_with fail
  refine (toI_as a0 len0 cap0 z0 xs0 HZ0 _ (hr0.below c3) hm0).mono ?_
  rintro e w4 ⟨rfl, o4, b4⟩
  have c4 : Below w.heap.size w w4 := blink c3 b4
  have hs4 : w3.heap.size ≤ w4.heap.size := b4.size
  go_wp2_with fail
  refine (toI_as a1 len1 cap1 z1 xs1 HZ1 _ (hr1.below c4) hm1).mono ?_
  rintro e w5 ⟨rfl, o5, b5⟩
  have c5 : Below w.heap.size w w5 := blink c4 b5
  have hs5 : w4.heap.size ≤ w5.heap.size := b5.size
  go_wp2_with fail
  refine (iexc_any _ _ _ _ xs0 xs1 _ ((o4).below b5).reads (o5).reads HX0.out HX1.out).mono ?_
  rintro e w6 ⟨rfl, b6⟩
  have c6 : Below w.heap.size w w6 := blink c5 b6
  have hs6 : w5.heap.size ≤ w6.heap.size := b6.size
  go_wp2_with fail
  refine (toI_as a0 len0 cap0 z0 xs0 HZ0 _ (hr0.below c6) hm0).mono ?_
  rintro e w7 ⟨rfl, o7, b7⟩
  have c7 : Below w.heap.size w w7 := blink c6 b7
  have hs7 : w6.heap.size ≤ w7.heap.size := b7.size
  go_wp2_with fail
  refine (eqI_any _ _ xs0 xs0 _ ((((o4).below b5).below b6).below b7).reads (o7).reads (HX0.out) (HX0.out)).mono ?_
  rintro e w8 ⟨rfl, b8⟩
  have c8 : Below w.heap.size w w8 := blink c7 b8
  have hs8 : w7.heap.size ≤ w8.heap.size := b8.size
  rw [eqB_true rfl]
  go_wp2_with fail
  refine (toI_as a1 len1 cap1 z1 xs1 HZ1 _ (hr1.below c8) hm1).mono ?_
  rintro e w9 ⟨rfl, o9, b9⟩
  have c9 : Below w.heap.size w w9 := blink c8 b9
  have hs9 : w8.heap.size ≤ w9.heap.size := b9.size
  go_wp2_with fail
  refine (eqI_any _ _ xs1 xs1 _ (((((o5).below b6).below b7).below b8).below b9).reads (o9).reads (HX1.out) (HX1.out)).mono ?_
  rintro e w10 ⟨rfl, b10⟩
  have c10 : Below w.heap.size w w10 := blink c9 b10
  have hs10 : w9.heap.size ≤ w10.heap.size := b10.size
  rw [eqB_true rfl]
  go_wp2_with fail
  go_ret
  exact ⟨rfl, c10⟩
end Go.Proofs.YtocogipejchneaaDoor.fnExactExchangesFor
