/-
  The walk of FnExactCheckMatches: program and model answer the same at every argument; neither writes into its arguments, and what is answered lies in new memory.
-/
import Derived.Test.YtgimpmdiilmkoaaDoorTOrder
import Derived.Test.YtgimpmdiilmkoaaDoorEOrder
import Derived.Test.YtgimpmdiilmkoaaDoorTReturn
import Derived.Test.YtgimpmdiilmkoaaDoorEReturn
import Derived.Test.YtgimpmdiilmkoaaDoorTMatch
import Derived.Test.YtgimpmdiilmkoaaDoorEMatch
import Derived.Test.YtgimpmdiilmkoaaDoorCmT
import Derived.Test.YtgimpmdiilmkoaaDoorCmJ
namespace Go.Proofs.YtgimpmdiilmkoaaDoor.fnExactCheckMatches
open Go Go.RowKit
set_option linter.unusedVariables false

set_option maxHeartbeats 16000000 in
set_option maxRecDepth 100000 in
theorem walk (a0 : Option Addr) (len0 cap0 : Nat) (ps0 : List (Int × Int × Int × Int × Int)) (a1 : Option Addr) (len1 cap1 : Nat) (ps1 : List (Int × Int × Int × Int)) (a2 : Int) (a3 : Option Addr) (len3 cap3 : Nat) (ps3 : List (Int × Int × Int)) (w : World) (hh0 : IsRowOd w a0 len0 cap0 ps0 ∧ FitsOd ps0) (hh1 : IsRowRt w a1 len1 cap1 ps1 ∧ FitsRt ps1) (hw2 : (Lit.int .i64 a2).wf = true) (hh3 : IsRowMa w a3 len3 cap3 ps3 ∧ FitsMa ps3) :
    Calls Tryd.prog 8 #[.slice a0 len0 cap0, .slice a1 len1 cap1, .int .i64 a2, .slice a3 len3 cap3] w fun e w' => e = .returned (.bool true) ∧ Below w.heap.size w w' := by
  obtain ⟨hr0, hf0⟩ := hh0
  have HF0 := Lib.hid hf0
  have HN0 := Lib.hid hr0.len_ok
  clear hf0
  obtain ⟨hr1, hf1⟩ := hh1
  have HF1 := Lib.hid hf1
  have HN1 := Lib.hid hr1.len_ok
  clear hf1
  obtain ⟨hr3, hf3⟩ := hh3
  have HF3 := Lib.hid hf3
  have HN3 := Lib.hid hr3.len_ok
  clear hf3
  by_cases hm0 : 0 ≤ 1048576 - (len0 : Int)
  rotate_left
  · have t0 : decide (1048576 - (len0 : Int) < 0) = true := decide_eq_true (by omega)
    go_enter Tryd.func8, Tryd.ntmps8
    go_wp2_with fail
    refine (szOrderS_big a0 len0 cap0 1048576 (by omega) (by omega) (by omega) HN0.out _).mono ?_
    rintro e we ⟨rfl, rfl⟩
    go_wp2_with fail
    go_ret
    exact ⟨rfl, (Below.refl _ _)⟩
  have t0 : decide (1048576 - (len0 : Int) < 0) = false := decide_eq_false (by omega)
  by_cases hm1 : 0 ≤ (1048576 - (len0 : Int)) - (len1 : Int)
  rotate_left
  · have t1 : decide ((1048576 - (len0 : Int)) - (len1 : Int) < 0) = true := decide_eq_true (by omega)
    go_enter Tryd.func8, Tryd.ntmps8
    go_wp2_with fail
    refine (szOrderS_fit a0 len0 cap0 1048576 (by omega) (by omega) _).mono ?_
    rintro e we ⟨rfl, rfl⟩
    go_wp2_with fail
    refine (szReturnS_big a1 len1 cap1 (1048576 - (len0 : Int)) (by omega) (by omega) (by omega) HN1.out _).mono ?_
    rintro e we ⟨rfl, rfl⟩
    go_wp2_with fail
    go_ret
    exact ⟨rfl, (Below.refl _ _)⟩
  have t1 : decide ((1048576 - (len0 : Int)) - (len1 : Int) < 0) = false := decide_eq_false (by omega)
  by_cases hm3 : 0 ≤ ((1048576 - (len0 : Int)) - (len1 : Int)) - (len3 : Int)
  rotate_left
  · have t3 : decide (((1048576 - (len0 : Int)) - (len1 : Int)) - (len3 : Int) < 0) = true := decide_eq_true (by omega)
    go_enter Tryd.func8, Tryd.ntmps8
    go_wp2_with fail
    refine (szOrderS_fit a0 len0 cap0 1048576 (by omega) (by omega) _).mono ?_
    rintro e we ⟨rfl, rfl⟩
    go_wp2_with fail
    refine (szReturnS_fit a1 len1 cap1 (1048576 - (len0 : Int)) (by omega) (by omega) _).mono ?_
    rintro e we ⟨rfl, rfl⟩
    go_wp2_with fail
    refine (szMatchS_big a3 len3 cap3 ((1048576 - (len0 : Int)) - (len1 : Int)) (by omega) (by omega) (by omega) HN3.out _).mono ?_
    rintro e we ⟨rfl, rfl⟩
    go_wp2_with fail
    go_ret
    exact ⟨rfl, (Below.refl _ _)⟩
  have t3 : decide (((1048576 - (len0 : Int)) - (len1 : Int)) - (len3 : Int) < 0) = false := decide_eq_false (by omega)
  have hlq0 : ps0.length = len0 := hr0.len_eq
  have HX0 : Hid (ps0.length ≤ 1048576) := Lib.hid (by omega)
  have HL0 : Hid (len0 ≤ 1048576) := Lib.hid (by omega)
  have hxb0 : ps0.length ≤ 1048576 := HX0.out
  clear hlq0
  have hlq1 : ps1.length = len1 := hr1.len_eq
  have HX1 : Hid (ps1.length ≤ 1048576) := Lib.hid (by omega)
  have HL1 : Hid (len1 ≤ 1048576) := Lib.hid (by omega)
  have hxb1 : ps1.length ≤ 1048576 := HX1.out
  clear hlq1
  have hlq3 : ps3.length = len3 := hr3.len_eq
  have HX3 : Hid (ps3.length ≤ 1048576) := Lib.hid (by omega)
  have HL3 : Hid (len3 ≤ 1048576) := Lib.hid (by omega)
  have hxb3 : ps3.length ≤ 1048576 := HX3.out
  clear hlq3
  go_enter Tryd.func8, Tryd.ntmps8
  go_wp2_with fail
  refine (szOrderS_fit a0 len0 cap0 1048576 (by omega) (by omega) _).mono ?_
  rintro e we ⟨rfl, rfl⟩
  go_wp2_with fail
  refine (szReturnS_fit a1 len1 cap1 (1048576 - (len0 : Int)) (by omega) (by omega) _).mono ?_
  rintro e we ⟨rfl, rfl⟩
  go_wp2_with fail
  refine (szMatchS_fit a3 len3 cap3 ((1048576 - (len0 : Int)) - (len1 : Int)) (by omega) (by omega) _).mono ?_
  rintro e we ⟨rfl, rfl⟩
  go_wp2_with fail
  refine (toOrderS_any a0 len0 cap0 ps0 _ hr0 HL0.out).mono ?_
  rintro e w1 ⟨rfl, o1, b1⟩
  have c1 : Below w.heap.size w w1 := b1
  have hs1 : w.heap.size ≤ w1.heap.size := b1.size
  go_wp2_with fail
  refine (toReturnS_any a1 len1 cap1 ps1 _ (hr1.below c1) HL1.out).mono ?_
  rintro e w2 ⟨rfl, o2, b2⟩
  have c2 : Below w.heap.size w w2 := blink c1 b2
  have hs2 : w1.heap.size ≤ w2.heap.size := b2.size
  go_wp2_with fail
  refine (toMatchS_any a3 len3 cap3 ps3 _ (hr3.below c2) HL3.out).mono ?_
  rintro e w3 ⟨rfl, o3, b3⟩
  have c3 : Below w.heap.size w w3 := blink c2 b3
  have hs3 : w2.heap.size ≤ w3.heap.size := b3.size
  go_wp2_with fail
  refine (scheck_any _ _ _ ps0 ps1 ps3 a2 _ (((o1).below b2).below b3).reads ((o2).below b3).reads (o3).reads HF0.out HF1.out HF3.out HX0.out HX1.out HX3.out).mono ?_
  rintro e w4 ⟨rfl, b4⟩
  have c4 : Below w.heap.size w w4 := blink c3 b4
  have hs4 : w3.heap.size ≤ w4.heap.size := b4.size
  go_wp2_with fail
  refine (toOrderS_any a0 len0 cap0 ps0 _ (hr0.below c4) HL0.out).mono ?_
  rintro e w5 ⟨rfl, o5, b5⟩
  have c5 : Below w.heap.size w w5 := blink c4 b5
  have hs5 : w4.heap.size ≤ w5.heap.size := b5.size
  go_wp2_with fail
  refine (toReturnS_any a1 len1 cap1 ps1 _ (hr1.below c5) HL1.out).mono ?_
  rintro e w6 ⟨rfl, o6, b6⟩
  have c6 : Below w.heap.size w w6 := blink c5 b6
  have hs6 : w5.heap.size ≤ w6.heap.size := b6.size
  go_wp2_with fail
  refine (toMatchS_any a3 len3 cap3 ps3 _ (hr3.below c6) HL3.out).mono ?_
  rintro e w7 ⟨rfl, o7, b7⟩
  have c7 : Below w.heap.size w w7 := blink c6 b7
  have hs7 : w6.heap.size ≤ w7.heap.size := b7.size
  go_wp2_with fail
  refine (icheck_any _ _ _ ps0 ps1 ps3 a2 _ (((o5).below b6).below b7).reads ((o6).below b7).reads (o7).reads HF0.out HF1.out HF3.out HX0.out HX1.out HX3.out).mono ?_
  rintro e w8 ⟨rfl, b8⟩
  have c8 : Below w.heap.size w w8 := blink c7 b8
  have hs8 : w7.heap.size ≤ w8.heap.size := b8.size
  go_wp2_with fail
  refine (toOrderS_any a0 len0 cap0 ps0 _ (hr0.below c8) HL0.out).mono ?_
  rintro e w9 ⟨rfl, o9, b9⟩
  have c9 : Below w.heap.size w w9 := blink c8 b9
  have hs9 : w8.heap.size ≤ w9.heap.size := b9.size
  go_wp2_with fail
  refine (eqOrderS_eq _ _ ps0 _ (((((o5).below b6).below b7).below b8).below b9).reads (o9).reads (HX0.out)).mono ?_
  rintro e w10 ⟨rfl, b10⟩
  have c10 : Below w.heap.size w w10 := blink c9 b10
  have hs10 : w9.heap.size ≤ w10.heap.size := b10.size
  go_wp2_with fail
  refine (toReturnS_any a1 len1 cap1 ps1 _ (hr1.below c10) HL1.out).mono ?_
  rintro e w11 ⟨rfl, o11, b11⟩
  have c11 : Below w.heap.size w w11 := blink c10 b11
  have hs11 : w10.heap.size ≤ w11.heap.size := b11.size
  go_wp2_with fail
  refine (eqReturnS_eq _ _ ps1 _ ((((((o6).below b7).below b8).below b9).below b10).below b11).reads (o11).reads (HX1.out)).mono ?_
  rintro e w12 ⟨rfl, b12⟩
  have c12 : Below w.heap.size w w12 := blink c11 b12
  have hs12 : w11.heap.size ≤ w12.heap.size := b12.size
  go_wp2_with fail
  refine (toMatchS_any a3 len3 cap3 ps3 _ (hr3.below c12) HL3.out).mono ?_
  rintro e w13 ⟨rfl, o13, b13⟩
  have c13 : Below w.heap.size w w13 := blink c12 b13
  have hs13 : w12.heap.size ≤ w13.heap.size := b13.size
  go_wp2_with fail
  refine (eqMatchS_eq _ _ ps3 _ (((((((o7).below b8).below b9).below b10).below b11).below b12).below b13).reads (o13).reads (HX3.out)).mono ?_
  rintro e w14 ⟨rfl, b14⟩
  have c14 : Below w.heap.size w w14 := blink c13 b14
  have hs14 : w13.heap.size ≤ w14.heap.size := b14.size
  go_wp2_with fail
  go_ret
  exact ⟨rfl, c14⟩
end Go.Proofs.YtgimpmdiilmkoaaDoor.fnExactCheckMatches
