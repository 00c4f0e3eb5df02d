/-
  The walk of FnExactDutyOfLine: program and model answer the same at every argument; neither writes into its arguments.
-/
import Derived.Test.YtfobepfjcphblaaTClass
import Derived.Test.YtfobepfjcphblaaEClass
import Derived.Test.YtfobepfjcphblaaTLine
import Derived.Test.YtfobepfjcphblaaBlk
import Derived.Test.YtfobepfjcphblaaCuG
import Derived.Deep.RegionHeld3
namespace Go.Proofs.Ytfobepfjcphblaa.fnExactDutyOfLine
open Go Go.RowKit
set_option linter.unusedVariables false

set_option maxHeartbeats 4000000 in
set_option maxRecDepth 100000 in
theorem walk (a0 : Option Addr) (len0 cap0 : Nat) (ps0 : List (Int × Int × Int × Int)) (x10 x11 x12 x13 : Int) (a2 : Int) (w : World) (hh0 : IsRowC w a0 len0 cap0 ps0 ∧ FitsC ps0) (hv1 : FitL (x10, x11, x12, x13)) (hw2 : (Lit.int .i64 a2).wf = true) :
    Calls Try.prog 9 #[.slice a0 len0 cap0, .agg #[.int .i8 x10, .int .i16 x11, .int .i32 x12, .int .i32 x13], .int .i64 a2] w fun e w' => e = .returned (.bool true) ∧ Below w.heap.size w w' := by
  obtain ⟨hr0, hf0⟩ := hh0
  have HF0 := Lib.hid hf0
  have HN0 := Lib.hid hr0.len_ok
  have HV1 := Lib.hid hv1
  clear hf0 hv1
  obtain ⟨W1, hW1⟩ : ∃ W, w.alloc (.cells #[.int .i8 x10, .int .i16 x11, .int .i32 x12, .int .i32 x13] 44) = W := ⟨_, rfl⟩
  have B1 : BlkA W1 w.heap.size 44 #[.int .i8 x10, .int .i16 x11, .int .i32 x12, .int .i32 x13] := by rw [← hW1]; exact BlkA.new rfl _ _
  have K1 : Below w.heap.size w W1 := by rw [← hW1]; exact (Below.refl _ _).alloc (Nat.le_refl _) _
  have HW1 := Lib.hid hW1
  clear hW1
  by_cases hm0 : 0 ≤ 1048576 - (len0 : Int)
  rotate_left
  · have t0 : decide (1048576 - (len0 : Int) < 0) = true := decide_eq_true (by omega)
    go_enter Try.func9, Try.ntmps9
    go_wp2_with fail
    rw [HW1.out]
    refine (szClassS_big a0 len0 cap0 1048576 (by omega) (by omega) (by omega) HN0.out _).mono ?_
    rintro e we ⟨rfl, rfl⟩
    go_wp2_with fail
    go_ret
    exact ⟨rfl, K1⟩
  have t0 : decide (1048576 - (len0 : Int) < 0) = false := decide_eq_false (by omega)
  have hlq0 : ps0.length = len0 := hr0.len_eq
  have HX0 : Hid (ps0.length ≤ 1048576) := Lib.hid (by omega)
  have HL0 : Hid (len0 ≤ 1048576) := Lib.hid (by omega)
  clear hlq0
  have C1 := B1.drew
  have KD : Below w.heap.size w W1.drew := K1.drew
  have SD : W1.drew.cell? ⟨w.heap.size, 0, none⟩ = some (.int .i8 x10) ∧ W1.drew.cell? ⟨w.heap.size, 1, none⟩ = some (.int .i16 x11) ∧ W1.drew.cell? ⟨w.heap.size, 2, none⟩ = some (.int .i32 x12) ∧ W1.drew.cell? ⟨w.heap.size, 3, none⟩ = some (.int .i32 x13) := ⟨C1.at 0, C1.at 1, C1.at 2, C1.at 3⟩
  go_enter Try.func9, Try.ntmps9
  go_wp2_with fail
  rw [HW1.out]
  refine (szClassS_fit a0 len0 cap0 1048576 (by omega) (by omega) _).mono ?_
  rintro e we ⟨rfl, rfl⟩
  go_wp2_with fail
  go_region_held3 (fun u => u.cell? ⟨w.heap.size, 0, none⟩ = some (.int .i8 x10) ∧ u.cell? ⟨w.heap.size, 1, none⟩ = some (.int .i16 x11) ∧ u.cell? ⟨w.heap.size, 2, none⟩ = some (.int .i32 x12) ∧ u.cell? ⟨w.heap.size, 3, none⟩ = some (.int .i32 x13)) (first | (with_reducible exact SD) | (with_reducible exact zS4) | (with_reducible exact zS3) | (with_reducible exact zS2)) (first | (go_at_call 17; refine (toClassS_any a0 len0 cap0 ps0 _ (hr0.below KD) HL0.out).mono ?_; rintro e w2 ⟨rfl, o2, b2⟩; have B2 := C1.below b2; have zS2 : w2.cell? ⟨w.heap.size, 0, none⟩ = some (.int .i8 x10) ∧ w2.cell? ⟨w.heap.size, 1, none⟩ = some (.int .i16 x11) ∧ w2.cell? ⟨w.heap.size, 2, none⟩ = some (.int .i32 x12) ∧ w2.cell? ⟨w.heap.size, 3, none⟩ = some (.int .i32 x13) := ⟨B2.at 0, B2.at 1, B2.at 2, B2.at 3⟩; have K2 := blink KD b2) | (go_at_call 34; refine (toLine_one x10 x11 x12 x13 _).mono ?_; rintro e w3 ⟨rfl, b3⟩; have B3 := B2.below b3; have zS3 : w3.cell? ⟨w.heap.size, 0, none⟩ = some (.int .i8 x10) ∧ w3.cell? ⟨w.heap.size, 1, none⟩ = some (.int .i16 x11) ∧ w3.cell? ⟨w.heap.size, 2, none⟩ = some (.int .i32 x12) ∧ w3.cell? ⟨w.heap.size, 3, none⟩ = some (.int .i32 x13) := ⟨B3.at 0, B3.at 1, B3.at 2, B3.at 3⟩; have K3 := blink K2 b3) | (go_at_call 33; refine (sdutyLine_any _ ps0 x10 x11 x12 x13 a2 _ (o2.below b3).reads HF0.out HV1.out HX0.out).mono ?_; rintro e w4 ⟨rfl, b4⟩; have B4 := B3.below b4; have zS4 : w4.cell? ⟨w.heap.size, 0, none⟩ = some (.int .i8 x10) ∧ w4.cell? ⟨w.heap.size, 1, none⟩ = some (.int .i16 x11) ∧ w4.cell? ⟨w.heap.size, 2, none⟩ = some (.int .i32 x12) ∧ w4.cell? ⟨w.heap.size, 3, none⟩ = some (.int .i32 x13) := ⟨B4.at 0, B4.at 1, B4.at 2, B4.at 3⟩; have K4 := blink K3 b4))
  clear zS2 zS3 zS4 SD
  go_wp2_with fail
  refine (toClassS_any a0 len0 cap0 ps0 _ (hr0.below K4) HL0.out).mono ?_
  rintro e w5 ⟨rfl, o5, b5⟩
  have K5 := blink K4 b5
  have B5 := B4.below b5
  have g0 : w5.cell? ⟨w.heap.size, 0, none⟩ = some (.int .i8 x10) := B5.at 0
  have g1 : w5.cell? ⟨w.heap.size, 1, none⟩ = some (.int .i16 x11) := B5.at 1
  have g2 : w5.cell? ⟨w.heap.size, 2, none⟩ = some (.int .i32 x12) := B5.at 2
  have g3 : w5.cell? ⟨w.heap.size, 3, none⟩ = some (.int .i32 x13) := B5.at 3
  have HO5 := Lib.hid o5
  go_wp2_with fail
  refine (toLine_one x10 x11 x12 x13 _).mono ?_
  rintro e w6 ⟨rfl, b6⟩
  have K6 := blink K5 b6
  go_wp2_with fail
  refine (idutyLine_any _ ps0 x10 x11 x12 x13 a2 _ (HO5.out.below b6).reads HF0.out HV1.out HX0.out).mono ?_
  rintro e w7 ⟨rfl, b7⟩
  have K7 := blink K6 b7
  go_wp2_with fail
  refine (toClassS_any a0 len0 cap0 ps0 _ (hr0.below K7) HL0.out).mono ?_
  rintro e w8 ⟨rfl, o8, b8⟩
  have K8 := blink K7 b8
  go_wp2_with fail
  refine (eqClassS_eq _ _ ps0 _ (((HO5.out.below b6).below b7).below b8).reads o8.reads HX0.out).mono ?_
  rintro e w9 ⟨rfl, b9⟩
  have K9 := blink K8 b9
  go_wp2_with fail
  go_ret
  exact ⟨rfl, K9⟩
end Go.Proofs.Ytfobepfjcphblaa.fnExactDutyOfLine
