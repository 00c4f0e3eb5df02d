/-
  The walk of FnExactSameNet: program and model answer the same at every argument; neither writes into its arguments, and what is answered lies in new memory.
-/
import Derived.Test.YtkcbhipgdajdkaaNtA
import Derived.Test.YtkcbhipgdajdkaaTScan
import Derived.Test.YtkcbhipgdajdkaaNtS
namespace Go.Proofs.Ytkcbhipgdajdkaa.fnExactSameNet
open Go Go.RowKit
set_option linter.unusedVariables false

set_option maxHeartbeats 16000000 in
set_option maxRecDepth 100000 in
theorem walk (st0 sy0 : Int) (a0 : Option Addr) (len0 cap0 : Nat) (ps0 : List Lan) (st1 sy1 : Int) (a1 : Option Addr) (len1 cap1 : Nat) (ps1 : List Lan) (w : World) (hh0 : (IsRowLa w a0 len0 cap0 ps0 ∧ FitsLa ps0) ∧ (-128 ≤ st0 ∧ st0 ≤ 127) ∧ (-32768 ≤ sy0 ∧ sy0 ≤ 32767)) (hh1 : (IsRowLa w a1 len1 cap1 ps1 ∧ FitsLa ps1) ∧ (-128 ≤ st1 ∧ st1 ≤ 127) ∧ (-32768 ≤ sy1 ∧ sy1 ≤ 32767)) :
    Calls Try.prog 4 #[.agg #[.int .i8 st0, .int .i16 sy0, .slice a0 len0 cap0], .agg #[.int .i8 st1, .int .i16 sy1, .slice a1 len1 cap1]] w fun e w' => e = .returned (.bool true) ∧ Below w.heap.size w w' := by
  obtain ⟨⟨hr0, hf0⟩, hst0, hsy0⟩ := hh0
  have HFQ0 := Lib.hid hf0
  have HST0 := Lib.hid hst0
  have HSY0 := Lib.hid hsy0
  have HN0 := Lib.hid hr0.len_ok
  clear hf0 hst0 hsy0
  obtain ⟨⟨hr1, hf1⟩, hst1, hsy1⟩ := hh1
  have HFQ1 := Lib.hid hf1
  have HST1 := Lib.hid hst1
  have HSY1 := Lib.hid hsy1
  have HN1 := Lib.hid hr1.len_ok
  clear hf1 hst1 hsy1
  by_cases hm0 : 0 ≤ 1048576 - (len0 : Int)
  rotate_left
  · have t0 : decide (1048576 - (len0 : Int) < 0) = true := decide_eq_true (by omega)
    go_enter Try.func4, Try.ntmps4
    go_wp2_with fail
    have b1 : Below w.heap.size w ((w.alloc (.cells #[.int .i8 st0, .int .i16 sy0, .slice a0 len0 cap0] 26)).alloc (.cells #[.int .i8 st1, .int .i16 sy1, .slice a1 len1 cap1] 26)) := (((Below.refl _ _).alloc (Nat.le_refl _) _).alloc (by simp) _)
    have BX0 : BlkA ((w.alloc (.cells #[.int .i8 st0, .int .i16 sy0, .slice a0 len0 cap0] 26)).alloc (.cells #[.int .i8 st1, .int .i16 sy1, .slice a1 len1 cap1] 26)) (w.heap.size) 26 #[.int .i8 st0, .int .i16 sy0, .slice a0 len0 cap0] := (BlkA.new rfl _ _).alloc _
    have BX1 : BlkA ((w.alloc (.cells #[.int .i8 st0, .int .i16 sy0, .slice a0 len0 cap0] 26)).alloc (.cells #[.int .i8 st1, .int .i16 sy1, .slice a1 len1 cap1] 26)) (w.heap.size + 1) 26 #[.int .i8 st1, .int .i16 sy1, .slice a1 len1 cap1] := (BlkA.new (by simp) _ _)
    generalize ((w.alloc (.cells #[.int .i8 st0, .int .i16 sy0, .slice a0 len0 cap0] 26)).alloc (.cells #[.int .i8 st1, .int .i16 sy1, .slice a1 len1 cap1] 26)) = w1 at b1 BX0 BX1 ⊢
    have c1 := b1
    have hs1 : w.heap.size ≤ w1.heap.size := b1.size
    have hb0 : w.heap.size < w1.heap.size := BX0.lt
    have hb1 : w.heap.size + 1 < w1.heap.size := BX1.lt
    have va0_0_1 : w1.cell? ⟨w.heap.size, 0, none⟩ = some (.int .i8 st0) := (BX0).at 0
    have va0_1_1 : w1.cell? ⟨w.heap.size, 1, none⟩ = some (.int .i16 sy0) := (BX0).at 1
    have va0_2_1 : w1.cell? ⟨w.heap.size, 2, none⟩ = some (.slice a0 len0 cap0) := (BX0).at 2
    have la0_1 : w.heap.size < w1.heap.size := (BX0).lt
    go_wp2_with fail
    refine (szNet_big st0 sy0 a0 len0 cap0 1048576 (by omega) (by omega) (by omega) HN0.out _).mono ?_
    rintro e w2 ⟨rfl, b2⟩
    have c2 : Below w.heap.size w w2 := blink c1 b2
    have hs2 : w1.heap.size ≤ w2.heap.size := b2.size
    go_wp2_with fail
    go_ret
    exact ⟨rfl, c2⟩
  have t0 : decide (1048576 - (len0 : Int) < 0) = false := decide_eq_false (by omega)
  by_cases hm1 : 0 ≤ (1048576 - (len0 : Int)) - (len1 : Int)
  rotate_left
  · have t1 : decide ((1048576 - (len0 : Int)) - (len1 : Int) < 0) = true := decide_eq_true (by omega)
    go_enter Try.func4, Try.ntmps4
    go_wp2_with fail
    have b1 : Below w.heap.size w ((w.alloc (.cells #[.int .i8 st0, .int .i16 sy0, .slice a0 len0 cap0] 26)).alloc (.cells #[.int .i8 st1, .int .i16 sy1, .slice a1 len1 cap1] 26)) := (((Below.refl _ _).alloc (Nat.le_refl _) _).alloc (by simp) _)
    have BX0 : BlkA ((w.alloc (.cells #[.int .i8 st0, .int .i16 sy0, .slice a0 len0 cap0] 26)).alloc (.cells #[.int .i8 st1, .int .i16 sy1, .slice a1 len1 cap1] 26)) (w.heap.size) 26 #[.int .i8 st0, .int .i16 sy0, .slice a0 len0 cap0] := (BlkA.new rfl _ _).alloc _
    have BX1 : BlkA ((w.alloc (.cells #[.int .i8 st0, .int .i16 sy0, .slice a0 len0 cap0] 26)).alloc (.cells #[.int .i8 st1, .int .i16 sy1, .slice a1 len1 cap1] 26)) (w.heap.size + 1) 26 #[.int .i8 st1, .int .i16 sy1, .slice a1 len1 cap1] := (BlkA.new (by simp) _ _)
    generalize ((w.alloc (.cells #[.int .i8 st0, .int .i16 sy0, .slice a0 len0 cap0] 26)).alloc (.cells #[.int .i8 st1, .int .i16 sy1, .slice a1 len1 cap1] 26)) = w1 at b1 BX0 BX1 ⊢
    have c1 := b1
    have hs1 : w.heap.size ≤ w1.heap.size := b1.size
    have hb0 : w.heap.size < w1.heap.size := BX0.lt
    have hb1 : w.heap.size + 1 < w1.heap.size := BX1.lt
    have va0_0_1 : w1.cell? ⟨w.heap.size, 0, none⟩ = some (.int .i8 st0) := (BX0).at 0
    have va0_1_1 : w1.cell? ⟨w.heap.size, 1, none⟩ = some (.int .i16 sy0) := (BX0).at 1
    have va0_2_1 : w1.cell? ⟨w.heap.size, 2, none⟩ = some (.slice a0 len0 cap0) := (BX0).at 2
    have la0_1 : w.heap.size < w1.heap.size := (BX0).lt
    go_wp2_with fail
    refine (szNet_fit st0 sy0 a0 len0 cap0 1048576 (by omega) (by omega) _).mono ?_
    rintro e w2 ⟨rfl, b2⟩
    have c2 : Below w.heap.size w w2 := blink c1 b2
    have hs2 : w1.heap.size ≤ w2.heap.size := b2.size
    have va1_0_2 : w2.cell? ⟨w.heap.size + 1, 0, none⟩ = some (.int .i8 st1) := ((BX1).below b2).at 0
    have va1_1_2 : w2.cell? ⟨w.heap.size + 1, 1, none⟩ = some (.int .i16 sy1) := ((BX1).below b2).at 1
    have va1_2_2 : w2.cell? ⟨w.heap.size + 1, 2, none⟩ = some (.slice a1 len1 cap1) := ((BX1).below b2).at 2
    have la1_2 : w.heap.size + 1 < w2.heap.size := ((BX1).below b2).lt
    go_wp2_with fail
    refine (szNet_big st1 sy1 a1 len1 cap1 (1048576 - (len0 : Int)) (by omega) (by omega) (by omega) HN1.out _).mono ?_
    rintro e w3 ⟨rfl, b3⟩
    have c3 : Below w.heap.size w w3 := blink c2 b3
    have hs3 : w2.heap.size ≤ w3.heap.size := b3.size
    go_wp2_with fail
    go_ret
    exact ⟨rfl, c3⟩
  have t1 : decide ((1048576 - (len0 : Int)) - (len1 : Int) < 0) = false := decide_eq_false (by omega)
  have hlq0 : ps0.length = len0 := hr0.len_eq
  have HX0 : Hid (ps0.length ≤ 1048576) := Lib.hid (by omega)
  have HL0 : Hid (len0 ≤ 1048576) := Lib.hid (by omega)
  have hxb0 : ps0.length ≤ 1048576 := HX0.out
  clear hlq0
  have HF0 : Hid (FitN st0 sy0 ps0) := Lib.hid ⟨HST0.out, HSY0.out, HFQ0.out, HX0.out⟩
  have hlq1 : ps1.length = len1 := hr1.len_eq
  have HX1 : Hid (ps1.length ≤ 1048576) := Lib.hid (by omega)
  have HL1 : Hid (len1 ≤ 1048576) := Lib.hid (by omega)
  have hxb1 : ps1.length ≤ 1048576 := HX1.out
  clear hlq1
  have HF1 : Hid (FitN st1 sy1 ps1) := Lib.hid ⟨HST1.out, HSY1.out, HFQ1.out, HX1.out⟩
  go_enter Try.func4, Try.ntmps4
  go_wp2_with fail
  have b1 : Below w.heap.size w ((w.alloc (.cells #[.int .i8 st0, .int .i16 sy0, .slice a0 len0 cap0] 26)).alloc (.cells #[.int .i8 st1, .int .i16 sy1, .slice a1 len1 cap1] 26)) := (((Below.refl _ _).alloc (Nat.le_refl _) _).alloc (by simp) _)
  have BX0 : BlkA ((w.alloc (.cells #[.int .i8 st0, .int .i16 sy0, .slice a0 len0 cap0] 26)).alloc (.cells #[.int .i8 st1, .int .i16 sy1, .slice a1 len1 cap1] 26)) (w.heap.size) 26 #[.int .i8 st0, .int .i16 sy0, .slice a0 len0 cap0] := (BlkA.new rfl _ _).alloc _
  have BX1 : BlkA ((w.alloc (.cells #[.int .i8 st0, .int .i16 sy0, .slice a0 len0 cap0] 26)).alloc (.cells #[.int .i8 st1, .int .i16 sy1, .slice a1 len1 cap1] 26)) (w.heap.size + 1) 26 #[.int .i8 st1, .int .i16 sy1, .slice a1 len1 cap1] := (BlkA.new (by simp) _ _)
  generalize ((w.alloc (.cells #[.int .i8 st0, .int .i16 sy0, .slice a0 len0 cap0] 26)).alloc (.cells #[.int .i8 st1, .int .i16 sy1, .slice a1 len1 cap1] 26)) = w1 at b1 BX0 BX1 ⊢
  have c1 := b1
  have hs1 : w.heap.size ≤ w1.heap.size := b1.size
  have hb0 : w.heap.size < w1.heap.size := BX0.lt
  have hb1 : w.heap.size + 1 < w1.heap.size := BX1.lt
  have va0_0_1 : w1.cell? ⟨w.heap.size, 0, none⟩ = some (.int .i8 st0) := (BX0).at 0
  have va0_1_1 : w1.cell? ⟨w.heap.size, 1, none⟩ = some (.int .i16 sy0) := (BX0).at 1
  have va0_2_1 : w1.cell? ⟨w.heap.size, 2, none⟩ = some (.slice a0 len0 cap0) := (BX0).at 2
  have la0_1 : w.heap.size < w1.heap.size := (BX0).lt
  go_wp2_with fail
  refine (szNet_fit st0 sy0 a0 len0 cap0 1048576 (by omega) (by omega) _).mono ?_
  rintro e w2 ⟨rfl, b2⟩
  have c2 : Below w.heap.size w w2 := blink c1 b2
  have hs2 : w1.heap.size ≤ w2.heap.size := b2.size
  have va1_0_2 : w2.cell? ⟨w.heap.size + 1, 0, none⟩ = some (.int .i8 st1) := ((BX1).below b2).at 0
  have va1_1_2 : w2.cell? ⟨w.heap.size + 1, 1, none⟩ = some (.int .i16 sy1) := ((BX1).below b2).at 1
  have va1_2_2 : w2.cell? ⟨w.heap.size + 1, 2, none⟩ = some (.slice a1 len1 cap1) := ((BX1).below b2).at 2
  have la1_2 : w.heap.size + 1 < w2.heap.size := ((BX1).below b2).lt
  go_wp2_with fail
  refine (szNet_fit st1 sy1 a1 len1 cap1 (1048576 - (len0 : Int)) (by omega) (by omega) _).mono ?_
  rintro e w3 ⟨rfl, b3⟩
  have c3 : Below w.heap.size w w3 := blink c2 b3
  have hs3 : w2.heap.size ≤ w3.heap.size := b3.size
  have CD3 : Below w.heap.size w w3.drew := Below.drew c3
  have BD3 : Below w3.heap.size w3 w3.drew := (Below.refl _ _).drew
  have SD3 : w3.drew.cell? ⟨w.heap.size, 0, none⟩ = some (.int .i8 st0) ∧ w3.drew.cell? ⟨w.heap.size, 1, none⟩ = some (.int .i16 sy0) ∧ w3.drew.cell? ⟨w.heap.size, 2, none⟩ = some (.slice a0 len0 cap0) ∧ w3.drew.cell? ⟨w.heap.size + 1, 0, none⟩ = some (.int .i8 st1) ∧ w3.drew.cell? ⟨w.heap.size + 1, 1, none⟩ = some (.int .i16 sy1) ∧ w3.drew.cell? ⟨w.heap.size + 1, 2, none⟩ = some (.slice a1 len1 cap1) := ⟨cbl BD3 ((((BX0).below b2).below b3).at 0), cbl BD3 ((((BX0).below b2).below b3).at 1), cbl BD3 ((((BX0).below b2).below b3).at 2), cbl BD3 ((((BX1).below b2).below b3).at 0), cbl BD3 ((((BX1).below b2).below b3).at 1), cbl BD3 ((((BX1).below b2).below b3).at 2)⟩
  go_wp2_with fail
  go_region_held3 (fun v => v.cell? ⟨w.heap.size, 0, none⟩ = some (.int .i8 st0) ∧ v.cell? ⟨w.heap.size, 1, none⟩ = some (.int .i16 sy0) ∧ v.cell? ⟨w.heap.size, 2, none⟩ = some (.slice a0 len0 cap0) ∧ v.cell? ⟨w.heap.size + 1, 0, none⟩ = some (.int .i8 st1) ∧ v.cell? ⟨w.heap.size + 1, 1, none⟩ = some (.int .i16 sy1) ∧ v.cell? ⟨w.heap.size + 1, 2, none⟩ = some (.slice a1 len1 cap1)) (first | exact zS6 | exact zS5 | exact zS4 | exact SD3) (first | (go_at_call 17; (with_reducible refine (toNet_any st0 sy0 a0 len0 cap0 ps0 _ (hr0.below CD3) HL0.out).mono ?_); rintro e w4 ⟨g4, rfl, o4, d4⟩; have b4 : Below w3.heap.size w3 w4 := BD3.trans (d4.mono (Nat.le_refl _)); have zS4 : w4.cell? ⟨w.heap.size, 0, none⟩ = some (.int .i8 st0) ∧ w4.cell? ⟨w.heap.size, 1, none⟩ = some (.int .i16 sy0) ∧ w4.cell? ⟨w.heap.size, 2, none⟩ = some (.slice a0 len0 cap0) ∧ w4.cell? ⟨w.heap.size + 1, 0, none⟩ = some (.int .i8 st1) ∧ w4.cell? ⟨w.heap.size + 1, 1, none⟩ = some (.int .i16 sy1) ∧ w4.cell? ⟨w.heap.size + 1, 2, none⟩ = some (.slice a1 len1 cap1) := ⟨cbl d4 SD3.1, cbl d4 SD3.2.1, cbl d4 SD3.2.2.1, cbl d4 SD3.2.2.2.1, cbl d4 SD3.2.2.2.2.1, cbl d4 SD3.2.2.2.2.2⟩) | (go_at_call 17; (with_reducible refine (toNet_any st1 sy1 a1 len1 cap1 ps1 _ (hr1.below (blink CD3 d4)) HL1.out).mono ?_); rintro e w5 ⟨g5, rfl, o5, b5⟩; have zS5 : w5.cell? ⟨w.heap.size, 0, none⟩ = some (.int .i8 st0) ∧ w5.cell? ⟨w.heap.size, 1, none⟩ = some (.int .i16 sy0) ∧ w5.cell? ⟨w.heap.size, 2, none⟩ = some (.slice a0 len0 cap0) ∧ w5.cell? ⟨w.heap.size + 1, 0, none⟩ = some (.int .i8 st1) ∧ w5.cell? ⟨w.heap.size + 1, 1, none⟩ = some (.int .i16 sy1) ∧ w5.cell? ⟨w.heap.size + 1, 2, none⟩ = some (.slice a1 len1 cap1) := ⟨cbl b5 zS4.1, cbl b5 zS4.2.1, cbl b5 zS4.2.2.1, cbl b5 zS4.2.2.2.1, cbl b5 zS4.2.2.2.2.1, cbl b5 zS4.2.2.2.2.2⟩) | (go_at_call 20; (with_reducible refine (ssmN_any _ _ _ _ _ _ ps0 ps1 _ (o4.below b5).reads o5.reads HX0.out HX1.out).mono ?_); rintro e w6 ⟨rfl, b6⟩; have zS6 : w6.cell? ⟨w.heap.size, 0, none⟩ = some (.int .i8 st0) ∧ w6.cell? ⟨w.heap.size, 1, none⟩ = some (.int .i16 sy0) ∧ w6.cell? ⟨w.heap.size, 2, none⟩ = some (.slice a0 len0 cap0) ∧ w6.cell? ⟨w.heap.size + 1, 0, none⟩ = some (.int .i8 st1) ∧ w6.cell? ⟨w.heap.size + 1, 1, none⟩ = some (.int .i16 sy1) ∧ w6.cell? ⟨w.heap.size + 1, 2, none⟩ = some (.slice a1 len1 cap1) := ⟨cbl b6 zS5.1, cbl b6 zS5.2.1, cbl b6 zS5.2.2.1, cbl b6 zS5.2.2.2.1, cbl b6 zS5.2.2.2.2.1, cbl b6 zS5.2.2.2.2.2⟩))
  have c4 : Below w.heap.size w w4 := blink c3 b4
  have hs4 : w3.heap.size ≤ w4.heap.size := b4.size
  have c5 : Below w.heap.size w w5 := blink c4 b5
  have hs5 : w4.heap.size ≤ w5.heap.size := b5.size
  have c6 : Below w.heap.size w w6 := blink c5 b6
  have hs6 : w5.heap.size ≤ w6.heap.size := b6.size
  clear zS4 zS5 zS6 SD3 CD3 BD3
  have va0_0_6 : w6.cell? ⟨w.heap.size, 0, none⟩ = some (.int .i8 st0) := ((((((BX0).below b2).below b3).below b4).below b5).below b6).at 0
  have va0_1_6 : w6.cell? ⟨w.heap.size, 1, none⟩ = some (.int .i16 sy0) := ((((((BX0).below b2).below b3).below b4).below b5).below b6).at 1
  have va0_2_6 : w6.cell? ⟨w.heap.size, 2, none⟩ = some (.slice a0 len0 cap0) := ((((((BX0).below b2).below b3).below b4).below b5).below b6).at 2
  have la0_6 : w.heap.size < w6.heap.size := ((((((BX0).below b2).below b3).below b4).below b5).below b6).lt
  go_wp2_with fail
  refine (toNet_any st0 sy0 a0 len0 cap0 ps0 _ (hr0.below c6) HL0.out).mono ?_
  rintro e w7 ⟨g7, rfl, o7, b7⟩
  have c7 : Below w.heap.size w w7 := blink c6 b7
  have hs7 : w6.heap.size ≤ w7.heap.size := b7.size
  have lo7 : Hid (∀ k, Value.ownBlock (.slice (some ⟨g7, 0, none⟩) len0 len0) = some k → w6.heap.size ≤ k ∧ k < w7.heap.size) := Lib.hid o7.block
  have va0_0_7 : w7.cell? ⟨w.heap.size, 0, none⟩ = some (.int .i8 st0) := (((((((BX0).below b2).below b3).below b4).below b5).below b6).below b7).at 0
  have va0_1_7 : w7.cell? ⟨w.heap.size, 1, none⟩ = some (.int .i16 sy0) := (((((((BX0).below b2).below b3).below b4).below b5).below b6).below b7).at 1
  have va0_2_7 : w7.cell? ⟨w.heap.size, 2, none⟩ = some (.slice a0 len0 cap0) := (((((((BX0).below b2).below b3).below b4).below b5).below b6).below b7).at 2
  have la0_7 : w.heap.size < w7.heap.size := (((((((BX0).below b2).below b3).below b4).below b5).below b6).below b7).lt
  have va1_0_7 : w7.cell? ⟨w.heap.size + 1, 0, none⟩ = some (.int .i8 st1) := (((((((BX1).below b2).below b3).below b4).below b5).below b6).below b7).at 0
  have va1_1_7 : w7.cell? ⟨w.heap.size + 1, 1, none⟩ = some (.int .i16 sy1) := (((((((BX1).below b2).below b3).below b4).below b5).below b6).below b7).at 1
  have va1_2_7 : w7.cell? ⟨w.heap.size + 1, 2, none⟩ = some (.slice a1 len1 cap1) := (((((((BX1).below b2).below b3).below b4).below b5).below b6).below b7).at 2
  have la1_7 : w.heap.size + 1 < w7.heap.size := (((((((BX1).below b2).below b3).below b4).below b5).below b6).below b7).lt
  go_wp2_with fail
  have b8 : Below w7.heap.size w7 (w7.alloc (.cells #[.int .i8 st0, .int .i16 sy0, .slice (some ⟨g7, 0, none⟩) len0 len0] 31)) := (Below.refl _ _).alloc (Nat.le_refl _) _
  have BY0 : BlkA (w7.alloc (.cells #[.int .i8 st0, .int .i16 sy0, .slice (some ⟨g7, 0, none⟩) len0 len0] 31)) w7.heap.size 31 #[.int .i8 st0, .int .i16 sy0, .slice (some ⟨g7, 0, none⟩) len0 len0] := BlkA.new rfl _ _
  generalize (w7.alloc (.cells #[.int .i8 st0, .int .i16 sy0, .slice (some ⟨g7, 0, none⟩) len0 len0] 31)) = w8 at b8 BY0 ⊢
  have c8 : Below w.heap.size w w8 := blink c7 b8
  have hs8 : w7.heap.size ≤ w8.heap.size := b8.size
  have hx0 : w7.heap.size < w8.heap.size := BY0.lt
  have va1_0_8 : w8.cell? ⟨w.heap.size + 1, 0, none⟩ = some (.int .i8 st1) := ((((((((BX1).below b2).below b3).below b4).below b5).below b6).below b7).below b8).at 0
  have va1_1_8 : w8.cell? ⟨w.heap.size + 1, 1, none⟩ = some (.int .i16 sy1) := ((((((((BX1).below b2).below b3).below b4).below b5).below b6).below b7).below b8).at 1
  have va1_2_8 : w8.cell? ⟨w.heap.size + 1, 2, none⟩ = some (.slice a1 len1 cap1) := ((((((((BX1).below b2).below b3).below b4).below b5).below b6).below b7).below b8).at 2
  have la1_8 : w.heap.size + 1 < w8.heap.size := ((((((((BX1).below b2).below b3).below b4).below b5).below b6).below b7).below b8).lt
  go_wp2_with fail
  refine (toNet_any st1 sy1 a1 len1 cap1 ps1 _ (hr1.below c8) HL1.out).mono ?_
  rintro e w9 ⟨g9, rfl, o9, b9⟩
  have c9 : Below w.heap.size w w9 := blink c8 b9
  have hs9 : w8.heap.size ≤ w9.heap.size := b9.size
  have lo9 : Hid (∀ k, Value.ownBlock (.slice (some ⟨g9, 0, none⟩) len1 len1) = some k → w8.heap.size ≤ k ∧ k < w9.heap.size) := Lib.hid o9.block
  have va0_0_9 : w9.cell? ⟨w.heap.size, 0, none⟩ = some (.int .i8 st0) := (((((((((BX0).below b2).below b3).below b4).below b5).below b6).below b7).below b8).below b9).at 0
  have va0_1_9 : w9.cell? ⟨w.heap.size, 1, none⟩ = some (.int .i16 sy0) := (((((((((BX0).below b2).below b3).below b4).below b5).below b6).below b7).below b8).below b9).at 1
  have va0_2_9 : w9.cell? ⟨w.heap.size, 2, none⟩ = some (.slice a0 len0 cap0) := (((((((((BX0).below b2).below b3).below b4).below b5).below b6).below b7).below b8).below b9).at 2
  have la0_9 : w.heap.size < w9.heap.size := (((((((((BX0).below b2).below b3).below b4).below b5).below b6).below b7).below b8).below b9).lt
  have va1_0_9 : w9.cell? ⟨w.heap.size + 1, 0, none⟩ = some (.int .i8 st1) := (((((((((BX1).below b2).below b3).below b4).below b5).below b6).below b7).below b8).below b9).at 0
  have va1_1_9 : w9.cell? ⟨w.heap.size + 1, 1, none⟩ = some (.int .i16 sy1) := (((((((((BX1).below b2).below b3).below b4).below b5).below b6).below b7).below b8).below b9).at 1
  have va1_2_9 : w9.cell? ⟨w.heap.size + 1, 2, none⟩ = some (.slice a1 len1 cap1) := (((((((((BX1).below b2).below b3).below b4).below b5).below b6).below b7).below b8).below b9).at 2
  have la1_9 : w.heap.size + 1 < w9.heap.size := (((((((((BX1).below b2).below b3).below b4).below b5).below b6).below b7).below b8).below b9).lt
  have vx0_0_9 : w9.cell? ⟨w7.heap.size, 0, none⟩ = some (.int .i8 st0) := ((BY0).below b9).at 0
  have vx0_1_9 : w9.cell? ⟨w7.heap.size, 1, none⟩ = some (.int .i16 sy0) := ((BY0).below b9).at 1
  have vx0_2_9 : w9.cell? ⟨w7.heap.size, 2, none⟩ = some (.slice (some ⟨g7, 0, none⟩) len0 len0) := ((BY0).below b9).at 2
  have lx0_9 : w7.heap.size < w9.heap.size := ((BY0).below b9).lt
  go_wp2_with fail
  have b10 : Below w9.heap.size w9 (w9.alloc (.cells #[.int .i8 st1, .int .i16 sy1, .slice (some ⟨g9, 0, none⟩) len1 len1] 31)) := (Below.refl _ _).alloc (Nat.le_refl _) _
  have BY1 : BlkA (w9.alloc (.cells #[.int .i8 st1, .int .i16 sy1, .slice (some ⟨g9, 0, none⟩) len1 len1] 31)) w9.heap.size 31 #[.int .i8 st1, .int .i16 sy1, .slice (some ⟨g9, 0, none⟩) len1 len1] := BlkA.new rfl _ _
  generalize (w9.alloc (.cells #[.int .i8 st1, .int .i16 sy1, .slice (some ⟨g9, 0, none⟩) len1 len1] 31)) = w10 at b10 BY1 ⊢
  have c10 : Below w.heap.size w w10 := blink c9 b10
  have hs10 : w9.heap.size ≤ w10.heap.size := b10.size
  have hx1 : w9.heap.size < w10.heap.size := BY1.lt
  have vx0_0_10 : w10.cell? ⟨w7.heap.size, 0, none⟩ = some (.int .i8 st0) := (((BY0).below b9).below b10).at 0
  have vx0_1_10 : w10.cell? ⟨w7.heap.size, 1, none⟩ = some (.int .i16 sy0) := (((BY0).below b9).below b10).at 1
  have vx0_2_10 : w10.cell? ⟨w7.heap.size, 2, none⟩ = some (.slice (some ⟨g7, 0, none⟩) len0 len0) := (((BY0).below b9).below b10).at 2
  have lx0_10 : w7.heap.size < w10.heap.size := (((BY0).below b9).below b10).lt
  have vx1_0_10 : w10.cell? ⟨w9.heap.size, 0, none⟩ = some (.int .i8 st1) := (BY1).at 0
  have vx1_1_10 : w10.cell? ⟨w9.heap.size, 1, none⟩ = some (.int .i16 sy1) := (BY1).at 1
  have vx1_2_10 : w10.cell? ⟨w9.heap.size, 2, none⟩ = some (.slice (some ⟨g9, 0, none⟩) len1 len1) := (BY1).at 2
  have lx1_10 : w9.heap.size < w10.heap.size := (BY1).lt
  go_wp2_with fail
  refine (ismN_any _ _ _ _ _ _ ps0 ps1 _ ((((o7).below b8).below b9).below b10).reads ((o9).below b10).reads HX0.out HX1.out).mono ?_
  rintro e w11 ⟨rfl, b11⟩
  have c11 : Below w.heap.size w w11 := blink c10 b11
  have hs11 : w10.heap.size ≤ w11.heap.size := b11.size
  have CD11 : Below w.heap.size w w11.drew := Below.drew c11
  have BD11 : Below w11.heap.size w11 w11.drew := (Below.refl _ _).drew
  have SD11 : w11.drew.cell? ⟨w.heap.size, 0, none⟩ = some (.int .i8 st0) ∧ w11.drew.cell? ⟨w.heap.size, 1, none⟩ = some (.int .i16 sy0) ∧ w11.drew.cell? ⟨w.heap.size, 2, none⟩ = some (.slice a0 len0 cap0) ∧ w11.drew.cell? ⟨w.heap.size + 1, 0, none⟩ = some (.int .i8 st1) ∧ w11.drew.cell? ⟨w.heap.size + 1, 1, none⟩ = some (.int .i16 sy1) ∧ w11.drew.cell? ⟨w.heap.size + 1, 2, none⟩ = some (.slice a1 len1 cap1) ∧ w11.drew.cell? ⟨w7.heap.size, 0, none⟩ = some (.int .i8 st0) ∧ w11.drew.cell? ⟨w7.heap.size, 1, none⟩ = some (.int .i16 sy0) ∧ w11.drew.cell? ⟨w7.heap.size, 2, none⟩ = some (.slice (some ⟨g7, 0, none⟩) len0 len0) ∧ w11.drew.cell? ⟨w9.heap.size, 0, none⟩ = some (.int .i8 st1) ∧ w11.drew.cell? ⟨w9.heap.size, 1, none⟩ = some (.int .i16 sy1) ∧ w11.drew.cell? ⟨w9.heap.size, 2, none⟩ = some (.slice (some ⟨g9, 0, none⟩) len1 len1) := ⟨cbl BD11 ((((((((((((BX0).below b2).below b3).below b4).below b5).below b6).below b7).below b8).below b9).below b10).below b11).at 0), cbl BD11 ((((((((((((BX0).below b2).below b3).below b4).below b5).below b6).below b7).below b8).below b9).below b10).below b11).at 1), cbl BD11 ((((((((((((BX0).below b2).below b3).below b4).below b5).below b6).below b7).below b8).below b9).below b10).below b11).at 2), cbl BD11 ((((((((((((BX1).below b2).below b3).below b4).below b5).below b6).below b7).below b8).below b9).below b10).below b11).at 0), cbl BD11 ((((((((((((BX1).below b2).below b3).below b4).below b5).below b6).below b7).below b8).below b9).below b10).below b11).at 1), cbl BD11 ((((((((((((BX1).below b2).below b3).below b4).below b5).below b6).below b7).below b8).below b9).below b10).below b11).at 2), cbl BD11 (((((BY0).below b9).below b10).below b11).at 0), cbl BD11 (((((BY0).below b9).below b10).below b11).at 1), cbl BD11 (((((BY0).below b9).below b10).below b11).at 2), cbl BD11 (((BY1).below b11).at 0), cbl BD11 (((BY1).below b11).at 1), cbl BD11 (((BY1).below b11).at 2)⟩
  go_wp2_with fail
  go_region_held3 (fun v => v.cell? ⟨w.heap.size, 0, none⟩ = some (.int .i8 st0) ∧ v.cell? ⟨w.heap.size, 1, none⟩ = some (.int .i16 sy0) ∧ v.cell? ⟨w.heap.size, 2, none⟩ = some (.slice a0 len0 cap0) ∧ v.cell? ⟨w.heap.size + 1, 0, none⟩ = some (.int .i8 st1) ∧ v.cell? ⟨w.heap.size + 1, 1, none⟩ = some (.int .i16 sy1) ∧ v.cell? ⟨w.heap.size + 1, 2, none⟩ = some (.slice a1 len1 cap1) ∧ v.cell? ⟨w7.heap.size, 0, none⟩ = some (.int .i8 st0) ∧ v.cell? ⟨w7.heap.size, 1, none⟩ = some (.int .i16 sy0) ∧ v.cell? ⟨w7.heap.size, 2, none⟩ = some (.slice (some ⟨g7, 0, none⟩) len0 len0) ∧ v.cell? ⟨w9.heap.size, 0, none⟩ = some (.int .i8 st1) ∧ v.cell? ⟨w9.heap.size, 1, none⟩ = some (.int .i16 sy1) ∧ v.cell? ⟨w9.heap.size, 2, none⟩ = some (.slice (some ⟨g9, 0, none⟩) len1 len1)) (first | exact zS13 | exact zS12 | exact SD11) (first | (go_at_call 17; (with_reducible refine (toNet_any st0 sy0 a0 len0 cap0 ps0 _ (hr0.below CD11) HL0.out).mono ?_); rintro e w12 ⟨g12, rfl, o12, d12⟩; have b12 : Below w11.heap.size w11 w12 := BD11.trans (d12.mono (Nat.le_refl _)); have zS12 : w12.cell? ⟨w.heap.size, 0, none⟩ = some (.int .i8 st0) ∧ w12.cell? ⟨w.heap.size, 1, none⟩ = some (.int .i16 sy0) ∧ w12.cell? ⟨w.heap.size, 2, none⟩ = some (.slice a0 len0 cap0) ∧ w12.cell? ⟨w.heap.size + 1, 0, none⟩ = some (.int .i8 st1) ∧ w12.cell? ⟨w.heap.size + 1, 1, none⟩ = some (.int .i16 sy1) ∧ w12.cell? ⟨w.heap.size + 1, 2, none⟩ = some (.slice a1 len1 cap1) ∧ w12.cell? ⟨w7.heap.size, 0, none⟩ = some (.int .i8 st0) ∧ w12.cell? ⟨w7.heap.size, 1, none⟩ = some (.int .i16 sy0) ∧ w12.cell? ⟨w7.heap.size, 2, none⟩ = some (.slice (some ⟨g7, 0, none⟩) len0 len0) ∧ w12.cell? ⟨w9.heap.size, 0, none⟩ = some (.int .i8 st1) ∧ w12.cell? ⟨w9.heap.size, 1, none⟩ = some (.int .i16 sy1) ∧ w12.cell? ⟨w9.heap.size, 2, none⟩ = some (.slice (some ⟨g9, 0, none⟩) len1 len1) := ⟨cbl d12 SD11.1, cbl d12 SD11.2.1, cbl d12 SD11.2.2.1, cbl d12 SD11.2.2.2.1, cbl d12 SD11.2.2.2.2.1, cbl d12 SD11.2.2.2.2.2.1, cbl d12 SD11.2.2.2.2.2.2.1, cbl d12 SD11.2.2.2.2.2.2.2.1, cbl d12 SD11.2.2.2.2.2.2.2.2.1, cbl d12 SD11.2.2.2.2.2.2.2.2.2.1, cbl d12 SD11.2.2.2.2.2.2.2.2.2.2.1, cbl d12 SD11.2.2.2.2.2.2.2.2.2.2.2⟩) | (go_at_call 19; (with_reducible refine (eqNet_eq st0 sy0 _ _ ps0 _ (((((((o7).below b8).below b9).below b10).below b11).below BD11).below d12).reads o12.reads HX0.out).mono ?_); rintro e w13 ⟨rfl, b13⟩; have zS13 : w13.cell? ⟨w.heap.size, 0, none⟩ = some (.int .i8 st0) ∧ w13.cell? ⟨w.heap.size, 1, none⟩ = some (.int .i16 sy0) ∧ w13.cell? ⟨w.heap.size, 2, none⟩ = some (.slice a0 len0 cap0) ∧ w13.cell? ⟨w.heap.size + 1, 0, none⟩ = some (.int .i8 st1) ∧ w13.cell? ⟨w.heap.size + 1, 1, none⟩ = some (.int .i16 sy1) ∧ w13.cell? ⟨w.heap.size + 1, 2, none⟩ = some (.slice a1 len1 cap1) ∧ w13.cell? ⟨w7.heap.size, 0, none⟩ = some (.int .i8 st0) ∧ w13.cell? ⟨w7.heap.size, 1, none⟩ = some (.int .i16 sy0) ∧ w13.cell? ⟨w7.heap.size, 2, none⟩ = some (.slice (some ⟨g7, 0, none⟩) len0 len0) ∧ w13.cell? ⟨w9.heap.size, 0, none⟩ = some (.int .i8 st1) ∧ w13.cell? ⟨w9.heap.size, 1, none⟩ = some (.int .i16 sy1) ∧ w13.cell? ⟨w9.heap.size, 2, none⟩ = some (.slice (some ⟨g9, 0, none⟩) len1 len1) := ⟨cbl b13 zS12.1, cbl b13 zS12.2.1, cbl b13 zS12.2.2.1, cbl b13 zS12.2.2.2.1, cbl b13 zS12.2.2.2.2.1, cbl b13 zS12.2.2.2.2.2.1, cbl b13 zS12.2.2.2.2.2.2.1, cbl b13 zS12.2.2.2.2.2.2.2.1, cbl b13 zS12.2.2.2.2.2.2.2.2.1, cbl b13 zS12.2.2.2.2.2.2.2.2.2.1, cbl b13 zS12.2.2.2.2.2.2.2.2.2.2.1, cbl b13 zS12.2.2.2.2.2.2.2.2.2.2.2⟩))
  have c12 : Below w.heap.size w w12 := blink c11 b12
  have hs12 : w11.heap.size ≤ w12.heap.size := b12.size
  have c13 : Below w.heap.size w w13 := blink c12 b13
  have hs13 : w12.heap.size ≤ w13.heap.size := b13.size
  clear zS12 zS13 SD11 CD11 BD11
  have CD13 : Below w.heap.size w w13.drew := Below.drew c13
  have BD13 : Below w13.heap.size w13 w13.drew := (Below.refl _ _).drew
  have SD13 : w13.drew.cell? ⟨w.heap.size, 0, none⟩ = some (.int .i8 st0) ∧ w13.drew.cell? ⟨w.heap.size, 1, none⟩ = some (.int .i16 sy0) ∧ w13.drew.cell? ⟨w.heap.size, 2, none⟩ = some (.slice a0 len0 cap0) ∧ w13.drew.cell? ⟨w.heap.size + 1, 0, none⟩ = some (.int .i8 st1) ∧ w13.drew.cell? ⟨w.heap.size + 1, 1, none⟩ = some (.int .i16 sy1) ∧ w13.drew.cell? ⟨w.heap.size + 1, 2, none⟩ = some (.slice a1 len1 cap1) ∧ w13.drew.cell? ⟨w7.heap.size, 0, none⟩ = some (.int .i8 st0) ∧ w13.drew.cell? ⟨w7.heap.size, 1, none⟩ = some (.int .i16 sy0) ∧ w13.drew.cell? ⟨w7.heap.size, 2, none⟩ = some (.slice (some ⟨g7, 0, none⟩) len0 len0) ∧ w13.drew.cell? ⟨w9.heap.size, 0, none⟩ = some (.int .i8 st1) ∧ w13.drew.cell? ⟨w9.heap.size, 1, none⟩ = some (.int .i16 sy1) ∧ w13.drew.cell? ⟨w9.heap.size, 2, none⟩ = some (.slice (some ⟨g9, 0, none⟩) len1 len1) := ⟨cbl BD13 ((((((((((((((BX0).below b2).below b3).below b4).below b5).below b6).below b7).below b8).below b9).below b10).below b11).below b12).below b13).at 0), cbl BD13 ((((((((((((((BX0).below b2).below b3).below b4).below b5).below b6).below b7).below b8).below b9).below b10).below b11).below b12).below b13).at 1), cbl BD13 ((((((((((((((BX0).below b2).below b3).below b4).below b5).below b6).below b7).below b8).below b9).below b10).below b11).below b12).below b13).at 2), cbl BD13 ((((((((((((((BX1).below b2).below b3).below b4).below b5).below b6).below b7).below b8).below b9).below b10).below b11).below b12).below b13).at 0), cbl BD13 ((((((((((((((BX1).below b2).below b3).below b4).below b5).below b6).below b7).below b8).below b9).below b10).below b11).below b12).below b13).at 1), cbl BD13 ((((((((((((((BX1).below b2).below b3).below b4).below b5).below b6).below b7).below b8).below b9).below b10).below b11).below b12).below b13).at 2), cbl BD13 (((((((BY0).below b9).below b10).below b11).below b12).below b13).at 0), cbl BD13 (((((((BY0).below b9).below b10).below b11).below b12).below b13).at 1), cbl BD13 (((((((BY0).below b9).below b10).below b11).below b12).below b13).at 2), cbl BD13 (((((BY1).below b11).below b12).below b13).at 0), cbl BD13 (((((BY1).below b11).below b12).below b13).at 1), cbl BD13 (((((BY1).below b11).below b12).below b13).at 2)⟩
  go_wp2_with fail
  go_region_held3 (fun v => v.cell? ⟨w.heap.size, 0, none⟩ = some (.int .i8 st0) ∧ v.cell? ⟨w.heap.size, 1, none⟩ = some (.int .i16 sy0) ∧ v.cell? ⟨w.heap.size, 2, none⟩ = some (.slice a0 len0 cap0) ∧ v.cell? ⟨w.heap.size + 1, 0, none⟩ = some (.int .i8 st1) ∧ v.cell? ⟨w.heap.size + 1, 1, none⟩ = some (.int .i16 sy1) ∧ v.cell? ⟨w.heap.size + 1, 2, none⟩ = some (.slice a1 len1 cap1) ∧ v.cell? ⟨w7.heap.size, 0, none⟩ = some (.int .i8 st0) ∧ v.cell? ⟨w7.heap.size, 1, none⟩ = some (.int .i16 sy0) ∧ v.cell? ⟨w7.heap.size, 2, none⟩ = some (.slice (some ⟨g7, 0, none⟩) len0 len0) ∧ v.cell? ⟨w9.heap.size, 0, none⟩ = some (.int .i8 st1) ∧ v.cell? ⟨w9.heap.size, 1, none⟩ = some (.int .i16 sy1) ∧ v.cell? ⟨w9.heap.size, 2, none⟩ = some (.slice (some ⟨g9, 0, none⟩) len1 len1)) (first | exact zS15 | exact zS14 | exact SD13) (first | (go_at_call 17; (with_reducible refine (toNet_any st1 sy1 a1 len1 cap1 ps1 _ (hr1.below CD13) HL1.out).mono ?_); rintro e w14 ⟨g14, rfl, o14, d14⟩; have b14 : Below w13.heap.size w13 w14 := BD13.trans (d14.mono (Nat.le_refl _)); have zS14 : w14.cell? ⟨w.heap.size, 0, none⟩ = some (.int .i8 st0) ∧ w14.cell? ⟨w.heap.size, 1, none⟩ = some (.int .i16 sy0) ∧ w14.cell? ⟨w.heap.size, 2, none⟩ = some (.slice a0 len0 cap0) ∧ w14.cell? ⟨w.heap.size + 1, 0, none⟩ = some (.int .i8 st1) ∧ w14.cell? ⟨w.heap.size + 1, 1, none⟩ = some (.int .i16 sy1) ∧ w14.cell? ⟨w.heap.size + 1, 2, none⟩ = some (.slice a1 len1 cap1) ∧ w14.cell? ⟨w7.heap.size, 0, none⟩ = some (.int .i8 st0) ∧ w14.cell? ⟨w7.heap.size, 1, none⟩ = some (.int .i16 sy0) ∧ w14.cell? ⟨w7.heap.size, 2, none⟩ = some (.slice (some ⟨g7, 0, none⟩) len0 len0) ∧ w14.cell? ⟨w9.heap.size, 0, none⟩ = some (.int .i8 st1) ∧ w14.cell? ⟨w9.heap.size, 1, none⟩ = some (.int .i16 sy1) ∧ w14.cell? ⟨w9.heap.size, 2, none⟩ = some (.slice (some ⟨g9, 0, none⟩) len1 len1) := ⟨cbl d14 SD13.1, cbl d14 SD13.2.1, cbl d14 SD13.2.2.1, cbl d14 SD13.2.2.2.1, cbl d14 SD13.2.2.2.2.1, cbl d14 SD13.2.2.2.2.2.1, cbl d14 SD13.2.2.2.2.2.2.1, cbl d14 SD13.2.2.2.2.2.2.2.1, cbl d14 SD13.2.2.2.2.2.2.2.2.1, cbl d14 SD13.2.2.2.2.2.2.2.2.2.1, cbl d14 SD13.2.2.2.2.2.2.2.2.2.2.1, cbl d14 SD13.2.2.2.2.2.2.2.2.2.2.2⟩) | (go_at_call 19; (with_reducible refine (eqNet_eq st1 sy1 _ _ ps1 _ (((((((o9).below b10).below b11).below b12).below b13).below BD13).below d14).reads o14.reads HX1.out).mono ?_); rintro e w15 ⟨rfl, b15⟩; have zS15 : w15.cell? ⟨w.heap.size, 0, none⟩ = some (.int .i8 st0) ∧ w15.cell? ⟨w.heap.size, 1, none⟩ = some (.int .i16 sy0) ∧ w15.cell? ⟨w.heap.size, 2, none⟩ = some (.slice a0 len0 cap0) ∧ w15.cell? ⟨w.heap.size + 1, 0, none⟩ = some (.int .i8 st1) ∧ w15.cell? ⟨w.heap.size + 1, 1, none⟩ = some (.int .i16 sy1) ∧ w15.cell? ⟨w.heap.size + 1, 2, none⟩ = some (.slice a1 len1 cap1) ∧ w15.cell? ⟨w7.heap.size, 0, none⟩ = some (.int .i8 st0) ∧ w15.cell? ⟨w7.heap.size, 1, none⟩ = some (.int .i16 sy0) ∧ w15.cell? ⟨w7.heap.size, 2, none⟩ = some (.slice (some ⟨g7, 0, none⟩) len0 len0) ∧ w15.cell? ⟨w9.heap.size, 0, none⟩ = some (.int .i8 st1) ∧ w15.cell? ⟨w9.heap.size, 1, none⟩ = some (.int .i16 sy1) ∧ w15.cell? ⟨w9.heap.size, 2, none⟩ = some (.slice (some ⟨g9, 0, none⟩) len1 len1) := ⟨cbl b15 zS14.1, cbl b15 zS14.2.1, cbl b15 zS14.2.2.1, cbl b15 zS14.2.2.2.1, cbl b15 zS14.2.2.2.2.1, cbl b15 zS14.2.2.2.2.2.1, cbl b15 zS14.2.2.2.2.2.2.1, cbl b15 zS14.2.2.2.2.2.2.2.1, cbl b15 zS14.2.2.2.2.2.2.2.2.1, cbl b15 zS14.2.2.2.2.2.2.2.2.2.1, cbl b15 zS14.2.2.2.2.2.2.2.2.2.2.1, cbl b15 zS14.2.2.2.2.2.2.2.2.2.2.2⟩))
  have c14 : Below w.heap.size w w14 := blink c13 b14
  have hs14 : w13.heap.size ≤ w14.heap.size := b14.size
  have c15 : Below w.heap.size w w15 := blink c14 b15
  have hs15 : w14.heap.size ≤ w15.heap.size := b15.size
  clear zS14 zS15 SD13 CD13 BD13
  go_wp2_with fail
  go_ret
  exact ⟨rfl, c15⟩
end Go.Proofs.Ytkcbhipgdajdkaa.fnExactSameNet
