/-
  The walk of FnExactArrivalsAt: program and model answer the same at every argument; neither writes into its arguments, and what is answered lies in new memory.
-/
import Derived.Test.YtkcbhipgdajdkaaNtA
import Derived.Test.YtkcbhipgdajdkaaTScan
import Derived.Test.YtkcbhipgdajdkaaToI
import Derived.Test.YtkcbhipgdajdkaaKeepO
import Derived.Test.YtkcbhipgdajdkaaAvS
import Derived.Test.YtkcbhipgdajdkaaAvI
namespace Go.Proofs.Ytkcbhipgdajdkaa.fnExactArrivalsAt
open Go Go.RowKit
set_option linter.unusedVariables false

set_option maxHeartbeats 16000000 in
set_option maxRecDepth 100000 in
theorem walk (st0 sy0 : Int) (a0 : Option Addr) (len0 cap0 : Nat) (ps0 : List Lan) (x10 x11 : Int) (a2 : Int) (w : World) (hh0 : (IsRowLa w a0 len0 cap0 ps0 ∧ FitsLa ps0) ∧ (-128 ≤ st0 ∧ st0 ≤ 127) ∧ (-32768 ≤ sy0 ∧ sy0 ≤ 32767)) (hv1 : FitSc (x10, x11)) (hw2 : (Lit.int .i64 a2).wf = true) :
    Calls Try.prog 8 #[.agg #[.int .i8 st0, .int .i16 sy0, .slice a0 len0 cap0], .agg #[.int .i8 x10, .int .i16 x11], .int .i64 a2] w fun e w' => e = .returned (.bool true) ∧ Below w.heap.size w w' := by
  obtain ⟨⟨hr0, hf0⟩, hst0, hsy0⟩ := hh0
  have HFQ0 := Lib.hid hf0
  have HST0 := Lib.hid hst0
  have HSY0 := Lib.hid hsy0
  have HN0 := Lib.hid hr0.len_ok
  clear hf0 hst0 hsy0
  have HV1 := Lib.hid hv1
  clear hv1
  by_cases hm0 : 0 ≤ 1048576 - (len0 : Int)
  rotate_left
  · have t0 : decide (1048576 - (len0 : Int) < 0) = true := decide_eq_true (by omega)
    go_enter Try.func8, Try.ntmps8
    go_wp2_with fail
    have b1 : Below w.heap.size w ((w.alloc (.cells #[.int .i8 st0, .int .i16 sy0, .slice a0 len0 cap0] 26)).alloc (.cells #[.int .i8 x10, .int .i16 x11] 44)) := (((Below.refl _ _).alloc (Nat.le_refl _) _).alloc (by simp) _)
    have BX0 : BlkA ((w.alloc (.cells #[.int .i8 st0, .int .i16 sy0, .slice a0 len0 cap0] 26)).alloc (.cells #[.int .i8 x10, .int .i16 x11] 44)) (w.heap.size) 26 #[.int .i8 st0, .int .i16 sy0, .slice a0 len0 cap0] := ((BlkA.new rfl _ _).alloc _)
    have BX1 : BlkA ((w.alloc (.cells #[.int .i8 st0, .int .i16 sy0, .slice a0 len0 cap0] 26)).alloc (.cells #[.int .i8 x10, .int .i16 x11] 44)) (w.heap.size + 1) 44 #[.int .i8 x10, .int .i16 x11] := (BlkA.new (by simp) _ _)
    generalize ((w.alloc (.cells #[.int .i8 st0, .int .i16 sy0, .slice a0 len0 cap0] 26)).alloc (.cells #[.int .i8 x10, .int .i16 x11] 44)) = w1 at b1 BX0 BX1 ⊢
    have c1 := b1
    have hs1 : w.heap.size ≤ w1.heap.size := b1.size
    have hb0 : w.heap.size < w1.heap.size := BX0.lt
    have hb1 : w.heap.size + 1 < w1.heap.size := BX1.lt
    have va0_0_1 : w1.cell? ⟨w.heap.size, 0, none⟩ = some (.int .i8 st0) := (BX0).at 0
    have va0_1_1 : w1.cell? ⟨w.heap.size, 1, none⟩ = some (.int .i16 sy0) := (BX0).at 1
    have va0_2_1 : w1.cell? ⟨w.heap.size, 2, none⟩ = some (.slice a0 len0 cap0) := (BX0).at 2
    have la0_1 : w.heap.size < w1.heap.size := (BX0).lt
    go_wp2_with fail
    refine (szNet_big st0 sy0 a0 len0 cap0 1048576 (by omega) (by omega) (by omega) HN0.out _).mono ?_
    rintro e w2 ⟨rfl, b2⟩
    have c2 : Below w.heap.size w w2 := blink c1 b2
    have hs2 : w1.heap.size ≤ w2.heap.size := b2.size
    go_wp2_with fail
    go_ret
    exact ⟨rfl, c2⟩
  have t0 : decide (1048576 - (len0 : Int) < 0) = false := decide_eq_false (by omega)
  have hlq0 : ps0.length = len0 := hr0.len_eq
  have HX0 : Hid (ps0.length ≤ 1048576) := Lib.hid (by omega)
  have HL0 : Hid (len0 ≤ 1048576) := Lib.hid (by omega)
  have hxb0 : ps0.length ≤ 1048576 := HX0.out
  clear hlq0
  have HF0 : Hid (FitN st0 sy0 ps0) := Lib.hid ⟨HST0.out, HSY0.out, HFQ0.out, HX0.out⟩
  have hlb0 := aaR_len st0 sy0 ps0 x10 x11 a2
  have HLB0 : Hid ((aaR st0 sy0 ps0 x10 x11 a2).length ≤ 1048576) := Lib.hid (by omega)
  go_enter Try.func8, Try.ntmps8
  go_wp2_with fail
  have b1 : Below w.heap.size w ((w.alloc (.cells #[.int .i8 st0, .int .i16 sy0, .slice a0 len0 cap0] 26)).alloc (.cells #[.int .i8 x10, .int .i16 x11] 44)) := (((Below.refl _ _).alloc (Nat.le_refl _) _).alloc (by simp) _)
  have BX0 : BlkA ((w.alloc (.cells #[.int .i8 st0, .int .i16 sy0, .slice a0 len0 cap0] 26)).alloc (.cells #[.int .i8 x10, .int .i16 x11] 44)) (w.heap.size) 26 #[.int .i8 st0, .int .i16 sy0, .slice a0 len0 cap0] := ((BlkA.new rfl _ _).alloc _)
  have BX1 : BlkA ((w.alloc (.cells #[.int .i8 st0, .int .i16 sy0, .slice a0 len0 cap0] 26)).alloc (.cells #[.int .i8 x10, .int .i16 x11] 44)) (w.heap.size + 1) 44 #[.int .i8 x10, .int .i16 x11] := (BlkA.new (by simp) _ _)
  generalize ((w.alloc (.cells #[.int .i8 st0, .int .i16 sy0, .slice a0 len0 cap0] 26)).alloc (.cells #[.int .i8 x10, .int .i16 x11] 44)) = w1 at b1 BX0 BX1 ⊢
  have c1 := b1
  have hs1 : w.heap.size ≤ w1.heap.size := b1.size
  have hb0 : w.heap.size < w1.heap.size := BX0.lt
  have hb1 : w.heap.size + 1 < w1.heap.size := BX1.lt
  have va0_0_1 : w1.cell? ⟨w.heap.size, 0, none⟩ = some (.int .i8 st0) := (BX0).at 0
  have va0_1_1 : w1.cell? ⟨w.heap.size, 1, none⟩ = some (.int .i16 sy0) := (BX0).at 1
  have va0_2_1 : w1.cell? ⟨w.heap.size, 2, none⟩ = some (.slice a0 len0 cap0) := (BX0).at 2
  have la0_1 : w.heap.size < w1.heap.size := (BX0).lt
  go_wp2_with fail
  refine (szNet_fit st0 sy0 a0 len0 cap0 1048576 (by omega) (by omega) _).mono ?_
  rintro e w2 ⟨rfl, b2⟩
  have c2 : Below w.heap.size w w2 := blink c1 b2
  have hs2 : w1.heap.size ≤ w2.heap.size := b2.size
  have CD2 : Below w.heap.size w w2.drew := Below.drew c2
  have BD2 : Below w2.heap.size w2 w2.drew := (Below.refl _ _).drew
  have SD2 : w2.drew.cell? ⟨w.heap.size, 0, none⟩ = some (.int .i8 st0) ∧ w2.drew.cell? ⟨w.heap.size, 1, none⟩ = some (.int .i16 sy0) ∧ w2.drew.cell? ⟨w.heap.size, 2, none⟩ = some (.slice a0 len0 cap0) ∧ w2.drew.cell? ⟨w.heap.size + 1, 0, none⟩ = some (.int .i8 x10) ∧ w2.drew.cell? ⟨w.heap.size + 1, 1, none⟩ = some (.int .i16 x11) := ⟨cbl BD2 (((BX0).below b2).at 0), cbl BD2 (((BX0).below b2).at 1), cbl BD2 (((BX0).below b2).at 2), cbl BD2 (((BX1).below b2).at 0), cbl BD2 (((BX1).below b2).at 1)⟩
  go_wp2_with fail
  go_region_held3 (fun v => v.cell? ⟨w.heap.size, 0, none⟩ = some (.int .i8 st0) ∧ v.cell? ⟨w.heap.size, 1, none⟩ = some (.int .i16 sy0) ∧ v.cell? ⟨w.heap.size, 2, none⟩ = some (.slice a0 len0 cap0) ∧ v.cell? ⟨w.heap.size + 1, 0, none⟩ = some (.int .i8 x10) ∧ v.cell? ⟨w.heap.size + 1, 1, none⟩ = some (.int .i16 x11)) (first | exact zS5 | exact zS4 | exact zS3 | exact SD2) (first | (go_at_call 17; (with_reducible refine (toNet_any st0 sy0 a0 len0 cap0 ps0 _ (hr0.below CD2) HL0.out).mono ?_); rintro e w3 ⟨g3, rfl, o3, d3⟩; have b3 : Below w2.heap.size w2 w3 := BD2.trans (d3.mono (Nat.le_refl _)); have zS3 : w3.cell? ⟨w.heap.size, 0, none⟩ = some (.int .i8 st0) ∧ w3.cell? ⟨w.heap.size, 1, none⟩ = some (.int .i16 sy0) ∧ w3.cell? ⟨w.heap.size, 2, none⟩ = some (.slice a0 len0 cap0) ∧ w3.cell? ⟨w.heap.size + 1, 0, none⟩ = some (.int .i8 x10) ∧ w3.cell? ⟨w.heap.size + 1, 1, none⟩ = some (.int .i16 x11) := ⟨cbl d3 SD2.1, cbl d3 SD2.2.1, cbl d3 SD2.2.2.1, cbl d3 SD2.2.2.2.1, cbl d3 SD2.2.2.2.2⟩) | (go_at_call 29; (with_reducible refine (toScan_one x10 x11 _).mono ?_); rintro e w4 ⟨rfl, b4⟩; have zS4 : w4.cell? ⟨w.heap.size, 0, none⟩ = some (.int .i8 st0) ∧ w4.cell? ⟨w.heap.size, 1, none⟩ = some (.int .i16 sy0) ∧ w4.cell? ⟨w.heap.size, 2, none⟩ = some (.slice a0 len0 cap0) ∧ w4.cell? ⟨w.heap.size + 1, 0, none⟩ = some (.int .i8 x10) ∧ w4.cell? ⟨w.heap.size + 1, 1, none⟩ = some (.int .i16 x11) := ⟨cbl b4 zS3.1, cbl b4 zS3.2.1, cbl b4 zS3.2.2.1, cbl b4 zS3.2.2.2.1, cbl b4 zS3.2.2.2.2⟩) | (go_at_call 37; (with_reducible refine (saa_any _ _ _ ps0 _ _ a2 _ HF0.out HV1.out (o3.below b4).reads).mono ?_); rintro e w5 ⟨sv0, rfl, so0, b5⟩; have zS5 : w5.cell? ⟨w.heap.size, 0, none⟩ = some (.int .i8 st0) ∧ w5.cell? ⟨w.heap.size, 1, none⟩ = some (.int .i16 sy0) ∧ w5.cell? ⟨w.heap.size, 2, none⟩ = some (.slice a0 len0 cap0) ∧ w5.cell? ⟨w.heap.size + 1, 0, none⟩ = some (.int .i8 x10) ∧ w5.cell? ⟨w.heap.size + 1, 1, none⟩ = some (.int .i16 x11) := ⟨cbl b5 zS4.1, cbl b5 zS4.2.1, cbl b5 zS4.2.2.1, cbl b5 zS4.2.2.2.1, cbl b5 zS4.2.2.2.2⟩))
  have c3 : Below w.heap.size w w3 := blink c2 b3
  have hs3 : w2.heap.size ≤ w3.heap.size := b3.size
  have c4 : Below w.heap.size w w4 := blink c3 b4
  have hs4 : w3.heap.size ≤ w4.heap.size := b4.size
  have c5 : Below w.heap.size w w5 := blink c4 b5
  have hs5 : w4.heap.size ≤ w5.heap.size := b5.size
  clear zS3 zS4 zS5 SD2 CD2 BD2
  have lso0 : Hid (∀ k, Value.ownBlock sv0 = some k → w4.heap.size ≤ k ∧ k < w5.heap.size) := Lib.hid so0.block
  have va0_0_5 : w5.cell? ⟨w.heap.size, 0, none⟩ = some (.int .i8 st0) := (((((BX0).below b2).below b3).below b4).below b5).at 0
  have va0_1_5 : w5.cell? ⟨w.heap.size, 1, none⟩ = some (.int .i16 sy0) := (((((BX0).below b2).below b3).below b4).below b5).at 1
  have va0_2_5 : w5.cell? ⟨w.heap.size, 2, none⟩ = some (.slice a0 len0 cap0) := (((((BX0).below b2).below b3).below b4).below b5).at 2
  have la0_5 : w.heap.size < w5.heap.size := (((((BX0).below b2).below b3).below b4).below b5).lt
  go_wp2_with fail
  refine (toNet_any st0 sy0 a0 len0 cap0 ps0 _ (hr0.below c5) HL0.out).mono ?_
  rintro e w6 ⟨g6, rfl, o6, b6⟩
  have c6 : Below w.heap.size w w6 := blink c5 b6
  have hs6 : w5.heap.size ≤ w6.heap.size := b6.size
  have lo6 : Hid (∀ k, Value.ownBlock (.slice (some ⟨g6, 0, none⟩) len0 len0) = some k → w5.heap.size ≤ k ∧ k < w6.heap.size) := Lib.hid o6.block
  have va0_0_6 : w6.cell? ⟨w.heap.size, 0, none⟩ = some (.int .i8 st0) := ((((((BX0).below b2).below b3).below b4).below b5).below b6).at 0
  have va0_1_6 : w6.cell? ⟨w.heap.size, 1, none⟩ = some (.int .i16 sy0) := ((((((BX0).below b2).below b3).below b4).below b5).below b6).at 1
  have va0_2_6 : w6.cell? ⟨w.heap.size, 2, none⟩ = some (.slice a0 len0 cap0) := ((((((BX0).below b2).below b3).below b4).below b5).below b6).at 2
  have la0_6 : w.heap.size < w6.heap.size := ((((((BX0).below b2).below b3).below b4).below b5).below b6).lt
  have va1_0_6 : w6.cell? ⟨w.heap.size + 1, 0, none⟩ = some (.int .i8 x10) := ((((((BX1).below b2).below b3).below b4).below b5).below b6).at 0
  have va1_1_6 : w6.cell? ⟨w.heap.size + 1, 1, none⟩ = some (.int .i16 x11) := ((((((BX1).below b2).below b3).below b4).below b5).below b6).at 1
  have la1_6 : w.heap.size + 1 < w6.heap.size := ((((((BX1).below b2).below b3).below b4).below b5).below b6).lt
  go_wp2_with fail
  have b7 : Below w6.heap.size w6 (w6.alloc (.cells #[.int .i8 st0, .int .i16 sy0, .slice (some ⟨g6, 0, none⟩) len0 len0] 31)) := (Below.refl _ _).alloc (Nat.le_refl _) _
  have BY0 : BlkA (w6.alloc (.cells #[.int .i8 st0, .int .i16 sy0, .slice (some ⟨g6, 0, none⟩) len0 len0] 31)) w6.heap.size 31 #[.int .i8 st0, .int .i16 sy0, .slice (some ⟨g6, 0, none⟩) len0 len0] := BlkA.new rfl _ _
  generalize (w6.alloc (.cells #[.int .i8 st0, .int .i16 sy0, .slice (some ⟨g6, 0, none⟩) len0 len0] 31)) = w7 at b7 BY0 ⊢
  have c7 : Below w.heap.size w w7 := blink c6 b7
  have hs7 : w6.heap.size ≤ w7.heap.size := b7.size
  have hx0 : w6.heap.size < w7.heap.size := BY0.lt
  have CD7 : Below w.heap.size w w7.drew := Below.drew c7
  have BD7 : Below w7.heap.size w7 w7.drew := (Below.refl _ _).drew
  have SD7 : w7.drew.cell? ⟨w.heap.size, 0, none⟩ = some (.int .i8 st0) ∧ w7.drew.cell? ⟨w.heap.size, 1, none⟩ = some (.int .i16 sy0) ∧ w7.drew.cell? ⟨w.heap.size, 2, none⟩ = some (.slice a0 len0 cap0) ∧ w7.drew.cell? ⟨w.heap.size + 1, 0, none⟩ = some (.int .i8 x10) ∧ w7.drew.cell? ⟨w.heap.size + 1, 1, none⟩ = some (.int .i16 x11) ∧ w7.drew.cell? ⟨w6.heap.size, 0, none⟩ = some (.int .i8 st0) ∧ w7.drew.cell? ⟨w6.heap.size, 1, none⟩ = some (.int .i16 sy0) ∧ w7.drew.cell? ⟨w6.heap.size, 2, none⟩ = some (.slice (some ⟨g6, 0, none⟩) len0 len0) := ⟨cbl BD7 ((((((((BX0).below b2).below b3).below b4).below b5).below b6).below b7).at 0), cbl BD7 ((((((((BX0).below b2).below b3).below b4).below b5).below b6).below b7).at 1), cbl BD7 ((((((((BX0).below b2).below b3).below b4).below b5).below b6).below b7).at 2), cbl BD7 ((((((((BX1).below b2).below b3).below b4).below b5).below b6).below b7).at 0), cbl BD7 ((((((((BX1).below b2).below b3).below b4).below b5).below b6).below b7).at 1), cbl BD7 ((BY0).at 0), cbl BD7 ((BY0).at 1), cbl BD7 ((BY0).at 2)⟩
  go_wp2_with fail
  go_region_held3 (fun v => v.cell? ⟨w.heap.size, 0, none⟩ = some (.int .i8 st0) ∧ v.cell? ⟨w.heap.size, 1, none⟩ = some (.int .i16 sy0) ∧ v.cell? ⟨w.heap.size, 2, none⟩ = some (.slice a0 len0 cap0) ∧ v.cell? ⟨w.heap.size + 1, 0, none⟩ = some (.int .i8 x10) ∧ v.cell? ⟨w.heap.size + 1, 1, none⟩ = some (.int .i16 x11) ∧ v.cell? ⟨w6.heap.size, 0, none⟩ = some (.int .i8 st0) ∧ v.cell? ⟨w6.heap.size, 1, none⟩ = some (.int .i16 sy0) ∧ v.cell? ⟨w6.heap.size, 2, none⟩ = some (.slice (some ⟨g6, 0, none⟩) len0 len0)) (first | exact zS9 | exact zS8 | exact SD7) (first | (go_at_call 29; (with_reducible refine (toScan_one x10 x11 _).mono ?_); rintro e w8 ⟨rfl, d8⟩; have b8 : Below w7.heap.size w7 w8 := BD7.trans (d8.mono (Nat.le_refl _)); have zS8 : w8.cell? ⟨w.heap.size, 0, none⟩ = some (.int .i8 st0) ∧ w8.cell? ⟨w.heap.size, 1, none⟩ = some (.int .i16 sy0) ∧ w8.cell? ⟨w.heap.size, 2, none⟩ = some (.slice a0 len0 cap0) ∧ w8.cell? ⟨w.heap.size + 1, 0, none⟩ = some (.int .i8 x10) ∧ w8.cell? ⟨w.heap.size + 1, 1, none⟩ = some (.int .i16 x11) ∧ w8.cell? ⟨w6.heap.size, 0, none⟩ = some (.int .i8 st0) ∧ w8.cell? ⟨w6.heap.size, 1, none⟩ = some (.int .i16 sy0) ∧ w8.cell? ⟨w6.heap.size, 2, none⟩ = some (.slice (some ⟨g6, 0, none⟩) len0 len0) := ⟨cbl d8 SD7.1, cbl d8 SD7.2.1, cbl d8 SD7.2.2.1, cbl d8 SD7.2.2.2.1, cbl d8 SD7.2.2.2.2.1, cbl d8 SD7.2.2.2.2.2.1, cbl d8 SD7.2.2.2.2.2.2.1, cbl d8 SD7.2.2.2.2.2.2.2⟩) | (go_at_call 38; (with_reducible refine (iaa_any _ _ _ ps0 _ _ a2 _ HF0.out HV1.out ((((o6).below b7).below BD7).below d8).reads).mono ?_); rintro e w9 ⟨gv0, rfl, go0, b9⟩; have zS9 : w9.cell? ⟨w.heap.size, 0, none⟩ = some (.int .i8 st0) ∧ w9.cell? ⟨w.heap.size, 1, none⟩ = some (.int .i16 sy0) ∧ w9.cell? ⟨w.heap.size, 2, none⟩ = some (.slice a0 len0 cap0) ∧ w9.cell? ⟨w.heap.size + 1, 0, none⟩ = some (.int .i8 x10) ∧ w9.cell? ⟨w.heap.size + 1, 1, none⟩ = some (.int .i16 x11) ∧ w9.cell? ⟨w6.heap.size, 0, none⟩ = some (.int .i8 st0) ∧ w9.cell? ⟨w6.heap.size, 1, none⟩ = some (.int .i16 sy0) ∧ w9.cell? ⟨w6.heap.size, 2, none⟩ = some (.slice (some ⟨g6, 0, none⟩) len0 len0) := ⟨cbl b9 zS8.1, cbl b9 zS8.2.1, cbl b9 zS8.2.2.1, cbl b9 zS8.2.2.2.1, cbl b9 zS8.2.2.2.2.1, cbl b9 zS8.2.2.2.2.2.1, cbl b9 zS8.2.2.2.2.2.2.1, cbl b9 zS8.2.2.2.2.2.2.2⟩))
  have c8 : Below w.heap.size w w8 := blink c7 b8
  have hs8 : w7.heap.size ≤ w8.heap.size := b8.size
  have c9 : Below w.heap.size w w9 := blink c8 b9
  have hs9 : w8.heap.size ≤ w9.heap.size := b9.size
  clear zS8 zS9 SD7 CD7 BD7
  have lgo0 : Hid (∀ k, Value.ownBlock gv0 = some k → w8.heap.size ≤ k ∧ k < w9.heap.size) := Lib.hid go0.block
  go_wp2_with fail
  refine (eqI_any _ _ (aaR st0 sy0 ps0 x10 x11 a2) (aaR st0 sy0 ps0 x10 x11 a2) _ (go0).reads (((((so0).below b6).below b7).below b8).below b9).reads (HLB0.out) (HLB0.out)).mono ?_
  rintro e w10 ⟨rfl, b10⟩
  have c10 : Below w.heap.size w w10 := blink c9 b10
  have hs10 : w9.heap.size ≤ w10.heap.size := b10.size
  rw [eqB_true rfl]
  have CD10 : Below w.heap.size w w10.drew := Below.drew c10
  have BD10 : Below w10.heap.size w10 w10.drew := (Below.refl _ _).drew
  have SD10 : w10.drew.cell? ⟨w.heap.size, 0, none⟩ = some (.int .i8 st0) ∧ w10.drew.cell? ⟨w.heap.size, 1, none⟩ = some (.int .i16 sy0) ∧ w10.drew.cell? ⟨w.heap.size, 2, none⟩ = some (.slice a0 len0 cap0) ∧ w10.drew.cell? ⟨w.heap.size + 1, 0, none⟩ = some (.int .i8 x10) ∧ w10.drew.cell? ⟨w.heap.size + 1, 1, none⟩ = some (.int .i16 x11) ∧ w10.drew.cell? ⟨w6.heap.size, 0, none⟩ = some (.int .i8 st0) ∧ w10.drew.cell? ⟨w6.heap.size, 1, none⟩ = some (.int .i16 sy0) ∧ w10.drew.cell? ⟨w6.heap.size, 2, none⟩ = some (.slice (some ⟨g6, 0, none⟩) len0 len0) := ⟨cbl BD10 (((((((((((BX0).below b2).below b3).below b4).below b5).below b6).below b7).below b8).below b9).below b10).at 0), cbl BD10 (((((((((((BX0).below b2).below b3).below b4).below b5).below b6).below b7).below b8).below b9).below b10).at 1), cbl BD10 (((((((((((BX0).below b2).below b3).below b4).below b5).below b6).below b7).below b8).below b9).below b10).at 2), cbl BD10 (((((((((((BX1).below b2).below b3).below b4).below b5).below b6).below b7).below b8).below b9).below b10).at 0), cbl BD10 (((((((((((BX1).below b2).below b3).below b4).below b5).below b6).below b7).below b8).below b9).below b10).at 1), cbl BD10 (((((BY0).below b8).below b9).below b10).at 0), cbl BD10 (((((BY0).below b8).below b9).below b10).at 1), cbl BD10 (((((BY0).below b8).below b9).below b10).at 2)⟩
  go_wp2_with fail
  go_region_held3 (fun v => v.cell? ⟨w.heap.size, 0, none⟩ = some (.int .i8 st0) ∧ v.cell? ⟨w.heap.size, 1, none⟩ = some (.int .i16 sy0) ∧ v.cell? ⟨w.heap.size, 2, none⟩ = some (.slice a0 len0 cap0) ∧ v.cell? ⟨w.heap.size + 1, 0, none⟩ = some (.int .i8 x10) ∧ v.cell? ⟨w.heap.size + 1, 1, none⟩ = some (.int .i16 x11) ∧ v.cell? ⟨w6.heap.size, 0, none⟩ = some (.int .i8 st0) ∧ v.cell? ⟨w6.heap.size, 1, none⟩ = some (.int .i16 sy0) ∧ v.cell? ⟨w6.heap.size, 2, none⟩ = some (.slice (some ⟨g6, 0, none⟩) len0 len0)) (first | exact zS12 | exact zS11 | exact SD10) (first | (go_at_call 17; (with_reducible refine (toNet_any st0 sy0 a0 len0 cap0 ps0 _ (hr0.below CD10) HL0.out).mono ?_); rintro e w11 ⟨g11, rfl, o11, d11⟩; have b11 : Below w10.heap.size w10 w11 := BD10.trans (d11.mono (Nat.le_refl _)); have zS11 : w11.cell? ⟨w.heap.size, 0, none⟩ = some (.int .i8 st0) ∧ w11.cell? ⟨w.heap.size, 1, none⟩ = some (.int .i16 sy0) ∧ w11.cell? ⟨w.heap.size, 2, none⟩ = some (.slice a0 len0 cap0) ∧ w11.cell? ⟨w.heap.size + 1, 0, none⟩ = some (.int .i8 x10) ∧ w11.cell? ⟨w.heap.size + 1, 1, none⟩ = some (.int .i16 x11) ∧ w11.cell? ⟨w6.heap.size, 0, none⟩ = some (.int .i8 st0) ∧ w11.cell? ⟨w6.heap.size, 1, none⟩ = some (.int .i16 sy0) ∧ w11.cell? ⟨w6.heap.size, 2, none⟩ = some (.slice (some ⟨g6, 0, none⟩) len0 len0) := ⟨cbl d11 SD10.1, cbl d11 SD10.2.1, cbl d11 SD10.2.2.1, cbl d11 SD10.2.2.2.1, cbl d11 SD10.2.2.2.2.1, cbl d11 SD10.2.2.2.2.2.1, cbl d11 SD10.2.2.2.2.2.2.1, cbl d11 SD10.2.2.2.2.2.2.2⟩) | (go_at_call 19; (with_reducible refine (eqNet_eq st0 sy0 _ _ ps0 _ (((((((o6).below b7).below b8).below b9).below b10).below BD10).below d11).reads o11.reads HX0.out).mono ?_); rintro e w12 ⟨rfl, b12⟩; have zS12 : w12.cell? ⟨w.heap.size, 0, none⟩ = some (.int .i8 st0) ∧ w12.cell? ⟨w.heap.size, 1, none⟩ = some (.int .i16 sy0) ∧ w12.cell? ⟨w.heap.size, 2, none⟩ = some (.slice a0 len0 cap0) ∧ w12.cell? ⟨w.heap.size + 1, 0, none⟩ = some (.int .i8 x10) ∧ w12.cell? ⟨w.heap.size + 1, 1, none⟩ = some (.int .i16 x11) ∧ w12.cell? ⟨w6.heap.size, 0, none⟩ = some (.int .i8 st0) ∧ w12.cell? ⟨w6.heap.size, 1, none⟩ = some (.int .i16 sy0) ∧ w12.cell? ⟨w6.heap.size, 2, none⟩ = some (.slice (some ⟨g6, 0, none⟩) len0 len0) := ⟨cbl b12 zS11.1, cbl b12 zS11.2.1, cbl b12 zS11.2.2.1, cbl b12 zS11.2.2.2.1, cbl b12 zS11.2.2.2.2.1, cbl b12 zS11.2.2.2.2.2.1, cbl b12 zS11.2.2.2.2.2.2.1, cbl b12 zS11.2.2.2.2.2.2.2⟩))
  have c11 : Below w.heap.size w w11 := blink c10 b11
  have hs11 : w10.heap.size ≤ w11.heap.size := b11.size
  have c12 : Below w.heap.size w w12 := blink c11 b12
  have hs12 : w11.heap.size ≤ w12.heap.size := b12.size
  clear zS11 zS12 SD10 CD10 BD10
  have vx0_0_12 : w12.cell? ⟨w6.heap.size, 0, none⟩ = some (.int .i8 st0) := ((((((BY0).below b8).below b9).below b10).below b11).below b12).at 0
  have vx0_1_12 : w12.cell? ⟨w6.heap.size, 1, none⟩ = some (.int .i16 sy0) := ((((((BY0).below b8).below b9).below b10).below b11).below b12).at 1
  have vx0_2_12 : w12.cell? ⟨w6.heap.size, 2, none⟩ = some (.slice (some ⟨g6, 0, none⟩) len0 len0) := ((((((BY0).below b8).below b9).below b10).below b11).below b12).at 2
  have lx0_12 : w6.heap.size < w12.heap.size := ((((((BY0).below b8).below b9).below b10).below b11).below b12).lt
  go_wp2_with fail
  refine (markNet_any _ _ st0 sy0 _ ps0 _ _ (((((((o6).below b7).below b8).below b9).below b10).below b11).below b12) (by omega) (by omega) HX0.out).mono ?_
  rintro e w13 ⟨rfl, mk1, G13⟩
  have K13 : KeepsOut w5.heap.size w6.heap.size w12 w13 := G13 _ _ (fun k hk => by have := lo6.out k hk; omega)
  have c13 : Below w.heap.size w w13 := kout_below c12 K13 (by omega) (by omega)
  have hs13 : w12.heap.size ≤ w13.heap.size := K13.size
  go_wp2_with fail
  refine (eqI_any _ _ (aaR st0 sy0 ps0 x10 x11 a2) (aaR st0 sy0 ps0 x10 x11 a2) _ (((((go0).below b10).below b11).below b12).out K13 (fun k hk => by have := lgo0.out k hk; omega)).reads (((((((((so0).below b6).below b7).below b8).below b9).below b10).below b11).below b12).out K13 (fun k hk => by have := lso0.out k hk; omega)).reads (HLB0.out) (HLB0.out)).mono ?_
  rintro e w14 ⟨rfl, b14⟩
  have c14 : Below w.heap.size w w14 := blink c13 b14
  have hs14 : w13.heap.size ≤ w14.heap.size := b14.size
  rw [eqB_true rfl]
  go_wp2_with fail
  refine (mark_any _ _ (aaR st0 sy0 ps0 x10 x11 a2) _ _ ((((((go0).below b10).below b11).below b12).out K13 (fun k hk => by have := lgo0.out k hk; omega)).below b14) (by omega) (by omega) (HLB0.out)).mono ?_
  rintro e w15 ⟨rfl, mk2, g15⟩
  have K15 : KeepsOut w8.heap.size w9.heap.size w14 w15 := keepsOut_grown g15 (fun k hk => by have := lgo0.out k hk; omega)
  have c15 : Below w.heap.size w w15 := kout_below c14 K15 (by omega) (by omega)
  have hs15 : w14.heap.size ≤ w15.heap.size := K15.size
  have lmk2 : Hid (∀ k, Value.ownBlock gv0 = some k → w8.heap.size ≤ k ∧ k < w9.heap.size) := lgo0
  go_wp2_with fail
  refine (held_any _ _ _ _ (mk2).reads (by omega) (by omega) (HLB0.out)).mono ?_
  rintro e w16 ⟨rfl, b16⟩
  have c16 : Below w.heap.size w w16 := blink c15 b16
  have hs16 : w15.heap.size ≤ w16.heap.size := b16.size
  have CD16 : Below w.heap.size w w16.drew := Below.drew c16
  have BD16 : Below w16.heap.size w16 w16.drew := (Below.refl _ _).drew
  have SD16 : w16.drew.cell? ⟨w.heap.size, 0, none⟩ = some (.int .i8 st0) ∧ w16.drew.cell? ⟨w.heap.size, 1, none⟩ = some (.int .i16 sy0) ∧ w16.drew.cell? ⟨w.heap.size, 2, none⟩ = some (.slice a0 len0 cap0) ∧ w16.drew.cell? ⟨w.heap.size + 1, 0, none⟩ = some (.int .i8 x10) ∧ w16.drew.cell? ⟨w.heap.size + 1, 1, none⟩ = some (.int .i16 x11) ∧ w16.drew.cell? ⟨w6.heap.size, 0, none⟩ = some (.int .i8 st0) ∧ w16.drew.cell? ⟨w6.heap.size, 1, none⟩ = some (.int .i16 sy0) ∧ w16.drew.cell? ⟨w6.heap.size, 2, none⟩ = some (.slice (some ⟨g6, 0, none⟩) len0 len0) := ⟨cbl BD16 (((((((((((((((((BX0).below b2).below b3).below b4).below b5).below b6).below b7).below b8).below b9).below b10).below b11).below b12).out K13 (by omega)).below b14).out K15 (by omega)).below b16).at 0), cbl BD16 (((((((((((((((((BX0).below b2).below b3).below b4).below b5).below b6).below b7).below b8).below b9).below b10).below b11).below b12).out K13 (by omega)).below b14).out K15 (by omega)).below b16).at 1), cbl BD16 (((((((((((((((((BX0).below b2).below b3).below b4).below b5).below b6).below b7).below b8).below b9).below b10).below b11).below b12).out K13 (by omega)).below b14).out K15 (by omega)).below b16).at 2), cbl BD16 (((((((((((((((((BX1).below b2).below b3).below b4).below b5).below b6).below b7).below b8).below b9).below b10).below b11).below b12).out K13 (by omega)).below b14).out K15 (by omega)).below b16).at 0), cbl BD16 (((((((((((((((((BX1).below b2).below b3).below b4).below b5).below b6).below b7).below b8).below b9).below b10).below b11).below b12).out K13 (by omega)).below b14).out K15 (by omega)).below b16).at 1), cbl BD16 (((((((((((BY0).below b8).below b9).below b10).below b11).below b12).out K13 (by omega)).below b14).out K15 (by omega)).below b16).at 0), cbl BD16 (((((((((((BY0).below b8).below b9).below b10).below b11).below b12).out K13 (by omega)).below b14).out K15 (by omega)).below b16).at 1), cbl BD16 (((((((((((BY0).below b8).below b9).below b10).below b11).below b12).out K13 (by omega)).below b14).out K15 (by omega)).below b16).at 2)⟩
  go_wp2_with fail
  go_region_held3 (fun v => v.cell? ⟨w.heap.size, 0, none⟩ = some (.int .i8 st0) ∧ v.cell? ⟨w.heap.size, 1, none⟩ = some (.int .i16 sy0) ∧ v.cell? ⟨w.heap.size, 2, none⟩ = some (.slice a0 len0 cap0) ∧ v.cell? ⟨w.heap.size + 1, 0, none⟩ = some (.int .i8 x10) ∧ v.cell? ⟨w.heap.size + 1, 1, none⟩ = some (.int .i16 x11) ∧ v.cell? ⟨w6.heap.size, 0, none⟩ = some (.int .i8 st0) ∧ v.cell? ⟨w6.heap.size, 1, none⟩ = some (.int .i16 sy0) ∧ v.cell? ⟨w6.heap.size, 2, none⟩ = some (.slice (some ⟨g6, 0, none⟩) len0 len0)) (first | exact zS19 | exact zS18 | exact zS17 | exact SD16) (first | (go_at_call 17; (with_reducible refine (toNet_any st0 sy0 a0 len0 cap0 ps0 _ (hr0.below CD16) HL0.out).mono ?_); rintro e w17 ⟨g17, rfl, o17, d17⟩; have b17 : Below w16.heap.size w16 w17 := BD16.trans (d17.mono (Nat.le_refl _)); have zS17 : w17.cell? ⟨w.heap.size, 0, none⟩ = some (.int .i8 st0) ∧ w17.cell? ⟨w.heap.size, 1, none⟩ = some (.int .i16 sy0) ∧ w17.cell? ⟨w.heap.size, 2, none⟩ = some (.slice a0 len0 cap0) ∧ w17.cell? ⟨w.heap.size + 1, 0, none⟩ = some (.int .i8 x10) ∧ w17.cell? ⟨w.heap.size + 1, 1, none⟩ = some (.int .i16 x11) ∧ w17.cell? ⟨w6.heap.size, 0, none⟩ = some (.int .i8 st0) ∧ w17.cell? ⟨w6.heap.size, 1, none⟩ = some (.int .i16 sy0) ∧ w17.cell? ⟨w6.heap.size, 2, none⟩ = some (.slice (some ⟨g6, 0, none⟩) len0 len0) := ⟨cbl d17 SD16.1, cbl d17 SD16.2.1, cbl d17 SD16.2.2.1, cbl d17 SD16.2.2.2.1, cbl d17 SD16.2.2.2.2.1, cbl d17 SD16.2.2.2.2.2.1, cbl d17 SD16.2.2.2.2.2.2.1, cbl d17 SD16.2.2.2.2.2.2.2⟩) | (go_at_call 29; (with_reducible refine (toScan_one x10 x11 _).mono ?_); rintro e w18 ⟨rfl, b18⟩; have zS18 : w18.cell? ⟨w.heap.size, 0, none⟩ = some (.int .i8 st0) ∧ w18.cell? ⟨w.heap.size, 1, none⟩ = some (.int .i16 sy0) ∧ w18.cell? ⟨w.heap.size, 2, none⟩ = some (.slice a0 len0 cap0) ∧ w18.cell? ⟨w.heap.size + 1, 0, none⟩ = some (.int .i8 x10) ∧ w18.cell? ⟨w.heap.size + 1, 1, none⟩ = some (.int .i16 x11) ∧ w18.cell? ⟨w6.heap.size, 0, none⟩ = some (.int .i8 st0) ∧ w18.cell? ⟨w6.heap.size, 1, none⟩ = some (.int .i16 sy0) ∧ w18.cell? ⟨w6.heap.size, 2, none⟩ = some (.slice (some ⟨g6, 0, none⟩) len0 len0) := ⟨cbl b18 zS17.1, cbl b18 zS17.2.1, cbl b18 zS17.2.2.1, cbl b18 zS17.2.2.2.1, cbl b18 zS17.2.2.2.2.1, cbl b18 zS17.2.2.2.2.2.1, cbl b18 zS17.2.2.2.2.2.2.1, cbl b18 zS17.2.2.2.2.2.2.2⟩) | (go_at_call 38; (with_reducible refine (iaa_any _ _ _ ps0 _ _ a2 _ HF0.out HV1.out (o17.below b18).reads).mono ?_); rintro e w19 ⟨hv0, rfl, ho0, b19⟩; have zS19 : w19.cell? ⟨w.heap.size, 0, none⟩ = some (.int .i8 st0) ∧ w19.cell? ⟨w.heap.size, 1, none⟩ = some (.int .i16 sy0) ∧ w19.cell? ⟨w.heap.size, 2, none⟩ = some (.slice a0 len0 cap0) ∧ w19.cell? ⟨w.heap.size + 1, 0, none⟩ = some (.int .i8 x10) ∧ w19.cell? ⟨w.heap.size + 1, 1, none⟩ = some (.int .i16 x11) ∧ w19.cell? ⟨w6.heap.size, 0, none⟩ = some (.int .i8 st0) ∧ w19.cell? ⟨w6.heap.size, 1, none⟩ = some (.int .i16 sy0) ∧ w19.cell? ⟨w6.heap.size, 2, none⟩ = some (.slice (some ⟨g6, 0, none⟩) len0 len0) := ⟨cbl b19 zS18.1, cbl b19 zS18.2.1, cbl b19 zS18.2.2.1, cbl b19 zS18.2.2.2.1, cbl b19 zS18.2.2.2.2.1, cbl b19 zS18.2.2.2.2.2.1, cbl b19 zS18.2.2.2.2.2.2.1, cbl b19 zS18.2.2.2.2.2.2.2⟩))
  have c17 : Below w.heap.size w w17 := blink c16 b17
  have hs17 : w16.heap.size ≤ w17.heap.size := b17.size
  have c18 : Below w.heap.size w w18 := blink c17 b18
  have hs18 : w17.heap.size ≤ w18.heap.size := b18.size
  have c19 : Below w.heap.size w w19 := blink c18 b19
  have hs19 : w18.heap.size ≤ w19.heap.size := b19.size
  clear zS17 zS18 zS19 SD16 CD16 BD16
  have lho0 : Hid (∀ k, Value.ownBlock hv0 = some k → w18.heap.size ≤ k ∧ k < w19.heap.size) := Lib.hid ho0.block
  go_wp2_with fail
  refine (eqI_any _ _ (aaR st0 sy0 ps0 x10 x11 a2) (aaR st0 sy0 ps0 x10 x11 a2) _ (ho0).reads (((((((((((((((so0).below b6).below b7).below b8).below b9).below b10).below b11).below b12).out K13 (fun k hk => by have := lso0.out k hk; omega)).below b14).out K15 (fun k hk => by have := lso0.out k hk; omega)).below b16).below b17).below b18).below b19).reads (HLB0.out) (HLB0.out)).mono ?_
  rintro e w20 ⟨rfl, b20⟩
  have c20 : Below w.heap.size w w20 := blink c19 b20
  have hs20 : w19.heap.size ≤ w20.heap.size := b20.size
  rw [eqB_true rfl]
  go_wp2_with fail
  refine (held_any _ _ _ _ ((((((mk2).below b16).below b17).below b18).below b19).below b20).reads (by omega) (by omega) (HLB0.out)).mono ?_
  rintro e w21 ⟨rfl, b21⟩
  have c21 : Below w.heap.size w w21 := blink c20 b21
  have hs21 : w20.heap.size ≤ w21.heap.size := b21.size
  go_wp2_with fail
  go_ret
  exact ⟨rfl, c21⟩
end Go.Proofs.Ytkcbhipgdajdkaa.fnExactArrivalsAt
