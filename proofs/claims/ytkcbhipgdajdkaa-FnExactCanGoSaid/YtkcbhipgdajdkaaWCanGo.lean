/-
  The walk of FnExactCanGo: program and model answer the same at every argument; neither writes into its arguments, and what is answered lies in new memory.
-/
import Derived.Test.YtkcbhipgdajdkaaNtA
import Derived.Test.YtkcbhipgdajdkaaTScan
import Derived.Test.YtkcbhipgdajdkaaCgS
import Derived.Test.YtkcbhipgdajdkaaCgI
namespace Go.Proofs.Ytkcbhipgdajdkaa.fnExactCanGo
open Go Go.RowKit
set_option linter.unusedVariables false

set_option maxHeartbeats 16000000 in
set_option maxRecDepth 100000 in
theorem walk (st0 sy0 : Int) (a0 : Option Addr) (len0 cap0 : Nat) (ps0 : List Lan) (x10 x11 : Int) (x20 x21 : Int) (w : World) (hh0 : (IsRowLa w a0 len0 cap0 ps0 ∧ FitsLa ps0) ∧ (-128 ≤ st0 ∧ st0 ≤ 127) ∧ (-32768 ≤ sy0 ∧ sy0 ≤ 32767)) (hv1 : FitSc (x10, x11)) (hv2 : FitSc (x20, x21)) :
    Calls Try.prog 9 #[.agg #[.int .i8 st0, .int .i16 sy0, .slice a0 len0 cap0], .agg #[.int .i8 x10, .int .i16 x11], .agg #[.int .i8 x20, .int .i16 x21]] w fun e w' => e = .returned (.bool true) ∧ Below w.heap.size w w' := by
  obtain ⟨⟨hr0, hf0⟩, hst0, hsy0⟩ := hh0
  have HFQ0 := Lib.hid hf0
  have HST0 := Lib.hid hst0
  have HSY0 := Lib.hid hsy0
  have HN0 := Lib.hid hr0.len_ok
  clear hf0 hst0 hsy0
  have HV1 := Lib.hid hv1
  clear hv1
  have HV2 := Lib.hid hv2
  clear hv2
  by_cases hm0 : 0 ≤ 1048576 - (len0 : Int)
  rotate_left
  · have t0 : decide (1048576 - (len0 : Int) < 0) = true := decide_eq_true (by omega)
    go_enter Try.func9, Try.ntmps9
    go_wp2_with fail
    have b1 : Below w.heap.size w (((w.alloc (.cells #[.int .i8 st0, .int .i16 sy0, .slice a0 len0 cap0] 26)).alloc (.cells #[.int .i8 x10, .int .i16 x11] 44)).alloc (.cells #[.int .i8 x20, .int .i16 x21] 44)) := ((((Below.refl _ _).alloc (Nat.le_refl _) _).alloc (by simp) _).alloc (by simp; omega) _)
    have BX0 : BlkA (((w.alloc (.cells #[.int .i8 st0, .int .i16 sy0, .slice a0 len0 cap0] 26)).alloc (.cells #[.int .i8 x10, .int .i16 x11] 44)).alloc (.cells #[.int .i8 x20, .int .i16 x21] 44)) (w.heap.size) 26 #[.int .i8 st0, .int .i16 sy0, .slice a0 len0 cap0] := (((BlkA.new rfl _ _).alloc _).alloc _)
    have BX1 : BlkA (((w.alloc (.cells #[.int .i8 st0, .int .i16 sy0, .slice a0 len0 cap0] 26)).alloc (.cells #[.int .i8 x10, .int .i16 x11] 44)).alloc (.cells #[.int .i8 x20, .int .i16 x21] 44)) (w.heap.size + 1) 44 #[.int .i8 x10, .int .i16 x11] := ((BlkA.new (by simp) _ _).alloc _)
    have BX2 : BlkA (((w.alloc (.cells #[.int .i8 st0, .int .i16 sy0, .slice a0 len0 cap0] 26)).alloc (.cells #[.int .i8 x10, .int .i16 x11] 44)).alloc (.cells #[.int .i8 x20, .int .i16 x21] 44)) (w.heap.size + 1 + 1) 44 #[.int .i8 x20, .int .i16 x21] := (BlkA.new (by simp) _ _)
    generalize (((w.alloc (.cells #[.int .i8 st0, .int .i16 sy0, .slice a0 len0 cap0] 26)).alloc (.cells #[.int .i8 x10, .int .i16 x11] 44)).alloc (.cells #[.int .i8 x20, .int .i16 x21] 44)) = w1 at b1 BX0 BX1 BX2 ⊢
    have c1 := b1
    have hs1 : w.heap.size ≤ w1.heap.size := b1.size
    have hb0 : w.heap.size < w1.heap.size := BX0.lt
    have hb1 : w.heap.size + 1 < w1.heap.size := BX1.lt
    have hb2 : w.heap.size + 1 + 1 < w1.heap.size := BX2.lt
    have va0_0_1 : w1.cell? ⟨w.heap.size, 0, none⟩ = some (.int .i8 st0) := (BX0).at 0
    have va0_1_1 : w1.cell? ⟨w.heap.size, 1, none⟩ = some (.int .i16 sy0) := (BX0).at 1
    have va0_2_1 : w1.cell? ⟨w.heap.size, 2, none⟩ = some (.slice a0 len0 cap0) := (BX0).at 2
    have la0_1 : w.heap.size < w1.heap.size := (BX0).lt
    go_wp2_with fail
    refine (szNet_big st0 sy0 a0 len0 cap0 1048576 (by omega) (by omega) (by omega) HN0.out _).mono ?_
    rintro e w2 ⟨rfl, b2⟩
    have c2 : Below w.heap.size w w2 := blink c1 b2
    have hs2 : w1.heap.size ≤ w2.heap.size := b2.size
    go_wp2_with fail
    go_ret
    exact ⟨rfl, c2⟩
  have t0 : decide (1048576 - (len0 : Int) < 0) = false := decide_eq_false (by omega)
  have hlq0 : ps0.length = len0 := hr0.len_eq
  have HX0 : Hid (ps0.length ≤ 1048576) := Lib.hid (by omega)
  have HL0 : Hid (len0 ≤ 1048576) := Lib.hid (by omega)
  have hxb0 : ps0.length ≤ 1048576 := HX0.out
  clear hlq0
  have HF0 : Hid (FitN st0 sy0 ps0) := Lib.hid ⟨HST0.out, HSY0.out, HFQ0.out, HX0.out⟩
  go_enter Try.func9, Try.ntmps9
  go_wp2_with fail
  have b1 : Below w.heap.size w (((w.alloc (.cells #[.int .i8 st0, .int .i16 sy0, .slice a0 len0 cap0] 26)).alloc (.cells #[.int .i8 x10, .int .i16 x11] 44)).alloc (.cells #[.int .i8 x20, .int .i16 x21] 44)) := ((((Below.refl _ _).alloc (Nat.le_refl _) _).alloc (by simp) _).alloc (by simp; omega) _)
  have BX0 : BlkA (((w.alloc (.cells #[.int .i8 st0, .int .i16 sy0, .slice a0 len0 cap0] 26)).alloc (.cells #[.int .i8 x10, .int .i16 x11] 44)).alloc (.cells #[.int .i8 x20, .int .i16 x21] 44)) (w.heap.size) 26 #[.int .i8 st0, .int .i16 sy0, .slice a0 len0 cap0] := (((BlkA.new rfl _ _).alloc _).alloc _)
  have BX1 : BlkA (((w.alloc (.cells #[.int .i8 st0, .int .i16 sy0, .slice a0 len0 cap0] 26)).alloc (.cells #[.int .i8 x10, .int .i16 x11] 44)).alloc (.cells #[.int .i8 x20, .int .i16 x21] 44)) (w.heap.size + 1) 44 #[.int .i8 x10, .int .i16 x11] := ((BlkA.new (by simp) _ _).alloc _)
  have BX2 : BlkA (((w.alloc (.cells #[.int .i8 st0, .int .i16 sy0, .slice a0 len0 cap0] 26)).alloc (.cells #[.int .i8 x10, .int .i16 x11] 44)).alloc (.cells #[.int .i8 x20, .int .i16 x21] 44)) (w.heap.size + 1 + 1) 44 #[.int .i8 x20, .int .i16 x21] := (BlkA.new (by simp) _ _)
  generalize (((w.alloc (.cells #[.int .i8 st0, .int .i16 sy0, .slice a0 len0 cap0] 26)).alloc (.cells #[.int .i8 x10, .int .i16 x11] 44)).alloc (.cells #[.int .i8 x20, .int .i16 x21] 44)) = w1 at b1 BX0 BX1 BX2 ⊢
  have c1 := b1
  have hs1 : w.heap.size ≤ w1.heap.size := b1.size
  have hb0 : w.heap.size < w1.heap.size := BX0.lt
  have hb1 : w.heap.size + 1 < w1.heap.size := BX1.lt
  have hb2 : w.heap.size + 1 + 1 < w1.heap.size := BX2.lt
  have va0_0_1 : w1.cell? ⟨w.heap.size, 0, none⟩ = some (.int .i8 st0) := (BX0).at 0
  have va0_1_1 : w1.cell? ⟨w.heap.size, 1, none⟩ = some (.int .i16 sy0) := (BX0).at 1
  have va0_2_1 : w1.cell? ⟨w.heap.size, 2, none⟩ = some (.slice a0 len0 cap0) := (BX0).at 2
  have la0_1 : w.heap.size < w1.heap.size := (BX0).lt
  go_wp2_with fail
  refine (szNet_fit st0 sy0 a0 len0 cap0 1048576 (by omega) (by omega) _).mono ?_
  rintro e w2 ⟨rfl, b2⟩
  have c2 : Below w.heap.size w w2 := blink c1 b2
  have hs2 : w1.heap.size ≤ w2.heap.size := b2.size
  have CD2 : Below w.heap.size w w2.drew := Below.drew c2
  have BD2 : Below w2.heap.size w2 w2.drew := (Below.refl _ _).drew
  have SD2 : w2.drew.cell? ⟨w.heap.size, 0, none⟩ = some (.int .i8 st0) ∧ w2.drew.cell? ⟨w.heap.size, 1, none⟩ = some (.int .i16 sy0) ∧ w2.drew.cell? ⟨w.heap.size, 2, none⟩ = some (.slice a0 len0 cap0) ∧ w2.drew.cell? ⟨w.heap.size + 1, 0, none⟩ = some (.int .i8 x10) ∧ w2.drew.cell? ⟨w.heap.size + 1, 1, none⟩ = some (.int .i16 x11) ∧ w2.drew.cell? ⟨w.heap.size + 1 + 1, 0, none⟩ = some (.int .i8 x20) ∧ w2.drew.cell? ⟨w.heap.size + 1 + 1, 1, none⟩ = some (.int .i16 x21) := ⟨cbl BD2 (((BX0).below b2).at 0), cbl BD2 (((BX0).below b2).at 1), cbl BD2 (((BX0).below b2).at 2), cbl BD2 (((BX1).below b2).at 0), cbl BD2 (((BX1).below b2).at 1), cbl BD2 (((BX2).below b2).at 0), cbl BD2 (((BX2).below b2).at 1)⟩
  go_wp2_with fail
  go_region_held3 (fun v => v.cell? ⟨w.heap.size, 0, none⟩ = some (.int .i8 st0) ∧ v.cell? ⟨w.heap.size, 1, none⟩ = some (.int .i16 sy0) ∧ v.cell? ⟨w.heap.size, 2, none⟩ = some (.slice a0 len0 cap0) ∧ v.cell? ⟨w.heap.size + 1, 0, none⟩ = some (.int .i8 x10) ∧ v.cell? ⟨w.heap.size + 1, 1, none⟩ = some (.int .i16 x11) ∧ v.cell? ⟨w.heap.size + 1 + 1, 0, none⟩ = some (.int .i8 x20) ∧ v.cell? ⟨w.heap.size + 1 + 1, 1, none⟩ = some (.int .i16 x21)) (first | exact zS6 | exact zS5 | exact zS4 | exact zS3 | exact SD2) (first | (go_at_call 17; (with_reducible refine (toNet_any st0 sy0 a0 len0 cap0 ps0 _ (hr0.below CD2) HL0.out).mono ?_); rintro e w3 ⟨g3, rfl, o3, d3⟩; have b3 : Below w2.heap.size w2 w3 := BD2.trans (d3.mono (Nat.le_refl _)); have zS3 : w3.cell? ⟨w.heap.size, 0, none⟩ = some (.int .i8 st0) ∧ w3.cell? ⟨w.heap.size, 1, none⟩ = some (.int .i16 sy0) ∧ w3.cell? ⟨w.heap.size, 2, none⟩ = some (.slice a0 len0 cap0) ∧ w3.cell? ⟨w.heap.size + 1, 0, none⟩ = some (.int .i8 x10) ∧ w3.cell? ⟨w.heap.size + 1, 1, none⟩ = some (.int .i16 x11) ∧ w3.cell? ⟨w.heap.size + 1 + 1, 0, none⟩ = some (.int .i8 x20) ∧ w3.cell? ⟨w.heap.size + 1 + 1, 1, none⟩ = some (.int .i16 x21) := ⟨cbl d3 SD2.1, cbl d3 SD2.2.1, cbl d3 SD2.2.2.1, cbl d3 SD2.2.2.2.1, cbl d3 SD2.2.2.2.2.1, cbl d3 SD2.2.2.2.2.2.1, cbl d3 SD2.2.2.2.2.2.2⟩) | (go_at_call 29; (with_reducible refine (toScan_one x10 x11 _).mono ?_); rintro e w4 ⟨rfl, b4⟩; have zS4 : w4.cell? ⟨w.heap.size, 0, none⟩ = some (.int .i8 st0) ∧ w4.cell? ⟨w.heap.size, 1, none⟩ = some (.int .i16 sy0) ∧ w4.cell? ⟨w.heap.size, 2, none⟩ = some (.slice a0 len0 cap0) ∧ w4.cell? ⟨w.heap.size + 1, 0, none⟩ = some (.int .i8 x10) ∧ w4.cell? ⟨w.heap.size + 1, 1, none⟩ = some (.int .i16 x11) ∧ w4.cell? ⟨w.heap.size + 1 + 1, 0, none⟩ = some (.int .i8 x20) ∧ w4.cell? ⟨w.heap.size + 1 + 1, 1, none⟩ = some (.int .i16 x21) := ⟨cbl b4 zS3.1, cbl b4 zS3.2.1, cbl b4 zS3.2.2.1, cbl b4 zS3.2.2.2.1, cbl b4 zS3.2.2.2.2.1, cbl b4 zS3.2.2.2.2.2.1, cbl b4 zS3.2.2.2.2.2.2⟩) | (go_at_call 29; (with_reducible refine (toScan_one x20 x21 _).mono ?_); rintro e w5 ⟨rfl, b5⟩; have zS5 : w5.cell? ⟨w.heap.size, 0, none⟩ = some (.int .i8 st0) ∧ w5.cell? ⟨w.heap.size, 1, none⟩ = some (.int .i16 sy0) ∧ w5.cell? ⟨w.heap.size, 2, none⟩ = some (.slice a0 len0 cap0) ∧ w5.cell? ⟨w.heap.size + 1, 0, none⟩ = some (.int .i8 x10) ∧ w5.cell? ⟨w.heap.size + 1, 1, none⟩ = some (.int .i16 x11) ∧ w5.cell? ⟨w.heap.size + 1 + 1, 0, none⟩ = some (.int .i8 x20) ∧ w5.cell? ⟨w.heap.size + 1 + 1, 1, none⟩ = some (.int .i16 x21) := ⟨cbl b5 zS4.1, cbl b5 zS4.2.1, cbl b5 zS4.2.2.1, cbl b5 zS4.2.2.2.1, cbl b5 zS4.2.2.2.2.1, cbl b5 zS4.2.2.2.2.2.1, cbl b5 zS4.2.2.2.2.2.2⟩) | (go_at_call 39; (with_reducible refine (scg_any _ _ _ ps0 _ _ _ _ _ HF0.out HV1.out HV2.out ((o3.below b4).below b5).reads).mono ?_); rintro e w6 ⟨rfl, b6⟩; have zS6 : w6.cell? ⟨w.heap.size, 0, none⟩ = some (.int .i8 st0) ∧ w6.cell? ⟨w.heap.size, 1, none⟩ = some (.int .i16 sy0) ∧ w6.cell? ⟨w.heap.size, 2, none⟩ = some (.slice a0 len0 cap0) ∧ w6.cell? ⟨w.heap.size + 1, 0, none⟩ = some (.int .i8 x10) ∧ w6.cell? ⟨w.heap.size + 1, 1, none⟩ = some (.int .i16 x11) ∧ w6.cell? ⟨w.heap.size + 1 + 1, 0, none⟩ = some (.int .i8 x20) ∧ w6.cell? ⟨w.heap.size + 1 + 1, 1, none⟩ = some (.int .i16 x21) := ⟨cbl b6 zS5.1, cbl b6 zS5.2.1, cbl b6 zS5.2.2.1, cbl b6 zS5.2.2.2.1, cbl b6 zS5.2.2.2.2.1, cbl b6 zS5.2.2.2.2.2.1, cbl b6 zS5.2.2.2.2.2.2⟩))
  have c3 : Below w.heap.size w w3 := blink c2 b3
  have hs3 : w2.heap.size ≤ w3.heap.size := b3.size
  have c4 : Below w.heap.size w w4 := blink c3 b4
  have hs4 : w3.heap.size ≤ w4.heap.size := b4.size
  have c5 : Below w.heap.size w w5 := blink c4 b5
  have hs5 : w4.heap.size ≤ w5.heap.size := b5.size
  have c6 : Below w.heap.size w w6 := blink c5 b6
  have hs6 : w5.heap.size ≤ w6.heap.size := b6.size
  clear zS3 zS4 zS5 zS6 SD2 CD2 BD2
  have va0_0_6 : w6.cell? ⟨w.heap.size, 0, none⟩ = some (.int .i8 st0) := ((((((BX0).below b2).below b3).below b4).below b5).below b6).at 0
  have va0_1_6 : w6.cell? ⟨w.heap.size, 1, none⟩ = some (.int .i16 sy0) := ((((((BX0).below b2).below b3).below b4).below b5).below b6).at 1
  have va0_2_6 : w6.cell? ⟨w.heap.size, 2, none⟩ = some (.slice a0 len0 cap0) := ((((((BX0).below b2).below b3).below b4).below b5).below b6).at 2
  have la0_6 : w.heap.size < w6.heap.size := ((((((BX0).below b2).below b3).below b4).below b5).below b6).lt
  go_wp2_with fail
  refine (toNet_any st0 sy0 a0 len0 cap0 ps0 _ (hr0.below c6) HL0.out).mono ?_
  rintro e w7 ⟨g7, rfl, o7, b7⟩
  have c7 : Below w.heap.size w w7 := blink c6 b7
  have hs7 : w6.heap.size ≤ w7.heap.size := b7.size
  have lo7 : Hid (∀ k, Value.ownBlock (.slice (some ⟨g7, 0, none⟩) len0 len0) = some k → w6.heap.size ≤ k ∧ k < w7.heap.size) := Lib.hid o7.block
  have va0_0_7 : w7.cell? ⟨w.heap.size, 0, none⟩ = some (.int .i8 st0) := (((((((BX0).below b2).below b3).below b4).below b5).below b6).below b7).at 0
  have va0_1_7 : w7.cell? ⟨w.heap.size, 1, none⟩ = some (.int .i16 sy0) := (((((((BX0).below b2).below b3).below b4).below b5).below b6).below b7).at 1
  have va0_2_7 : w7.cell? ⟨w.heap.size, 2, none⟩ = some (.slice a0 len0 cap0) := (((((((BX0).below b2).below b3).below b4).below b5).below b6).below b7).at 2
  have la0_7 : w.heap.size < w7.heap.size := (((((((BX0).below b2).below b3).below b4).below b5).below b6).below b7).lt
  have va1_0_7 : w7.cell? ⟨w.heap.size + 1, 0, none⟩ = some (.int .i8 x10) := (((((((BX1).below b2).below b3).below b4).below b5).below b6).below b7).at 0
  have va1_1_7 : w7.cell? ⟨w.heap.size + 1, 1, none⟩ = some (.int .i16 x11) := (((((((BX1).below b2).below b3).below b4).below b5).below b6).below b7).at 1
  have la1_7 : w.heap.size + 1 < w7.heap.size := (((((((BX1).below b2).below b3).below b4).below b5).below b6).below b7).lt
  have va2_0_7 : w7.cell? ⟨w.heap.size + 1 + 1, 0, none⟩ = some (.int .i8 x20) := (((((((BX2).below b2).below b3).below b4).below b5).below b6).below b7).at 0
  have va2_1_7 : w7.cell? ⟨w.heap.size + 1 + 1, 1, none⟩ = some (.int .i16 x21) := (((((((BX2).below b2).below b3).below b4).below b5).below b6).below b7).at 1
  have la2_7 : w.heap.size + 1 + 1 < w7.heap.size := (((((((BX2).below b2).below b3).below b4).below b5).below b6).below b7).lt
  go_wp2_with fail
  have b8 : Below w7.heap.size w7 (w7.alloc (.cells #[.int .i8 st0, .int .i16 sy0, .slice (some ⟨g7, 0, none⟩) len0 len0] 31)) := (Below.refl _ _).alloc (Nat.le_refl _) _
  have BY0 : BlkA (w7.alloc (.cells #[.int .i8 st0, .int .i16 sy0, .slice (some ⟨g7, 0, none⟩) len0 len0] 31)) w7.heap.size 31 #[.int .i8 st0, .int .i16 sy0, .slice (some ⟨g7, 0, none⟩) len0 len0] := BlkA.new rfl _ _
  generalize (w7.alloc (.cells #[.int .i8 st0, .int .i16 sy0, .slice (some ⟨g7, 0, none⟩) len0 len0] 31)) = w8 at b8 BY0 ⊢
  have c8 : Below w.heap.size w w8 := blink c7 b8
  have hs8 : w7.heap.size ≤ w8.heap.size := b8.size
  have hx0 : w7.heap.size < w8.heap.size := BY0.lt
  have CD8 : Below w.heap.size w w8.drew := Below.drew c8
  have BD8 : Below w8.heap.size w8 w8.drew := (Below.refl _ _).drew
  have SD8 : w8.drew.cell? ⟨w.heap.size, 0, none⟩ = some (.int .i8 st0) ∧ w8.drew.cell? ⟨w.heap.size, 1, none⟩ = some (.int .i16 sy0) ∧ w8.drew.cell? ⟨w.heap.size, 2, none⟩ = some (.slice a0 len0 cap0) ∧ w8.drew.cell? ⟨w.heap.size + 1, 0, none⟩ = some (.int .i8 x10) ∧ w8.drew.cell? ⟨w.heap.size + 1, 1, none⟩ = some (.int .i16 x11) ∧ w8.drew.cell? ⟨w.heap.size + 1 + 1, 0, none⟩ = some (.int .i8 x20) ∧ w8.drew.cell? ⟨w.heap.size + 1 + 1, 1, none⟩ = some (.int .i16 x21) ∧ w8.drew.cell? ⟨w7.heap.size, 0, none⟩ = some (.int .i8 st0) ∧ w8.drew.cell? ⟨w7.heap.size, 1, none⟩ = some (.int .i16 sy0) ∧ w8.drew.cell? ⟨w7.heap.size, 2, none⟩ = some (.slice (some ⟨g7, 0, none⟩) len0 len0) := ⟨cbl BD8 (((((((((BX0).below b2).below b3).below b4).below b5).below b6).below b7).below b8).at 0), cbl BD8 (((((((((BX0).below b2).below b3).below b4).below b5).below b6).below b7).below b8).at 1), cbl BD8 (((((((((BX0).below b2).below b3).below b4).below b5).below b6).below b7).below b8).at 2), cbl BD8 (((((((((BX1).below b2).below b3).below b4).below b5).below b6).below b7).below b8).at 0), cbl BD8 (((((((((BX1).below b2).below b3).below b4).below b5).below b6).below b7).below b8).at 1), cbl BD8 (((((((((BX2).below b2).below b3).below b4).below b5).below b6).below b7).below b8).at 0), cbl BD8 (((((((((BX2).below b2).below b3).below b4).below b5).below b6).below b7).below b8).at 1), cbl BD8 ((BY0).at 0), cbl BD8 ((BY0).at 1), cbl BD8 ((BY0).at 2)⟩
  go_wp2_with fail
  go_region_held3 (fun v => v.cell? ⟨w.heap.size, 0, none⟩ = some (.int .i8 st0) ∧ v.cell? ⟨w.heap.size, 1, none⟩ = some (.int .i16 sy0) ∧ v.cell? ⟨w.heap.size, 2, none⟩ = some (.slice a0 len0 cap0) ∧ v.cell? ⟨w.heap.size + 1, 0, none⟩ = some (.int .i8 x10) ∧ v.cell? ⟨w.heap.size + 1, 1, none⟩ = some (.int .i16 x11) ∧ v.cell? ⟨w.heap.size + 1 + 1, 0, none⟩ = some (.int .i8 x20) ∧ v.cell? ⟨w.heap.size + 1 + 1, 1, none⟩ = some (.int .i16 x21) ∧ v.cell? ⟨w7.heap.size, 0, none⟩ = some (.int .i8 st0) ∧ v.cell? ⟨w7.heap.size, 1, none⟩ = some (.int .i16 sy0) ∧ v.cell? ⟨w7.heap.size, 2, none⟩ = some (.slice (some ⟨g7, 0, none⟩) len0 len0)) (first | exact zS11 | exact zS10 | exact zS9 | exact SD8) (first | (go_at_call 29; (with_reducible refine (toScan_one x10 x11 _).mono ?_); rintro e w9 ⟨rfl, d9⟩; have b9 : Below w8.heap.size w8 w9 := BD8.trans (d9.mono (Nat.le_refl _)); have zS9 : w9.cell? ⟨w.heap.size, 0, none⟩ = some (.int .i8 st0) ∧ w9.cell? ⟨w.heap.size, 1, none⟩ = some (.int .i16 sy0) ∧ w9.cell? ⟨w.heap.size, 2, none⟩ = some (.slice a0 len0 cap0) ∧ w9.cell? ⟨w.heap.size + 1, 0, none⟩ = some (.int .i8 x10) ∧ w9.cell? ⟨w.heap.size + 1, 1, none⟩ = some (.int .i16 x11) ∧ w9.cell? ⟨w.heap.size + 1 + 1, 0, none⟩ = some (.int .i8 x20) ∧ w9.cell? ⟨w.heap.size + 1 + 1, 1, none⟩ = some (.int .i16 x21) ∧ w9.cell? ⟨w7.heap.size, 0, none⟩ = some (.int .i8 st0) ∧ w9.cell? ⟨w7.heap.size, 1, none⟩ = some (.int .i16 sy0) ∧ w9.cell? ⟨w7.heap.size, 2, none⟩ = some (.slice (some ⟨g7, 0, none⟩) len0 len0) := ⟨cbl d9 SD8.1, cbl d9 SD8.2.1, cbl d9 SD8.2.2.1, cbl d9 SD8.2.2.2.1, cbl d9 SD8.2.2.2.2.1, cbl d9 SD8.2.2.2.2.2.1, cbl d9 SD8.2.2.2.2.2.2.1, cbl d9 SD8.2.2.2.2.2.2.2.1, cbl d9 SD8.2.2.2.2.2.2.2.2.1, cbl d9 SD8.2.2.2.2.2.2.2.2.2⟩) | (go_at_call 29; (with_reducible refine (toScan_one x20 x21 _).mono ?_); rintro e w10 ⟨rfl, b10⟩; have zS10 : w10.cell? ⟨w.heap.size, 0, none⟩ = some (.int .i8 st0) ∧ w10.cell? ⟨w.heap.size, 1, none⟩ = some (.int .i16 sy0) ∧ w10.cell? ⟨w.heap.size, 2, none⟩ = some (.slice a0 len0 cap0) ∧ w10.cell? ⟨w.heap.size + 1, 0, none⟩ = some (.int .i8 x10) ∧ w10.cell? ⟨w.heap.size + 1, 1, none⟩ = some (.int .i16 x11) ∧ w10.cell? ⟨w.heap.size + 1 + 1, 0, none⟩ = some (.int .i8 x20) ∧ w10.cell? ⟨w.heap.size + 1 + 1, 1, none⟩ = some (.int .i16 x21) ∧ w10.cell? ⟨w7.heap.size, 0, none⟩ = some (.int .i8 st0) ∧ w10.cell? ⟨w7.heap.size, 1, none⟩ = some (.int .i16 sy0) ∧ w10.cell? ⟨w7.heap.size, 2, none⟩ = some (.slice (some ⟨g7, 0, none⟩) len0 len0) := ⟨cbl b10 zS9.1, cbl b10 zS9.2.1, cbl b10 zS9.2.2.1, cbl b10 zS9.2.2.2.1, cbl b10 zS9.2.2.2.2.1, cbl b10 zS9.2.2.2.2.2.1, cbl b10 zS9.2.2.2.2.2.2.1, cbl b10 zS9.2.2.2.2.2.2.2.1, cbl b10 zS9.2.2.2.2.2.2.2.2.1, cbl b10 zS9.2.2.2.2.2.2.2.2.2⟩) | (go_at_call 40; (with_reducible refine (icg_any _ _ _ ps0 _ _ _ _ _ HF0.out HV1.out HV2.out (((((o7).below b8).below BD8).below d9).below b10).reads).mono ?_); rintro e w11 ⟨rfl, b11⟩; have zS11 : w11.cell? ⟨w.heap.size, 0, none⟩ = some (.int .i8 st0) ∧ w11.cell? ⟨w.heap.size, 1, none⟩ = some (.int .i16 sy0) ∧ w11.cell? ⟨w.heap.size, 2, none⟩ = some (.slice a0 len0 cap0) ∧ w11.cell? ⟨w.heap.size + 1, 0, none⟩ = some (.int .i8 x10) ∧ w11.cell? ⟨w.heap.size + 1, 1, none⟩ = some (.int .i16 x11) ∧ w11.cell? ⟨w.heap.size + 1 + 1, 0, none⟩ = some (.int .i8 x20) ∧ w11.cell? ⟨w.heap.size + 1 + 1, 1, none⟩ = some (.int .i16 x21) ∧ w11.cell? ⟨w7.heap.size, 0, none⟩ = some (.int .i8 st0) ∧ w11.cell? ⟨w7.heap.size, 1, none⟩ = some (.int .i16 sy0) ∧ w11.cell? ⟨w7.heap.size, 2, none⟩ = some (.slice (some ⟨g7, 0, none⟩) len0 len0) := ⟨cbl b11 zS10.1, cbl b11 zS10.2.1, cbl b11 zS10.2.2.1, cbl b11 zS10.2.2.2.1, cbl b11 zS10.2.2.2.2.1, cbl b11 zS10.2.2.2.2.2.1, cbl b11 zS10.2.2.2.2.2.2.1, cbl b11 zS10.2.2.2.2.2.2.2.1, cbl b11 zS10.2.2.2.2.2.2.2.2.1, cbl b11 zS10.2.2.2.2.2.2.2.2.2⟩))
  have c9 : Below w.heap.size w w9 := blink c8 b9
  have hs9 : w8.heap.size ≤ w9.heap.size := b9.size
  have c10 : Below w.heap.size w w10 := blink c9 b10
  have hs10 : w9.heap.size ≤ w10.heap.size := b10.size
  have c11 : Below w.heap.size w w11 := blink c10 b11
  have hs11 : w10.heap.size ≤ w11.heap.size := b11.size
  clear zS9 zS10 zS11 SD8 CD8 BD8
  have CD11 : Below w.heap.size w w11.drew := Below.drew c11
  have BD11 : Below w11.heap.size w11 w11.drew := (Below.refl _ _).drew
  have SD11 : w11.drew.cell? ⟨w.heap.size, 0, none⟩ = some (.int .i8 st0) ∧ w11.drew.cell? ⟨w.heap.size, 1, none⟩ = some (.int .i16 sy0) ∧ w11.drew.cell? ⟨w.heap.size, 2, none⟩ = some (.slice a0 len0 cap0) ∧ w11.drew.cell? ⟨w.heap.size + 1, 0, none⟩ = some (.int .i8 x10) ∧ w11.drew.cell? ⟨w.heap.size + 1, 1, none⟩ = some (.int .i16 x11) ∧ w11.drew.cell? ⟨w.heap.size + 1 + 1, 0, none⟩ = some (.int .i8 x20) ∧ w11.drew.cell? ⟨w.heap.size + 1 + 1, 1, none⟩ = some (.int .i16 x21) ∧ w11.drew.cell? ⟨w7.heap.size, 0, none⟩ = some (.int .i8 st0) ∧ w11.drew.cell? ⟨w7.heap.size, 1, none⟩ = some (.int .i16 sy0) ∧ w11.drew.cell? ⟨w7.heap.size, 2, none⟩ = some (.slice (some ⟨g7, 0, none⟩) len0 len0) := ⟨cbl BD11 ((((((((((((BX0).below b2).below b3).below b4).below b5).below b6).below b7).below b8).below b9).below b10).below b11).at 0), cbl BD11 ((((((((((((BX0).below b2).below b3).below b4).below b5).below b6).below b7).below b8).below b9).below b10).below b11).at 1), cbl BD11 ((((((((((((BX0).below b2).below b3).below b4).below b5).below b6).below b7).below b8).below b9).below b10).below b11).at 2), cbl BD11 ((((((((((((BX1).below b2).below b3).below b4).below b5).below b6).below b7).below b8).below b9).below b10).below b11).at 0), cbl BD11 ((((((((((((BX1).below b2).below b3).below b4).below b5).below b6).below b7).below b8).below b9).below b10).below b11).at 1), cbl BD11 ((((((((((((BX2).below b2).below b3).below b4).below b5).below b6).below b7).below b8).below b9).below b10).below b11).at 0), cbl BD11 ((((((((((((BX2).below b2).below b3).below b4).below b5).below b6).below b7).below b8).below b9).below b10).below b11).at 1), cbl BD11 (((((BY0).below b9).below b10).below b11).at 0), cbl BD11 (((((BY0).below b9).below b10).below b11).at 1), cbl BD11 (((((BY0).below b9).below b10).below b11).at 2)⟩
  go_wp2_with fail
  go_region_held3 (fun v => v.cell? ⟨w.heap.size, 0, none⟩ = some (.int .i8 st0) ∧ v.cell? ⟨w.heap.size, 1, none⟩ = some (.int .i16 sy0) ∧ v.cell? ⟨w.heap.size, 2, none⟩ = some (.slice a0 len0 cap0) ∧ v.cell? ⟨w.heap.size + 1, 0, none⟩ = some (.int .i8 x10) ∧ v.cell? ⟨w.heap.size + 1, 1, none⟩ = some (.int .i16 x11) ∧ v.cell? ⟨w.heap.size + 1 + 1, 0, none⟩ = some (.int .i8 x20) ∧ v.cell? ⟨w.heap.size + 1 + 1, 1, none⟩ = some (.int .i16 x21) ∧ v.cell? ⟨w7.heap.size, 0, none⟩ = some (.int .i8 st0) ∧ v.cell? ⟨w7.heap.size, 1, none⟩ = some (.int .i16 sy0) ∧ v.cell? ⟨w7.heap.size, 2, none⟩ = some (.slice (some ⟨g7, 0, none⟩) len0 len0)) (first | exact zS13 | exact zS12 | exact SD11) (first | (go_at_call 17; (with_reducible refine (toNet_any st0 sy0 a0 len0 cap0 ps0 _ (hr0.below CD11) HL0.out).mono ?_); rintro e w12 ⟨g12, rfl, o12, d12⟩; have b12 : Below w11.heap.size w11 w12 := BD11.trans (d12.mono (Nat.le_refl _)); have zS12 : w12.cell? ⟨w.heap.size, 0, none⟩ = some (.int .i8 st0) ∧ w12.cell? ⟨w.heap.size, 1, none⟩ = some (.int .i16 sy0) ∧ w12.cell? ⟨w.heap.size, 2, none⟩ = some (.slice a0 len0 cap0) ∧ w12.cell? ⟨w.heap.size + 1, 0, none⟩ = some (.int .i8 x10) ∧ w12.cell? ⟨w.heap.size + 1, 1, none⟩ = some (.int .i16 x11) ∧ w12.cell? ⟨w.heap.size + 1 + 1, 0, none⟩ = some (.int .i8 x20) ∧ w12.cell? ⟨w.heap.size + 1 + 1, 1, none⟩ = some (.int .i16 x21) ∧ w12.cell? ⟨w7.heap.size, 0, none⟩ = some (.int .i8 st0) ∧ w12.cell? ⟨w7.heap.size, 1, none⟩ = some (.int .i16 sy0) ∧ w12.cell? ⟨w7.heap.size, 2, none⟩ = some (.slice (some ⟨g7, 0, none⟩) len0 len0) := ⟨cbl d12 SD11.1, cbl d12 SD11.2.1, cbl d12 SD11.2.2.1, cbl d12 SD11.2.2.2.1, cbl d12 SD11.2.2.2.2.1, cbl d12 SD11.2.2.2.2.2.1, cbl d12 SD11.2.2.2.2.2.2.1, cbl d12 SD11.2.2.2.2.2.2.2.1, cbl d12 SD11.2.2.2.2.2.2.2.2.1, cbl d12 SD11.2.2.2.2.2.2.2.2.2⟩) | (go_at_call 19; (with_reducible refine (eqNet_eq st0 sy0 _ _ ps0 _ (((((((o7).below b8).below b9).below b10).below b11).below BD11).below d12).reads o12.reads HX0.out).mono ?_); rintro e w13 ⟨rfl, b13⟩; have zS13 : w13.cell? ⟨w.heap.size, 0, none⟩ = some (.int .i8 st0) ∧ w13.cell? ⟨w.heap.size, 1, none⟩ = some (.int .i16 sy0) ∧ w13.cell? ⟨w.heap.size, 2, none⟩ = some (.slice a0 len0 cap0) ∧ w13.cell? ⟨w.heap.size + 1, 0, none⟩ = some (.int .i8 x10) ∧ w13.cell? ⟨w.heap.size + 1, 1, none⟩ = some (.int .i16 x11) ∧ w13.cell? ⟨w.heap.size + 1 + 1, 0, none⟩ = some (.int .i8 x20) ∧ w13.cell? ⟨w.heap.size + 1 + 1, 1, none⟩ = some (.int .i16 x21) ∧ w13.cell? ⟨w7.heap.size, 0, none⟩ = some (.int .i8 st0) ∧ w13.cell? ⟨w7.heap.size, 1, none⟩ = some (.int .i16 sy0) ∧ w13.cell? ⟨w7.heap.size, 2, none⟩ = some (.slice (some ⟨g7, 0, none⟩) len0 len0) := ⟨cbl b13 zS12.1, cbl b13 zS12.2.1, cbl b13 zS12.2.2.1, cbl b13 zS12.2.2.2.1, cbl b13 zS12.2.2.2.2.1, cbl b13 zS12.2.2.2.2.2.1, cbl b13 zS12.2.2.2.2.2.2.1, cbl b13 zS12.2.2.2.2.2.2.2.1, cbl b13 zS12.2.2.2.2.2.2.2.2.1, cbl b13 zS12.2.2.2.2.2.2.2.2.2⟩))
  have c12 : Below w.heap.size w w12 := blink c11 b12
  have hs12 : w11.heap.size ≤ w12.heap.size := b12.size
  have c13 : Below w.heap.size w w13 := blink c12 b13
  have hs13 : w12.heap.size ≤ w13.heap.size := b13.size
  clear zS12 zS13 SD11 CD11 BD11
  go_wp2_with fail
  go_ret
  exact ⟨rfl, c13⟩
end Go.Proofs.Ytkcbhipgdajdkaa.fnExactCanGo
