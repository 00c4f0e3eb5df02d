/-
  The walk of FnExactRouteTimes: program and model answer the same at every argument; neither writes into its arguments, and what is answered lies in new memory.
-/
import Derived.Test.YtloelbaaolhlhaaNtA
import Derived.Test.YtloelbaaolhlhaaTScan
import Derived.Test.YtloelbaaolhlhaaToI
import Derived.Test.YtloelbaaolhlhaaToK
import Derived.Test.YtloelbaaolhlhaaKeepO
import Derived.Test.YtloelbaaolhlhaaRtO
import Derived.Test.YtloelbaaolhlhaaMInt64A2
import Derived.Test.YtloelbaaolhlhaaEInt64A2
import Derived.Test.YtloelbaaolhlhaaRtS
import Derived.Test.YtloelbaaolhlhaaRtI
namespace Go.Proofs.Ytloelbaaolhlhaa.fnExactRouteTimes
open Go Go.RowKit
set_option linter.unusedVariables false

set_option maxHeartbeats 16000000 in
set_option maxRecDepth 100000 in
theorem walk (st0 sy0 : Int) (a0 : Option Addr) (len0 cap0 : Nat) (ps0 : List Lan) (a1 : Option Addr) (len1 cap1 : Nat) (z1 : List Int) (a2 : Int) (w : World) (hh0 : (IsRowLa w a0 len0 cap0 ps0 ∧ FitsLa ps0) ∧ (-128 ≤ st0 ∧ st0 ≤ 127) ∧ (-32768 ≤ sy0 ∧ sy0 ≤ 32767)) (hr1 : IsRow .i64 w a1 len1 cap1 z1) (hw2 : (Lit.int .i64 a2).wf = true) :
    Calls Try.prog 4 #[.agg #[.int .i8 st0, .int .i16 sy0, .slice a0 len0 cap0], .slice a1 len1 cap1, .int .i64 a2] w fun e w' => e = .returned (.bool true) ∧ Below w.heap.size w w' := by
  obtain ⟨⟨hr0, hf0⟩, hst0, hsy0⟩ := hh0
  have HFQ0 := Lib.hid hf0
  have HST0 := Lib.hid hst0
  have HSY0 := Lib.hid hsy0
  have HN0 := Lib.hid hr0.len_ok
  clear hf0 hst0 hsy0
  by_cases hm1 : len1 ≤ 1048576
  rotate_left
  · have t1 : decide ((1048576 : Int) < (len1 : Int)) = true := by simp; omega
    go_enter Try.func4, Try.ntmps4
    go_wp2_with fail
    go_ret
    exact ⟨rfl, by repeat (first | exact Below.refl _ _ | refine Below.alloc ?_ (by first | (simp; done) | (simp; omega) | omega) _)⟩
  have t1 : decide ((1048576 : Int) < (len1 : Int)) = false := by simp; omega
  by_cases hm0 : 0 ≤ 1048576 - (len0 : Int)
  rotate_left
  · have t0 : decide (1048576 - (len0 : Int) < 0) = true := decide_eq_true (by omega)
    go_enter Try.func4, Try.ntmps4
    go_wp2_with fail
    have b1 : Below w.heap.size w (w.alloc (.cells #[.int .i8 st0, .int .i16 sy0, .slice a0 len0 cap0] 26)) := ((Below.refl _ _).alloc (Nat.le_refl _) _)
    have BX0 : BlkA (w.alloc (.cells #[.int .i8 st0, .int .i16 sy0, .slice a0 len0 cap0] 26)) (w.heap.size) 26 #[.int .i8 st0, .int .i16 sy0, .slice a0 len0 cap0] := (BlkA.new rfl _ _)
    generalize (w.alloc (.cells #[.int .i8 st0, .int .i16 sy0, .slice a0 len0 cap0] 26)) = w1 at b1 BX0 ⊢
    have c1 := b1
    have hs1 : w.heap.size ≤ w1.heap.size := b1.size
    have hb0 : w.heap.size < w1.heap.size := BX0.lt
    have va0_0_1 : w1.cell? ⟨w.heap.size, 0, none⟩ = some (.int .i8 st0) := (BX0).at 0
    have va0_1_1 : w1.cell? ⟨w.heap.size, 1, none⟩ = some (.int .i16 sy0) := (BX0).at 1
    have va0_2_1 : w1.cell? ⟨w.heap.size, 2, none⟩ = some (.slice a0 len0 cap0) := (BX0).at 2
    have la0_1 : w.heap.size < w1.heap.size := (BX0).lt
    go_wp2_with fail
    refine (szNet_big st0 sy0 a0 len0 cap0 1048576 (by omega) (by omega) (by omega) HN0.out _).mono ?_
    rintro e w2 ⟨rfl, b2⟩
    have c2 : Below w.heap.size w w2 := blink c1 b2
    have hs2 : w1.heap.size ≤ w2.heap.size := b2.size
    go_wp2_with fail
    go_ret
    exact ⟨rfl, c2⟩
  have t0 : decide (1048576 - (len0 : Int) < 0) = false := decide_eq_false (by omega)
  have hlq0 : ps0.length = len0 := hr0.len_eq
  have HX0 : Hid (ps0.length ≤ 1048576) := Lib.hid (by omega)
  have HL0 : Hid (len0 ≤ 1048576) := Lib.hid (by omega)
  have hxb0 : ps0.length ≤ 1048576 := HX0.out
  clear hlq0
  have HF0 : Hid (FitN st0 sy0 ps0) := Lib.hid ⟨HST0.out, HSY0.out, HFQ0.out, HX0.out⟩
  obtain ⟨xs1, hxs1⟩ : ∃ xs, z1.take len1 = xs := ⟨_, rfl⟩
  have hxl1 : xs1.length = len1 := by rw [← hxs1]; exact hr1.len_le
  have HZ1 := Lib.hid hxs1
  have HX1 : Hid (xs1.length ≤ 1048576) := Lib.hid (by rw [hxl1]; exact hm1)
  have hxb1 : xs1.length ≤ 1048576 := HX1.out
  clear hxs1 hxl1
  have hlb0 := rtR_len st0 sy0 ps0 xs1 a2
  have HLB0 : Hid ((rtR st0 sy0 ps0 xs1 a2).length ≤ 1048576) := Lib.hid (by omega)
  go_enter Try.func4, Try.ntmps4
  go_wp2_with fail
  have b1 : Below w.heap.size w (w.alloc (.cells #[.int .i8 st0, .int .i16 sy0, .slice a0 len0 cap0] 26)) := ((Below.refl _ _).alloc (Nat.le_refl _) _)
  have BX0 : BlkA (w.alloc (.cells #[.int .i8 st0, .int .i16 sy0, .slice a0 len0 cap0] 26)) (w.heap.size) 26 #[.int .i8 st0, .int .i16 sy0, .slice a0 len0 cap0] := (BlkA.new rfl _ _)
  generalize (w.alloc (.cells #[.int .i8 st0, .int .i16 sy0, .slice a0 len0 cap0] 26)) = w1 at b1 BX0 ⊢
  have c1 := b1
  have hs1 : w.heap.size ≤ w1.heap.size := b1.size
  have hb0 : w.heap.size < w1.heap.size := BX0.lt
  have va0_0_1 : w1.cell? ⟨w.heap.size, 0, none⟩ = some (.int .i8 st0) := (BX0).at 0
  have va0_1_1 : w1.cell? ⟨w.heap.size, 1, none⟩ = some (.int .i16 sy0) := (BX0).at 1
  have va0_2_1 : w1.cell? ⟨w.heap.size, 2, none⟩ = some (.slice a0 len0 cap0) := (BX0).at 2
  have la0_1 : w.heap.size < w1.heap.size := (BX0).lt
  go_wp2_with fail
  refine (szNet_fit st0 sy0 a0 len0 cap0 1048576 (by omega) (by omega) _).mono ?_
  rintro e w2 ⟨rfl, b2⟩
  have c2 : Below w.heap.size w w2 := blink c1 b2
  have hs2 : w1.heap.size ≤ w2.heap.size := b2.size
  have va0_0_2 : w2.cell? ⟨w.heap.size, 0, none⟩ = some (.int .i8 st0) := ((BX0).below b2).at 0
  have va0_1_2 : w2.cell? ⟨w.heap.size, 1, none⟩ = some (.int .i16 sy0) := ((BX0).below b2).at 1
  have va0_2_2 : w2.cell? ⟨w.heap.size, 2, none⟩ = some (.slice a0 len0 cap0) := ((BX0).below b2).at 2
  have la0_2 : w.heap.size < w2.heap.size := ((BX0).below b2).lt
  go_wp2_with fail
  refine (toNet_any st0 sy0 a0 len0 cap0 ps0 _ (hr0.below c2) HL0.out).mono ?_
  rintro e w3 ⟨g3, rfl, o3, b3⟩
  have c3 : Below w.heap.size w w3 := blink c2 b3
  have hs3 : w2.heap.size ≤ w3.heap.size := b3.size
  have lo3 : Hid (∀ k, Value.ownBlock (.slice (some ⟨g3, 0, none⟩) len0 len0) = some k → w2.heap.size ≤ k ∧ k < w3.heap.size) := Lib.hid o3.block
  go_wp2_with fail
  refine (toI_as a1 len1 cap1 z1 xs1 HZ1 _ (hr1.below c3) hm1).mono ?_
  rintro e w4 ⟨rfl, o4, b4⟩
  have c4 : Below w.heap.size w w4 := blink c3 b4
  have hs4 : w3.heap.size ≤ w4.heap.size := b4.size
  have lo4 : Hid (∀ k, Value.ownBlock (.slice (some ⟨w3.heap.size, 0, none⟩) len1 len1) = some k → w3.heap.size ≤ k ∧ k < w4.heap.size) := Lib.hid o4.block
  go_wp2_with fail
  refine (srt_any _ _ _ _ ps0 xs1 a2 _ HF0.out ((o3).below b4).reads (o4).reads HX1.out).mono ?_
  rintro e w5 ⟨sv0, rfl, so0, b5⟩
  have c5 : Below w.heap.size w w5 := blink c4 b5
  have hs5 : w4.heap.size ≤ w5.heap.size := b5.size
  have lso0 : Hid (∀ k, Value.ownBlock sv0 = some k → w4.heap.size ≤ k ∧ k < w5.heap.size) := Lib.hid so0.block
  have va0_0_5 : w5.cell? ⟨w.heap.size, 0, none⟩ = some (.int .i8 st0) := (((((BX0).below b2).below b3).below b4).below b5).at 0
  have va0_1_5 : w5.cell? ⟨w.heap.size, 1, none⟩ = some (.int .i16 sy0) := (((((BX0).below b2).below b3).below b4).below b5).at 1
  have va0_2_5 : w5.cell? ⟨w.heap.size, 2, none⟩ = some (.slice a0 len0 cap0) := (((((BX0).below b2).below b3).below b4).below b5).at 2
  have la0_5 : w.heap.size < w5.heap.size := (((((BX0).below b2).below b3).below b4).below b5).lt
  go_wp2_with fail
  refine (toNet_any st0 sy0 a0 len0 cap0 ps0 _ (hr0.below c5) HL0.out).mono ?_
  rintro e w6 ⟨g6, rfl, o6, b6⟩
  have c6 : Below w.heap.size w w6 := blink c5 b6
  have hs6 : w5.heap.size ≤ w6.heap.size := b6.size
  have lo6 : Hid (∀ k, Value.ownBlock (.slice (some ⟨g6, 0, none⟩) len0 len0) = some k → w5.heap.size ≤ k ∧ k < w6.heap.size) := Lib.hid o6.block
  have va0_0_6 : w6.cell? ⟨w.heap.size, 0, none⟩ = some (.int .i8 st0) := ((((((BX0).below b2).below b3).below b4).below b5).below b6).at 0
  have va0_1_6 : w6.cell? ⟨w.heap.size, 1, none⟩ = some (.int .i16 sy0) := ((((((BX0).below b2).below b3).below b4).below b5).below b6).at 1
  have va0_2_6 : w6.cell? ⟨w.heap.size, 2, none⟩ = some (.slice a0 len0 cap0) := ((((((BX0).below b2).below b3).below b4).below b5).below b6).at 2
  have la0_6 : w.heap.size < w6.heap.size := ((((((BX0).below b2).below b3).below b4).below b5).below b6).lt
  go_wp2_with fail
  have b7 : Below w6.heap.size w6 (w6.alloc (.cells #[.int .i8 st0, .int .i16 sy0, .slice (some ⟨g6, 0, none⟩) len0 len0] 35)) := (Below.refl _ _).alloc (Nat.le_refl _) _
  have BY0 : BlkA (w6.alloc (.cells #[.int .i8 st0, .int .i16 sy0, .slice (some ⟨g6, 0, none⟩) len0 len0] 35)) w6.heap.size 35 #[.int .i8 st0, .int .i16 sy0, .slice (some ⟨g6, 0, none⟩) len0 len0] := BlkA.new rfl _ _
  generalize (w6.alloc (.cells #[.int .i8 st0, .int .i16 sy0, .slice (some ⟨g6, 0, none⟩) len0 len0] 35)) = w7 at b7 BY0 ⊢
  have c7 : Below w.heap.size w w7 := blink c6 b7
  have hs7 : w6.heap.size ≤ w7.heap.size := b7.size
  have hx0 : w6.heap.size < w7.heap.size := BY0.lt
  go_wp2_with fail
  refine (toI_as a1 len1 cap1 z1 xs1 HZ1 _ (hr1.below c7) hm1).mono ?_
  rintro e w8 ⟨rfl, o8, b8⟩
  have c8 : Below w.heap.size w w8 := blink c7 b8
  have hs8 : w7.heap.size ≤ w8.heap.size := b8.size
  have lo8 : Hid (∀ k, Value.ownBlock (.slice (some ⟨w7.heap.size, 0, none⟩) len1 len1) = some k → w7.heap.size ≤ k ∧ k < w8.heap.size) := Lib.hid o8.block
  have vx0_0_8 : w8.cell? ⟨w6.heap.size, 0, none⟩ = some (.int .i8 st0) := ((BY0).below b8).at 0
  have vx0_1_8 : w8.cell? ⟨w6.heap.size, 1, none⟩ = some (.int .i16 sy0) := ((BY0).below b8).at 1
  have vx0_2_8 : w8.cell? ⟨w6.heap.size, 2, none⟩ = some (.slice (some ⟨g6, 0, none⟩) len0 len0) := ((BY0).below b8).at 2
  have lx0_8 : w6.heap.size < w8.heap.size := ((BY0).below b8).lt
  go_wp2_with fail
  refine (irt_any _ _ _ _ ps0 xs1 a2 _ HF0.out (((o6).below b7).below b8).reads (o8).reads HX1.out).mono ?_
  rintro e w9 ⟨gv0, rfl, go0, b9⟩
  have c9 : Below w.heap.size w w9 := blink c8 b9
  have hs9 : w8.heap.size ≤ w9.heap.size := b9.size
  have lgo0 : Hid (∀ k, Value.ownBlock gv0 = some k → w8.heap.size ≤ k ∧ k < w9.heap.size) := Lib.hid go0.block
  go_wp2_with fail
  refine (eqInt64A2S_eq _ _ (rtR st0 sy0 ps0 xs1 a2) _ (go0).reads (((((so0).below b6).below b7).below b8).below b9).reads (HLB0.out)).mono ?_
  rintro e w10 ⟨rfl, b10⟩
  have c10 : Below w.heap.size w w10 := blink c9 b10
  have hs10 : w9.heap.size ≤ w10.heap.size := b10.size
  have CD10 : Below w.heap.size w w10.drew := Below.drew c10
  have BD10 : Below w10.heap.size w10 w10.drew := (Below.refl _ _).drew
  have SD10 : w10.drew.cell? ⟨w.heap.size, 0, none⟩ = some (.int .i8 st0) ∧ w10.drew.cell? ⟨w.heap.size, 1, none⟩ = some (.int .i16 sy0) ∧ w10.drew.cell? ⟨w.heap.size, 2, none⟩ = some (.slice a0 len0 cap0) ∧ w10.drew.cell? ⟨w6.heap.size, 0, none⟩ = some (.int .i8 st0) ∧ w10.drew.cell? ⟨w6.heap.size, 1, none⟩ = some (.int .i16 sy0) ∧ w10.drew.cell? ⟨w6.heap.size, 2, none⟩ = some (.slice (some ⟨g6, 0, none⟩) len0 len0) := ⟨cbl BD10 (((((((((((BX0).below b2).below b3).below b4).below b5).below b6).below b7).below b8).below b9).below b10).at 0), cbl BD10 (((((((((((BX0).below b2).below b3).below b4).below b5).below b6).below b7).below b8).below b9).below b10).at 1), cbl BD10 (((((((((((BX0).below b2).below b3).below b4).below b5).below b6).below b7).below b8).below b9).below b10).at 2), cbl BD10 (((((BY0).below b8).below b9).below b10).at 0), cbl BD10 (((((BY0).below b8).below b9).below b10).at 1), cbl BD10 (((((BY0).below b8).below b9).below b10).at 2)⟩
  go_wp2_with fail
  go_region_held3 (fun v => v.cell? ⟨w.heap.size, 0, none⟩ = some (.int .i8 st0) ∧ v.cell? ⟨w.heap.size, 1, none⟩ = some (.int .i16 sy0) ∧ v.cell? ⟨w.heap.size, 2, none⟩ = some (.slice a0 len0 cap0) ∧ v.cell? ⟨w6.heap.size, 0, none⟩ = some (.int .i8 st0) ∧ v.cell? ⟨w6.heap.size, 1, none⟩ = some (.int .i16 sy0) ∧ v.cell? ⟨w6.heap.size, 2, none⟩ = some (.slice (some ⟨g6, 0, none⟩) len0 len0)) (first | exact zS12 | exact zS11 | exact SD10) (first | (go_at_call 16; (with_reducible refine (toNet_any st0 sy0 a0 len0 cap0 ps0 _ (hr0.below CD10) HL0.out).mono ?_); rintro e w11 ⟨g11, rfl, o11, d11⟩; have b11 : Below w10.heap.size w10 w11 := BD10.trans (d11.mono (Nat.le_refl _)); have zS11 : w11.cell? ⟨w.heap.size, 0, none⟩ = some (.int .i8 st0) ∧ w11.cell? ⟨w.heap.size, 1, none⟩ = some (.int .i16 sy0) ∧ w11.cell? ⟨w.heap.size, 2, none⟩ = some (.slice a0 len0 cap0) ∧ w11.cell? ⟨w6.heap.size, 0, none⟩ = some (.int .i8 st0) ∧ w11.cell? ⟨w6.heap.size, 1, none⟩ = some (.int .i16 sy0) ∧ w11.cell? ⟨w6.heap.size, 2, none⟩ = some (.slice (some ⟨g6, 0, none⟩) len0 len0) := ⟨cbl d11 SD10.1, cbl d11 SD10.2.1, cbl d11 SD10.2.2.1, cbl d11 SD10.2.2.2.1, cbl d11 SD10.2.2.2.2.1, cbl d11 SD10.2.2.2.2.2⟩) | (go_at_call 20; (with_reducible refine (eqNet_eq st0 sy0 _ _ ps0 _ (((((((o6).below b7).below b8).below b9).below b10).below BD10).below d11).reads o11.reads HX0.out).mono ?_); rintro e w12 ⟨rfl, b12⟩; have zS12 : w12.cell? ⟨w.heap.size, 0, none⟩ = some (.int .i8 st0) ∧ w12.cell? ⟨w.heap.size, 1, none⟩ = some (.int .i16 sy0) ∧ w12.cell? ⟨w.heap.size, 2, none⟩ = some (.slice a0 len0 cap0) ∧ w12.cell? ⟨w6.heap.size, 0, none⟩ = some (.int .i8 st0) ∧ w12.cell? ⟨w6.heap.size, 1, none⟩ = some (.int .i16 sy0) ∧ w12.cell? ⟨w6.heap.size, 2, none⟩ = some (.slice (some ⟨g6, 0, none⟩) len0 len0) := ⟨cbl b12 zS11.1, cbl b12 zS11.2.1, cbl b12 zS11.2.2.1, cbl b12 zS11.2.2.2.1, cbl b12 zS11.2.2.2.2.1, cbl b12 zS11.2.2.2.2.2⟩))
  have c11 : Below w.heap.size w w11 := blink c10 b11
  have hs11 : w10.heap.size ≤ w11.heap.size := b11.size
  have c12 : Below w.heap.size w w12 := blink c11 b12
  have hs12 : w11.heap.size ≤ w12.heap.size := b12.size
  clear zS11 zS12 SD10 CD10 BD10
  go_wp2_with fail
  refine (toI_as a1 len1 cap1 z1 xs1 HZ1 _ (hr1.below c12) hm1).mono ?_
  rintro e w13 ⟨rfl, o13, b13⟩
  have c13 : Below w.heap.size w w13 := blink c12 b13
  have hs13 : w12.heap.size ≤ w13.heap.size := b13.size
  have lo13 : Hid (∀ k, Value.ownBlock (.slice (some ⟨w12.heap.size, 0, none⟩) len1 len1) = some k → w12.heap.size ≤ k ∧ k < w13.heap.size) := Lib.hid o13.block
  go_wp2_with fail
  refine (eqI_any _ _ xs1 xs1 _ ((((((o8).below b9).below b10).below b11).below b12).below b13).reads (o13).reads (HX1.out) (HX1.out)).mono ?_
  rintro e w14 ⟨rfl, b14⟩
  have c14 : Below w.heap.size w w14 := blink c13 b14
  have hs14 : w13.heap.size ≤ w14.heap.size := b14.size
  rw [eqB_true rfl]
  have vx0_0_14 : w14.cell? ⟨w6.heap.size, 0, none⟩ = some (.int .i8 st0) := ((((((((BY0).below b8).below b9).below b10).below b11).below b12).below b13).below b14).at 0
  have vx0_1_14 : w14.cell? ⟨w6.heap.size, 1, none⟩ = some (.int .i16 sy0) := ((((((((BY0).below b8).below b9).below b10).below b11).below b12).below b13).below b14).at 1
  have vx0_2_14 : w14.cell? ⟨w6.heap.size, 2, none⟩ = some (.slice (some ⟨g6, 0, none⟩) len0 len0) := ((((((((BY0).below b8).below b9).below b10).below b11).below b12).below b13).below b14).at 2
  have lx0_14 : w6.heap.size < w14.heap.size := ((((((((BY0).below b8).below b9).below b10).below b11).below b12).below b13).below b14).lt
  go_wp2_with fail
  refine (markNet_any _ _ st0 sy0 _ ps0 _ _ (((((((((o6).below b7).below b8).below b9).below b10).below b11).below b12).below b13).below b14) (by omega) (by omega) HX0.out).mono ?_
  rintro e w15 ⟨rfl, mk1, G15⟩
  have K15 : KeepsOut w5.heap.size w6.heap.size w14 w15 := G15 _ _ (fun k hk => by have := lo6.out k hk; omega)
  have c15 : Below w.heap.size w w15 := kout_below c14 K15 (by omega) (by omega)
  have hs15 : w14.heap.size ≤ w15.heap.size := K15.size
  go_wp2_with fail
  refine (mark2_any _ _ xs1 _ _ ((((((((o8).below b9).below b10).below b11).below b12).below b13).below b14).out K15 (fun k hk => by have := lo8.out k hk; omega)) (by omega) (by omega) (HX1.out)).mono ?_
  rintro e w16 ⟨rfl, mk2, g16⟩
  have K16 : KeepsOut w7.heap.size w8.heap.size w15 w16 := keepsOut_grown g16 (fun k hk => by have := lo8.out k hk; omega)
  have c16 : Below w.heap.size w w16 := kout_below c15 K16 (by omega) (by omega)
  have hs16 : w15.heap.size ≤ w16.heap.size := K16.size
  have lmk2 : Hid (∀ k, Value.ownBlock (.slice (some ⟨w7.heap.size, 0, none⟩) len1 len1) = some k → w7.heap.size ≤ k ∧ k < w8.heap.size) := lo8
  go_wp2_with fail
  refine (eqInt64A2S_eq _ _ (rtR st0 sy0 ps0 xs1 a2) _ ((((((((go0).below b10).below b11).below b12).below b13).below b14).out K15 (fun k hk => by have := lgo0.out k hk; omega)).out K16 (fun k hk => by have := lgo0.out k hk; omega)).reads ((((((((((((so0).below b6).below b7).below b8).below b9).below b10).below b11).below b12).below b13).below b14).out K15 (fun k hk => by have := lso0.out k hk; omega)).out K16 (fun k hk => by have := lso0.out k hk; omega)).reads (HLB0.out)).mono ?_
  rintro e w17 ⟨rfl, b17⟩
  have c17 : Below w.heap.size w w17 := blink c16 b17
  have hs17 : w16.heap.size ≤ w17.heap.size := b17.size
  go_wp2_with fail
  refine (markA_any _ _ _ (rtR st0 sy0 ps0 xs1 a2) _ _ (((((((((go0).below b10).below b11).below b12).below b13).below b14).out K15 (fun k hk => by have := lgo0.out k hk; omega)).out K16 (fun k hk => by have := lgo0.out k hk; omega)).below b17) (by omega) (by omega) (HLB0.out)).mono ?_
  rintro e w18 ⟨rfl, mk3, g18⟩
  have K18 : KeepsOut w8.heap.size w9.heap.size w17 w18 := keepsOut_grown g18 (fun k hk => by have := lgo0.out k hk; omega)
  have c18 : Below w.heap.size w w18 := kout_below c17 K18 (by omega) (by omega)
  have hs18 : w17.heap.size ≤ w18.heap.size := K18.size
  have lmk3 : Hid (∀ k, Value.ownBlock gv0 = some k → w8.heap.size ≤ k ∧ k < w9.heap.size) := lgo0
  go_wp2_with fail
  refine (heldA_any _ _ _ _ (mk3).reads (by omega) (by omega) (HLB0.out)).mono ?_
  rintro e w19 ⟨rfl, b19⟩
  have c19 : Below w.heap.size w w19 := blink c18 b19
  have hs19 : w18.heap.size ≤ w19.heap.size := b19.size
  have va0_0_19 : w19.cell? ⟨w.heap.size, 0, none⟩ = some (.int .i8 st0) := (((((((((((((((((((BX0).below b2).below b3).below b4).below b5).below b6).below b7).below b8).below b9).below b10).below b11).below b12).below b13).below b14).out K15 (by omega)).out K16 (by omega)).below b17).out K18 (by omega)).below b19).at 0
  have va0_1_19 : w19.cell? ⟨w.heap.size, 1, none⟩ = some (.int .i16 sy0) := (((((((((((((((((((BX0).below b2).below b3).below b4).below b5).below b6).below b7).below b8).below b9).below b10).below b11).below b12).below b13).below b14).out K15 (by omega)).out K16 (by omega)).below b17).out K18 (by omega)).below b19).at 1
  have va0_2_19 : w19.cell? ⟨w.heap.size, 2, none⟩ = some (.slice a0 len0 cap0) := (((((((((((((((((((BX0).below b2).below b3).below b4).below b5).below b6).below b7).below b8).below b9).below b10).below b11).below b12).below b13).below b14).out K15 (by omega)).out K16 (by omega)).below b17).out K18 (by omega)).below b19).at 2
  have la0_19 : w.heap.size < w19.heap.size := (((((((((((((((((((BX0).below b2).below b3).below b4).below b5).below b6).below b7).below b8).below b9).below b10).below b11).below b12).below b13).below b14).out K15 (by omega)).out K16 (by omega)).below b17).out K18 (by omega)).below b19).lt
  go_wp2_with fail
  refine (toNet_any st0 sy0 a0 len0 cap0 ps0 _ (hr0.below c19) HL0.out).mono ?_
  rintro e w20 ⟨g20, rfl, o20, b20⟩
  have c20 : Below w.heap.size w w20 := blink c19 b20
  have hs20 : w19.heap.size ≤ w20.heap.size := b20.size
  have lo20 : Hid (∀ k, Value.ownBlock (.slice (some ⟨g20, 0, none⟩) len0 len0) = some k → w19.heap.size ≤ k ∧ k < w20.heap.size) := Lib.hid o20.block
  go_wp2_with fail
  refine (toI_as a1 len1 cap1 z1 xs1 HZ1 _ (hr1.below c20) hm1).mono ?_
  rintro e w21 ⟨rfl, o21, b21⟩
  have c21 : Below w.heap.size w w21 := blink c20 b21
  have hs21 : w20.heap.size ≤ w21.heap.size := b21.size
  have lo21 : Hid (∀ k, Value.ownBlock (.slice (some ⟨w20.heap.size, 0, none⟩) len1 len1) = some k → w20.heap.size ≤ k ∧ k < w21.heap.size) := Lib.hid o21.block
  go_wp2_with fail
  refine (irt_any _ _ _ _ ps0 xs1 a2 _ HF0.out ((o20).below b21).reads (o21).reads HX1.out).mono ?_
  rintro e w22 ⟨hv0, rfl, ho0, b22⟩
  have c22 : Below w.heap.size w w22 := blink c21 b22
  have hs22 : w21.heap.size ≤ w22.heap.size := b22.size
  have lho0 : Hid (∀ k, Value.ownBlock hv0 = some k → w21.heap.size ≤ k ∧ k < w22.heap.size) := Lib.hid ho0.block
  go_wp2_with fail
  refine (eqInt64A2S_eq _ _ (rtR st0 sy0 ps0 xs1 a2) _ (ho0).reads ((((((((((((((((((so0).below b6).below b7).below b8).below b9).below b10).below b11).below b12).below b13).below b14).out K15 (fun k hk => by have := lso0.out k hk; omega)).out K16 (fun k hk => by have := lso0.out k hk; omega)).below b17).out K18 (fun k hk => by have := lso0.out k hk; omega)).below b19).below b20).below b21).below b22).reads (HLB0.out)).mono ?_
  rintro e w23 ⟨rfl, b23⟩
  have c23 : Below w.heap.size w w23 := blink c22 b23
  have hs23 : w22.heap.size ≤ w23.heap.size := b23.size
  go_wp2_with fail
  refine (heldA_any _ _ _ _ ((((((mk3).below b19).below b20).below b21).below b22).below b23).reads (by omega) (by omega) (HLB0.out)).mono ?_
  rintro e w24 ⟨rfl, b24⟩
  have c24 : Below w.heap.size w w24 := blink c23 b24
  have hs24 : w23.heap.size ≤ w24.heap.size := b24.size
  go_wp2_with fail
  go_ret
  exact ⟨rfl, c24⟩
end Go.Proofs.Ytloelbaaolhlhaa.fnExactRouteTimes
