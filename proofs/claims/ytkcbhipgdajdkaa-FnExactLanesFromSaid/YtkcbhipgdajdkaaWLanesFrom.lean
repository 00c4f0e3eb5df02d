/-
  The walk of FnExactLanesFrom: program and model answer the same at every argument; neither writes into its arguments, and what is answered lies in new memory.
-/
import Derived.Test.YtkcbhipgdajdkaaNtA
import Derived.Test.YtkcbhipgdajdkaaTScan
import Derived.Test.YtkcbhipgdajdkaaToI
import Derived.Test.YtkcbhipgdajdkaaKeepO
import Derived.Test.YtkcbhipgdajdkaaNtL
namespace Go.Proofs.Ytkcbhipgdajdkaa.fnExactLanesFrom
open Go Go.RowKit
set_option linter.unusedVariables false

set_option maxHeartbeats 16000000 in
set_option maxRecDepth 100000 in
theorem walk (st0 sy0 : Int) (a0 : Option Addr) (len0 cap0 : Nat) (ps0 : List Lan) (a1 : Int) (w : World) (hh0 : (IsRowLa w a0 len0 cap0 ps0 ∧ FitsLa ps0) ∧ (-128 ≤ st0 ∧ st0 ≤ 127) ∧ (-32768 ≤ sy0 ∧ sy0 ≤ 32767)) (hw1 : (Lit.int .i64 a1).wf = true) :
    Calls Try.prog 5 #[.agg #[.int .i8 st0, .int .i16 sy0, .slice a0 len0 cap0], .int .i64 a1] w fun e w' => e = .returned (.bool true) ∧ Below w.heap.size w w' := by
  obtain ⟨⟨hr0, hf0⟩, hst0, hsy0⟩ := hh0
  have HFQ0 := Lib.hid hf0
  have HST0 := Lib.hid hst0
  have HSY0 := Lib.hid hsy0
  have HN0 := Lib.hid hr0.len_ok
  clear hf0 hst0 hsy0
  by_cases hm0 : 0 ≤ 1048576 - (len0 : Int)
  rotate_left
  · have t0 : decide (1048576 - (len0 : Int) < 0) = true := decide_eq_true (by omega)
    go_enter Try.func5, Try.ntmps5
    go_wp2_with fail
    have b1 : Below w.heap.size w (w.alloc (.cells #[.int .i8 st0, .int .i16 sy0, .slice a0 len0 cap0] 26)) := ((Below.refl _ _).alloc (Nat.le_refl _) _)
    have BX0 : BlkA (w.alloc (.cells #[.int .i8 st0, .int .i16 sy0, .slice a0 len0 cap0] 26)) (w.heap.size) 26 #[.int .i8 st0, .int .i16 sy0, .slice a0 len0 cap0] := (BlkA.new rfl _ _)
    generalize (w.alloc (.cells #[.int .i8 st0, .int .i16 sy0, .slice a0 len0 cap0] 26)) = w1 at b1 BX0 ⊢
    have c1 := b1
    have hs1 : w.heap.size ≤ w1.heap.size := b1.size
    have hb0 : w.heap.size < w1.heap.size := BX0.lt
    have va0_0_1 : w1.cell? ⟨w.heap.size, 0, none⟩ = some (.int .i8 st0) := (BX0).at 0
    have va0_1_1 : w1.cell? ⟨w.heap.size, 1, none⟩ = some (.int .i16 sy0) := (BX0).at 1
    have va0_2_1 : w1.cell? ⟨w.heap.size, 2, none⟩ = some (.slice a0 len0 cap0) := (BX0).at 2
    have la0_1 : w.heap.size < w1.heap.size := (BX0).lt
    go_wp2_with fail
    refine (szNet_big st0 sy0 a0 len0 cap0 1048576 (by omega) (by omega) (by omega) HN0.out _).mono ?_
    rintro e w2 ⟨rfl, b2⟩
    have c2 : Below w.heap.size w w2 := blink c1 b2
    have hs2 : w1.heap.size ≤ w2.heap.size := b2.size
    go_wp2_with fail
    go_ret
    exact ⟨rfl, c2⟩
  have t0 : decide (1048576 - (len0 : Int) < 0) = false := decide_eq_false (by omega)
  have hlq0 : ps0.length = len0 := hr0.len_eq
  have HX0 : Hid (ps0.length ≤ 1048576) := Lib.hid (by omega)
  have HL0 : Hid (len0 ≤ 1048576) := Lib.hid (by omega)
  have hxb0 : ps0.length ≤ 1048576 := HX0.out
  clear hlq0
  have HF0 : Hid (FitN st0 sy0 ps0) := Lib.hid ⟨HST0.out, HSY0.out, HFQ0.out, HX0.out⟩
  have hlb0 := lfR_len st0 sy0 ps0 a1
  have HLB0 : Hid ((lfR st0 sy0 ps0 a1).length ≤ 1048576) := Lib.hid (by omega)
  go_enter Try.func5, Try.ntmps5
  go_wp2_with fail
  have b1 : Below w.heap.size w (w.alloc (.cells #[.int .i8 st0, .int .i16 sy0, .slice a0 len0 cap0] 26)) := ((Below.refl _ _).alloc (Nat.le_refl _) _)
  have BX0 : BlkA (w.alloc (.cells #[.int .i8 st0, .int .i16 sy0, .slice a0 len0 cap0] 26)) (w.heap.size) 26 #[.int .i8 st0, .int .i16 sy0, .slice a0 len0 cap0] := (BlkA.new rfl _ _)
  generalize (w.alloc (.cells #[.int .i8 st0, .int .i16 sy0, .slice a0 len0 cap0] 26)) = w1 at b1 BX0 ⊢
  have c1 := b1
  have hs1 : w.heap.size ≤ w1.heap.size := b1.size
  have hb0 : w.heap.size < w1.heap.size := BX0.lt
  have va0_0_1 : w1.cell? ⟨w.heap.size, 0, none⟩ = some (.int .i8 st0) := (BX0).at 0
  have va0_1_1 : w1.cell? ⟨w.heap.size, 1, none⟩ = some (.int .i16 sy0) := (BX0).at 1
  have va0_2_1 : w1.cell? ⟨w.heap.size, 2, none⟩ = some (.slice a0 len0 cap0) := (BX0).at 2
  have la0_1 : w.heap.size < w1.heap.size := (BX0).lt
  go_wp2_with fail
  refine (szNet_fit st0 sy0 a0 len0 cap0 1048576 (by omega) (by omega) _).mono ?_
  rintro e w2 ⟨rfl, b2⟩
  have c2 : Below w.heap.size w w2 := blink c1 b2
  have hs2 : w1.heap.size ≤ w2.heap.size := b2.size
  have va0_0_2 : w2.cell? ⟨w.heap.size, 0, none⟩ = some (.int .i8 st0) := ((BX0).below b2).at 0
  have va0_1_2 : w2.cell? ⟨w.heap.size, 1, none⟩ = some (.int .i16 sy0) := ((BX0).below b2).at 1
  have va0_2_2 : w2.cell? ⟨w.heap.size, 2, none⟩ = some (.slice a0 len0 cap0) := ((BX0).below b2).at 2
  have la0_2 : w.heap.size < w2.heap.size := ((BX0).below b2).lt
  go_wp2_with fail
  refine (toNet_any st0 sy0 a0 len0 cap0 ps0 _ (hr0.below c2) HL0.out).mono ?_
  rintro e w3 ⟨g3, rfl, o3, b3⟩
  have c3 : Below w.heap.size w w3 := blink c2 b3
  have hs3 : w2.heap.size ≤ w3.heap.size := b3.size
  have lo3 : Hid (∀ k, Value.ownBlock (.slice (some ⟨g3, 0, none⟩) len0 len0) = some k → w2.heap.size ≤ k ∧ k < w3.heap.size) := Lib.hid o3.block
  go_wp2_with fail
  refine (slf_any _ _ _ ps0 a1 _ HF0.out (o3).reads).mono ?_
  rintro e w4 ⟨sv0, rfl, so0, b4⟩
  have c4 : Below w.heap.size w w4 := blink c3 b4
  have hs4 : w3.heap.size ≤ w4.heap.size := b4.size
  have lso0 : Hid (∀ k, Value.ownBlock sv0 = some k → w3.heap.size ≤ k ∧ k < w4.heap.size) := Lib.hid so0.block
  have va0_0_4 : w4.cell? ⟨w.heap.size, 0, none⟩ = some (.int .i8 st0) := ((((BX0).below b2).below b3).below b4).at 0
  have va0_1_4 : w4.cell? ⟨w.heap.size, 1, none⟩ = some (.int .i16 sy0) := ((((BX0).below b2).below b3).below b4).at 1
  have va0_2_4 : w4.cell? ⟨w.heap.size, 2, none⟩ = some (.slice a0 len0 cap0) := ((((BX0).below b2).below b3).below b4).at 2
  have la0_4 : w.heap.size < w4.heap.size := ((((BX0).below b2).below b3).below b4).lt
  go_wp2_with fail
  refine (toNet_any st0 sy0 a0 len0 cap0 ps0 _ (hr0.below c4) HL0.out).mono ?_
  rintro e w5 ⟨g5, rfl, o5, b5⟩
  have c5 : Below w.heap.size w w5 := blink c4 b5
  have hs5 : w4.heap.size ≤ w5.heap.size := b5.size
  have lo5 : Hid (∀ k, Value.ownBlock (.slice (some ⟨g5, 0, none⟩) len0 len0) = some k → w4.heap.size ≤ k ∧ k < w5.heap.size) := Lib.hid o5.block
  have va0_0_5 : w5.cell? ⟨w.heap.size, 0, none⟩ = some (.int .i8 st0) := (((((BX0).below b2).below b3).below b4).below b5).at 0
  have va0_1_5 : w5.cell? ⟨w.heap.size, 1, none⟩ = some (.int .i16 sy0) := (((((BX0).below b2).below b3).below b4).below b5).at 1
  have va0_2_5 : w5.cell? ⟨w.heap.size, 2, none⟩ = some (.slice a0 len0 cap0) := (((((BX0).below b2).below b3).below b4).below b5).at 2
  have la0_5 : w.heap.size < w5.heap.size := (((((BX0).below b2).below b3).below b4).below b5).lt
  go_wp2_with fail
  have b6 : Below w5.heap.size w5 (w5.alloc (.cells #[.int .i8 st0, .int .i16 sy0, .slice (some ⟨g5, 0, none⟩) len0 len0] 31)) := (Below.refl _ _).alloc (Nat.le_refl _) _
  have BY0 : BlkA (w5.alloc (.cells #[.int .i8 st0, .int .i16 sy0, .slice (some ⟨g5, 0, none⟩) len0 len0] 31)) w5.heap.size 31 #[.int .i8 st0, .int .i16 sy0, .slice (some ⟨g5, 0, none⟩) len0 len0] := BlkA.new rfl _ _
  generalize (w5.alloc (.cells #[.int .i8 st0, .int .i16 sy0, .slice (some ⟨g5, 0, none⟩) len0 len0] 31)) = w6 at b6 BY0 ⊢
  have c6 : Below w.heap.size w w6 := blink c5 b6
  have hs6 : w5.heap.size ≤ w6.heap.size := b6.size
  have hx0 : w5.heap.size < w6.heap.size := BY0.lt
  have vx0_0_6 : w6.cell? ⟨w5.heap.size, 0, none⟩ = some (.int .i8 st0) := (BY0).at 0
  have vx0_1_6 : w6.cell? ⟨w5.heap.size, 1, none⟩ = some (.int .i16 sy0) := (BY0).at 1
  have vx0_2_6 : w6.cell? ⟨w5.heap.size, 2, none⟩ = some (.slice (some ⟨g5, 0, none⟩) len0 len0) := (BY0).at 2
  have lx0_6 : w5.heap.size < w6.heap.size := (BY0).lt
  go_wp2_with fail
  refine (ilf_any _ _ _ ps0 a1 _ HF0.out ((o5).below b6).reads).mono ?_
  rintro e w7 ⟨gv0, rfl, go0, b7⟩
  have c7 : Below w.heap.size w w7 := blink c6 b7
  have hs7 : w6.heap.size ≤ w7.heap.size := b7.size
  have lgo0 : Hid (∀ k, Value.ownBlock gv0 = some k → w6.heap.size ≤ k ∧ k < w7.heap.size) := Lib.hid go0.block
  go_wp2_with fail
  refine (eqI_any _ _ (lfR st0 sy0 ps0 a1) (lfR st0 sy0 ps0 a1) _ (go0).reads ((((so0).below b5).below b6).below b7).reads (HLB0.out) (HLB0.out)).mono ?_
  rintro e w8 ⟨rfl, b8⟩
  have c8 : Below w.heap.size w w8 := blink c7 b8
  have hs8 : w7.heap.size ≤ w8.heap.size := b8.size
  rw [eqB_true rfl]
  have CD8 : Below w.heap.size w w8.drew := Below.drew c8
  have BD8 : Below w8.heap.size w8 w8.drew := (Below.refl _ _).drew
  have SD8 : w8.drew.cell? ⟨w.heap.size, 0, none⟩ = some (.int .i8 st0) ∧ w8.drew.cell? ⟨w.heap.size, 1, none⟩ = some (.int .i16 sy0) ∧ w8.drew.cell? ⟨w.heap.size, 2, none⟩ = some (.slice a0 len0 cap0) ∧ w8.drew.cell? ⟨w5.heap.size, 0, none⟩ = some (.int .i8 st0) ∧ w8.drew.cell? ⟨w5.heap.size, 1, none⟩ = some (.int .i16 sy0) ∧ w8.drew.cell? ⟨w5.heap.size, 2, none⟩ = some (.slice (some ⟨g5, 0, none⟩) len0 len0) := ⟨cbl BD8 (((((((((BX0).below b2).below b3).below b4).below b5).below b6).below b7).below b8).at 0), cbl BD8 (((((((((BX0).below b2).below b3).below b4).below b5).below b6).below b7).below b8).at 1), cbl BD8 (((((((((BX0).below b2).below b3).below b4).below b5).below b6).below b7).below b8).at 2), cbl BD8 ((((BY0).below b7).below b8).at 0), cbl BD8 ((((BY0).below b7).below b8).at 1), cbl BD8 ((((BY0).below b7).below b8).at 2)⟩
  go_wp2_with fail
  go_region_held3 (fun v => v.cell? ⟨w.heap.size, 0, none⟩ = some (.int .i8 st0) ∧ v.cell? ⟨w.heap.size, 1, none⟩ = some (.int .i16 sy0) ∧ v.cell? ⟨w.heap.size, 2, none⟩ = some (.slice a0 len0 cap0) ∧ v.cell? ⟨w5.heap.size, 0, none⟩ = some (.int .i8 st0) ∧ v.cell? ⟨w5.heap.size, 1, none⟩ = some (.int .i16 sy0) ∧ v.cell? ⟨w5.heap.size, 2, none⟩ = some (.slice (some ⟨g5, 0, none⟩) len0 len0)) (first | exact zS10 | exact zS9 | exact SD8) (first | (go_at_call 17; (with_reducible refine (toNet_any st0 sy0 a0 len0 cap0 ps0 _ (hr0.below CD8) HL0.out).mono ?_); rintro e w9 ⟨g9, rfl, o9, d9⟩; have b9 : Below w8.heap.size w8 w9 := BD8.trans (d9.mono (Nat.le_refl _)); have zS9 : w9.cell? ⟨w.heap.size, 0, none⟩ = some (.int .i8 st0) ∧ w9.cell? ⟨w.heap.size, 1, none⟩ = some (.int .i16 sy0) ∧ w9.cell? ⟨w.heap.size, 2, none⟩ = some (.slice a0 len0 cap0) ∧ w9.cell? ⟨w5.heap.size, 0, none⟩ = some (.int .i8 st0) ∧ w9.cell? ⟨w5.heap.size, 1, none⟩ = some (.int .i16 sy0) ∧ w9.cell? ⟨w5.heap.size, 2, none⟩ = some (.slice (some ⟨g5, 0, none⟩) len0 len0) := ⟨cbl d9 SD8.1, cbl d9 SD8.2.1, cbl d9 SD8.2.2.1, cbl d9 SD8.2.2.2.1, cbl d9 SD8.2.2.2.2.1, cbl d9 SD8.2.2.2.2.2⟩) | (go_at_call 19; (with_reducible refine (eqNet_eq st0 sy0 _ _ ps0 _ ((((((o5).below b6).below b7).below b8).below BD8).below d9).reads o9.reads HX0.out).mono ?_); rintro e w10 ⟨rfl, b10⟩; have zS10 : w10.cell? ⟨w.heap.size, 0, none⟩ = some (.int .i8 st0) ∧ w10.cell? ⟨w.heap.size, 1, none⟩ = some (.int .i16 sy0) ∧ w10.cell? ⟨w.heap.size, 2, none⟩ = some (.slice a0 len0 cap0) ∧ w10.cell? ⟨w5.heap.size, 0, none⟩ = some (.int .i8 st0) ∧ w10.cell? ⟨w5.heap.size, 1, none⟩ = some (.int .i16 sy0) ∧ w10.cell? ⟨w5.heap.size, 2, none⟩ = some (.slice (some ⟨g5, 0, none⟩) len0 len0) := ⟨cbl b10 zS9.1, cbl b10 zS9.2.1, cbl b10 zS9.2.2.1, cbl b10 zS9.2.2.2.1, cbl b10 zS9.2.2.2.2.1, cbl b10 zS9.2.2.2.2.2⟩))
  have c9 : Below w.heap.size w w9 := blink c8 b9
  have hs9 : w8.heap.size ≤ w9.heap.size := b9.size
  have c10 : Below w.heap.size w w10 := blink c9 b10
  have hs10 : w9.heap.size ≤ w10.heap.size := b10.size
  clear zS9 zS10 SD8 CD8 BD8
  have vx0_0_10 : w10.cell? ⟨w5.heap.size, 0, none⟩ = some (.int .i8 st0) := (((((BY0).below b7).below b8).below b9).below b10).at 0
  have vx0_1_10 : w10.cell? ⟨w5.heap.size, 1, none⟩ = some (.int .i16 sy0) := (((((BY0).below b7).below b8).below b9).below b10).at 1
  have vx0_2_10 : w10.cell? ⟨w5.heap.size, 2, none⟩ = some (.slice (some ⟨g5, 0, none⟩) len0 len0) := (((((BY0).below b7).below b8).below b9).below b10).at 2
  have lx0_10 : w5.heap.size < w10.heap.size := (((((BY0).below b7).below b8).below b9).below b10).lt
  go_wp2_with fail
  refine (markNet_any _ _ st0 sy0 _ ps0 _ _ ((((((o5).below b6).below b7).below b8).below b9).below b10) (by omega) (by omega) HX0.out).mono ?_
  rintro e w11 ⟨rfl, mk1, G11⟩
  have K11 : KeepsOut w4.heap.size w5.heap.size w10 w11 := G11 _ _ (fun k hk => by have := lo5.out k hk; omega)
  have c11 : Below w.heap.size w w11 := kout_below c10 K11 (by omega) (by omega)
  have hs11 : w10.heap.size ≤ w11.heap.size := K11.size
  go_wp2_with fail
  refine (eqI_any _ _ (lfR st0 sy0 ps0 a1) (lfR st0 sy0 ps0 a1) _ (((((go0).below b8).below b9).below b10).out K11 (fun k hk => by have := lgo0.out k hk; omega)).reads ((((((((so0).below b5).below b6).below b7).below b8).below b9).below b10).out K11 (fun k hk => by have := lso0.out k hk; omega)).reads (HLB0.out) (HLB0.out)).mono ?_
  rintro e w12 ⟨rfl, b12⟩
  have c12 : Below w.heap.size w w12 := blink c11 b12
  have hs12 : w11.heap.size ≤ w12.heap.size := b12.size
  rw [eqB_true rfl]
  go_wp2_with fail
  refine (mark_any _ _ (lfR st0 sy0 ps0 a1) _ _ ((((((go0).below b8).below b9).below b10).out K11 (fun k hk => by have := lgo0.out k hk; omega)).below b12) (by omega) (by omega) (HLB0.out)).mono ?_
  rintro e w13 ⟨rfl, mk2, g13⟩
  have K13 : KeepsOut w6.heap.size w7.heap.size w12 w13 := keepsOut_grown g13 (fun k hk => by have := lgo0.out k hk; omega)
  have c13 : Below w.heap.size w w13 := kout_below c12 K13 (by omega) (by omega)
  have hs13 : w12.heap.size ≤ w13.heap.size := K13.size
  have lmk2 : Hid (∀ k, Value.ownBlock gv0 = some k → w6.heap.size ≤ k ∧ k < w7.heap.size) := lgo0
  go_wp2_with fail
  refine (held_any _ _ _ _ (mk2).reads (by omega) (by omega) (HLB0.out)).mono ?_
  rintro e w14 ⟨rfl, b14⟩
  have c14 : Below w.heap.size w w14 := blink c13 b14
  have hs14 : w13.heap.size ≤ w14.heap.size := b14.size
  have va0_0_14 : w14.cell? ⟨w.heap.size, 0, none⟩ = some (.int .i8 st0) := ((((((((((((((BX0).below b2).below b3).below b4).below b5).below b6).below b7).below b8).below b9).below b10).out K11 (by omega)).below b12).out K13 (by omega)).below b14).at 0
  have va0_1_14 : w14.cell? ⟨w.heap.size, 1, none⟩ = some (.int .i16 sy0) := ((((((((((((((BX0).below b2).below b3).below b4).below b5).below b6).below b7).below b8).below b9).below b10).out K11 (by omega)).below b12).out K13 (by omega)).below b14).at 1
  have va0_2_14 : w14.cell? ⟨w.heap.size, 2, none⟩ = some (.slice a0 len0 cap0) := ((((((((((((((BX0).below b2).below b3).below b4).below b5).below b6).below b7).below b8).below b9).below b10).out K11 (by omega)).below b12).out K13 (by omega)).below b14).at 2
  have la0_14 : w.heap.size < w14.heap.size := ((((((((((((((BX0).below b2).below b3).below b4).below b5).below b6).below b7).below b8).below b9).below b10).out K11 (by omega)).below b12).out K13 (by omega)).below b14).lt
  go_wp2_with fail
  refine (toNet_any st0 sy0 a0 len0 cap0 ps0 _ (hr0.below c14) HL0.out).mono ?_
  rintro e w15 ⟨g15, rfl, o15, b15⟩
  have c15 : Below w.heap.size w w15 := blink c14 b15
  have hs15 : w14.heap.size ≤ w15.heap.size := b15.size
  have lo15 : Hid (∀ k, Value.ownBlock (.slice (some ⟨g15, 0, none⟩) len0 len0) = some k → w14.heap.size ≤ k ∧ k < w15.heap.size) := Lib.hid o15.block
  go_wp2_with fail
  refine (ilf_any _ _ _ ps0 a1 _ HF0.out (o15).reads).mono ?_
  rintro e w16 ⟨hv0, rfl, ho0, b16⟩
  have c16 : Below w.heap.size w w16 := blink c15 b16
  have hs16 : w15.heap.size ≤ w16.heap.size := b16.size
  have lho0 : Hid (∀ k, Value.ownBlock hv0 = some k → w15.heap.size ≤ k ∧ k < w16.heap.size) := Lib.hid ho0.block
  go_wp2_with fail
  refine (eqI_any _ _ (lfR st0 sy0 ps0 a1) (lfR st0 sy0 ps0 a1) _ (ho0).reads (((((((((((((so0).below b5).below b6).below b7).below b8).below b9).below b10).out K11 (fun k hk => by have := lso0.out k hk; omega)).below b12).out K13 (fun k hk => by have := lso0.out k hk; omega)).below b14).below b15).below b16).reads (HLB0.out) (HLB0.out)).mono ?_
  rintro e w17 ⟨rfl, b17⟩
  have c17 : Below w.heap.size w w17 := blink c16 b17
  have hs17 : w16.heap.size ≤ w17.heap.size := b17.size
  rw [eqB_true rfl]
  go_wp2_with fail
  refine (held_any _ _ _ _ (((((mk2).below b14).below b15).below b16).below b17).reads (by omega) (by omega) (HLB0.out)).mono ?_
  rintro e w18 ⟨rfl, b18⟩
  have c18 : Below w.heap.size w w18 := blink c17 b18
  have hs18 : w17.heap.size ≤ w18.heap.size := b18.size
  go_wp2_with fail
  go_ret
  exact ⟨rfl, c18⟩
end Go.Proofs.Ytkcbhipgdajdkaa.fnExactLanesFrom
