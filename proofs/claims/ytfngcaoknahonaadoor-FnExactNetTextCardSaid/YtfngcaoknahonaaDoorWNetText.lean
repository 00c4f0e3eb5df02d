/-
  The walk of FnExactNetText: program and model answer the same at every argument; neither writes into its arguments, and what is answered lies in new memory.
-/
import Derived.Test.YtfngcaoknahonaaDoorNtA
import Derived.Test.YtfngcaoknahonaaDoorTScan
import Derived.Test.YtfngcaoknahonaaDoorNxS
import Derived.Test.YtfngcaoknahonaaDoorNxI
namespace Go.Proofs.YtfngcaoknahonaaDoor.fnExactNetText
open Go Go.RowKit
set_option linter.unusedVariables false

set_option maxHeartbeats 16000000 in
set_option maxRecDepth 100000 in
theorem walk (st0 sy0 : Int) (a0 : Option Addr) (len0 cap0 : Nat) (ps0 : List Lan) (w : World) (hh0 : (IsRowLa w a0 len0 cap0 ps0 ∧ FitsLa ps0) ∧ (-128 ≤ st0 ∧ st0 ≤ 127) ∧ (-32768 ≤ sy0 ∧ sy0 ≤ 32767)) (hpt : PowTab w) :
    Calls Tryd.prog 3 #[.agg #[.int .i8 st0, .int .i16 sy0, .slice a0 len0 cap0]] w fun e w' => e = .returned (.bool true) ∧ Below w.heap.size w w' := by
  have HPT := Lib.hid hpt
  clear hpt
  obtain ⟨⟨hr0, hf0⟩, hst0, hsy0⟩ := hh0
  have HFQ0 := Lib.hid hf0
  have HST0 := Lib.hid hst0
  have HSY0 := Lib.hid hsy0
  have HN0 := Lib.hid hr0.len_ok
  clear hf0 hst0 hsy0
  by_cases hm0 : 0 ≤ 1048576 - (len0 : Int)
  rotate_left
  · have t0 : decide (1048576 - (len0 : Int) < 0) = true := decide_eq_true (by omega)
    go_enter Tryd.func3, Tryd.ntmps3
    go_wp2_with fail
    have b1 : Below w.heap.size w (w.alloc (.cells #[.int .i8 st0, .int .i16 sy0, .slice a0 len0 cap0] 26)) := ((Below.refl _ _).alloc (Nat.le_refl _) _)
    have BX0 : BlkA (w.alloc (.cells #[.int .i8 st0, .int .i16 sy0, .slice a0 len0 cap0] 26)) (w.heap.size) 26 #[.int .i8 st0, .int .i16 sy0, .slice a0 len0 cap0] := (BlkA.new rfl _ _)
    generalize (w.alloc (.cells #[.int .i8 st0, .int .i16 sy0, .slice a0 len0 cap0] 26)) = w1 at b1 BX0 ⊢
    have c1 := b1
    have hs1 : w.heap.size ≤ w1.heap.size := b1.size
    have hb0 : w.heap.size < w1.heap.size := BX0.lt
    have va0_0_1 : w1.cell? ⟨w.heap.size, 0, none⟩ = some (.int .i8 st0) := (BX0).at 0
    have va0_1_1 : w1.cell? ⟨w.heap.size, 1, none⟩ = some (.int .i16 sy0) := (BX0).at 1
    have va0_2_1 : w1.cell? ⟨w.heap.size, 2, none⟩ = some (.slice a0 len0 cap0) := (BX0).at 2
    have la0_1 : w.heap.size < w1.heap.size := (BX0).lt
    go_wp2_with fail
    refine (szNet_big st0 sy0 a0 len0 cap0 1048576 (by omega) (by omega) (by omega) HN0.out _).mono ?_
    rintro e w2 ⟨rfl, b2⟩
    have c2 : Below w.heap.size w w2 := blink c1 b2
    have hs2 : w1.heap.size ≤ w2.heap.size := b2.size
    go_wp2_with fail
    go_ret
    exact ⟨rfl, c2⟩
  have t0 : decide (1048576 - (len0 : Int) < 0) = false := decide_eq_false (by omega)
  have hlq0 : ps0.length = len0 := hr0.len_eq
  have HX0 : Hid (ps0.length ≤ 1048576) := Lib.hid (by omega)
  have HL0 : Hid (len0 ≤ 1048576) := Lib.hid (by omega)
  have hxb0 : ps0.length ≤ 1048576 := HX0.out
  clear hlq0
  have HF0 : Hid (FitN st0 sy0 ps0) := Lib.hid ⟨HST0.out, HSY0.out, HFQ0.out, HX0.out⟩
  go_enter Tryd.func3, Tryd.ntmps3
  go_wp2_with fail
  have b1 : Below w.heap.size w (w.alloc (.cells #[.int .i8 st0, .int .i16 sy0, .slice a0 len0 cap0] 26)) := ((Below.refl _ _).alloc (Nat.le_refl _) _)
  have BX0 : BlkA (w.alloc (.cells #[.int .i8 st0, .int .i16 sy0, .slice a0 len0 cap0] 26)) (w.heap.size) 26 #[.int .i8 st0, .int .i16 sy0, .slice a0 len0 cap0] := (BlkA.new rfl _ _)
  generalize (w.alloc (.cells #[.int .i8 st0, .int .i16 sy0, .slice a0 len0 cap0] 26)) = w1 at b1 BX0 ⊢
  have c1 := b1
  have hs1 : w.heap.size ≤ w1.heap.size := b1.size
  have hb0 : w.heap.size < w1.heap.size := BX0.lt
  have va0_0_1 : w1.cell? ⟨w.heap.size, 0, none⟩ = some (.int .i8 st0) := (BX0).at 0
  have va0_1_1 : w1.cell? ⟨w.heap.size, 1, none⟩ = some (.int .i16 sy0) := (BX0).at 1
  have va0_2_1 : w1.cell? ⟨w.heap.size, 2, none⟩ = some (.slice a0 len0 cap0) := (BX0).at 2
  have la0_1 : w.heap.size < w1.heap.size := (BX0).lt
  go_wp2_with fail
  refine (szNet_fit st0 sy0 a0 len0 cap0 1048576 (by omega) (by omega) _).mono ?_
  rintro e w2 ⟨rfl, b2⟩
  have c2 : Below w.heap.size w w2 := blink c1 b2
  have hs2 : w1.heap.size ≤ w2.heap.size := b2.size
  have va0_0_2 : w2.cell? ⟨w.heap.size, 0, none⟩ = some (.int .i8 st0) := ((BX0).below b2).at 0
  have va0_1_2 : w2.cell? ⟨w.heap.size, 1, none⟩ = some (.int .i16 sy0) := ((BX0).below b2).at 1
  have va0_2_2 : w2.cell? ⟨w.heap.size, 2, none⟩ = some (.slice a0 len0 cap0) := ((BX0).below b2).at 2
  have la0_2 : w.heap.size < w2.heap.size := ((BX0).below b2).lt
  go_wp2_with fail
  refine (toNet_any st0 sy0 a0 len0 cap0 ps0 _ (hr0.below c2) HL0.out).mono ?_
  rintro e w3 ⟨g3, rfl, o3, b3⟩
  have c3 : Below w.heap.size w w3 := blink c2 b3
  have hs3 : w2.heap.size ≤ w3.heap.size := b3.size
  have lo3 : Hid (∀ k, Value.ownBlock (.slice (some ⟨g3, 0, none⟩) len0 len0) = some k → w2.heap.size ≤ k ∧ k < w3.heap.size) := Lib.hid o3.block
  go_wp2_with fail
  refine (snt_any _ _ _ ps0 _ HF0.out (o3).reads).mono ?_
  rintro e w4 ⟨rfl, b4⟩
  have c4 : Below w.heap.size w w4 := blink c3 b4
  have hs4 : w3.heap.size ≤ w4.heap.size := b4.size
  have va0_0_4 : w4.cell? ⟨w.heap.size, 0, none⟩ = some (.int .i8 st0) := ((((BX0).below b2).below b3).below b4).at 0
  have va0_1_4 : w4.cell? ⟨w.heap.size, 1, none⟩ = some (.int .i16 sy0) := ((((BX0).below b2).below b3).below b4).at 1
  have va0_2_4 : w4.cell? ⟨w.heap.size, 2, none⟩ = some (.slice a0 len0 cap0) := ((((BX0).below b2).below b3).below b4).at 2
  have la0_4 : w.heap.size < w4.heap.size := ((((BX0).below b2).below b3).below b4).lt
  go_wp2_with fail
  refine (toNet_any st0 sy0 a0 len0 cap0 ps0 _ (hr0.below c4) HL0.out).mono ?_
  rintro e w5 ⟨g5, rfl, o5, b5⟩
  have c5 : Below w.heap.size w w5 := blink c4 b5
  have hs5 : w4.heap.size ≤ w5.heap.size := b5.size
  have lo5 : Hid (∀ k, Value.ownBlock (.slice (some ⟨g5, 0, none⟩) len0 len0) = some k → w4.heap.size ≤ k ∧ k < w5.heap.size) := Lib.hid o5.block
  have va0_0_5 : w5.cell? ⟨w.heap.size, 0, none⟩ = some (.int .i8 st0) := (((((BX0).below b2).below b3).below b4).below b5).at 0
  have va0_1_5 : w5.cell? ⟨w.heap.size, 1, none⟩ = some (.int .i16 sy0) := (((((BX0).below b2).below b3).below b4).below b5).at 1
  have va0_2_5 : w5.cell? ⟨w.heap.size, 2, none⟩ = some (.slice a0 len0 cap0) := (((((BX0).below b2).below b3).below b4).below b5).at 2
  have la0_5 : w.heap.size < w5.heap.size := (((((BX0).below b2).below b3).below b4).below b5).lt
  go_wp2_with fail
  have b6 : Below w5.heap.size w5 (w5.alloc (.cells #[.int .i8 st0, .int .i16 sy0, .slice (some ⟨g5, 0, none⟩) len0 len0] 31)) := (Below.refl _ _).alloc (Nat.le_refl _) _
  have BY0 : BlkA (w5.alloc (.cells #[.int .i8 st0, .int .i16 sy0, .slice (some ⟨g5, 0, none⟩) len0 len0] 31)) w5.heap.size 31 #[.int .i8 st0, .int .i16 sy0, .slice (some ⟨g5, 0, none⟩) len0 len0] := BlkA.new rfl _ _
  generalize (w5.alloc (.cells #[.int .i8 st0, .int .i16 sy0, .slice (some ⟨g5, 0, none⟩) len0 len0] 31)) = w6 at b6 BY0 ⊢
  have c6 : Below w.heap.size w w6 := blink c5 b6
  have hs6 : w5.heap.size ≤ w6.heap.size := b6.size
  have hx0 : w5.heap.size < w6.heap.size := BY0.lt
  have vx0_0_6 : w6.cell? ⟨w5.heap.size, 0, none⟩ = some (.int .i8 st0) := (BY0).at 0
  have vx0_1_6 : w6.cell? ⟨w5.heap.size, 1, none⟩ = some (.int .i16 sy0) := (BY0).at 1
  have vx0_2_6 : w6.cell? ⟨w5.heap.size, 2, none⟩ = some (.slice (some ⟨g5, 0, none⟩) len0 len0) := (BY0).at 2
  have lx0_6 : w5.heap.size < w6.heap.size := (BY0).lt
  go_wp2_with fail
  refine (int_any _ _ _ ps0 _ HF0.out ((o5).below b6).reads (HPT.out.below c6)).mono ?_
  rintro e w7 ⟨rfl, b7⟩
  have c7 : Below w.heap.size w w7 := blink c6 b7
  have hs7 : w6.heap.size ≤ w7.heap.size := b7.size
  have CD7 : Below w.heap.size w w7.drew := Below.drew c7
  have BD7 : Below w7.heap.size w7 w7.drew := (Below.refl _ _).drew
  have SD7 : w7.drew.cell? ⟨w.heap.size, 0, none⟩ = some (.int .i8 st0) ∧ w7.drew.cell? ⟨w.heap.size, 1, none⟩ = some (.int .i16 sy0) ∧ w7.drew.cell? ⟨w.heap.size, 2, none⟩ = some (.slice a0 len0 cap0) ∧ w7.drew.cell? ⟨w5.heap.size, 0, none⟩ = some (.int .i8 st0) ∧ w7.drew.cell? ⟨w5.heap.size, 1, none⟩ = some (.int .i16 sy0) ∧ w7.drew.cell? ⟨w5.heap.size, 2, none⟩ = some (.slice (some ⟨g5, 0, none⟩) len0 len0) := ⟨cbl BD7 ((((((((BX0).below b2).below b3).below b4).below b5).below b6).below b7).at 0), cbl BD7 ((((((((BX0).below b2).below b3).below b4).below b5).below b6).below b7).at 1), cbl BD7 ((((((((BX0).below b2).below b3).below b4).below b5).below b6).below b7).at 2), cbl BD7 (((BY0).below b7).at 0), cbl BD7 (((BY0).below b7).at 1), cbl BD7 (((BY0).below b7).at 2)⟩
  go_wp2_with fail
  go_region_held3 (fun v => v.cell? ⟨w.heap.size, 0, none⟩ = some (.int .i8 st0) ∧ v.cell? ⟨w.heap.size, 1, none⟩ = some (.int .i16 sy0) ∧ v.cell? ⟨w.heap.size, 2, none⟩ = some (.slice a0 len0 cap0) ∧ v.cell? ⟨w5.heap.size, 0, none⟩ = some (.int .i8 st0) ∧ v.cell? ⟨w5.heap.size, 1, none⟩ = some (.int .i16 sy0) ∧ v.cell? ⟨w5.heap.size, 2, none⟩ = some (.slice (some ⟨g5, 0, none⟩) len0 len0)) (first | exact zS9 | exact zS8 | exact SD7) (first | (go_at_call 9; (with_reducible refine (toNet_any st0 sy0 a0 len0 cap0 ps0 _ (hr0.below CD7) HL0.out).mono ?_); rintro e w8 ⟨g8, rfl, o8, d8⟩; have b8 : Below w7.heap.size w7 w8 := BD7.trans (d8.mono (Nat.le_refl _)); have zS8 : w8.cell? ⟨w.heap.size, 0, none⟩ = some (.int .i8 st0) ∧ w8.cell? ⟨w.heap.size, 1, none⟩ = some (.int .i16 sy0) ∧ w8.cell? ⟨w.heap.size, 2, none⟩ = some (.slice a0 len0 cap0) ∧ w8.cell? ⟨w5.heap.size, 0, none⟩ = some (.int .i8 st0) ∧ w8.cell? ⟨w5.heap.size, 1, none⟩ = some (.int .i16 sy0) ∧ w8.cell? ⟨w5.heap.size, 2, none⟩ = some (.slice (some ⟨g5, 0, none⟩) len0 len0) := ⟨cbl d8 SD7.1, cbl d8 SD7.2.1, cbl d8 SD7.2.2.1, cbl d8 SD7.2.2.2.1, cbl d8 SD7.2.2.2.2.1, cbl d8 SD7.2.2.2.2.2⟩) | (go_at_call 11; (with_reducible refine (eqNet_eq st0 sy0 _ _ ps0 _ (((((o5).below b6).below b7).below BD7).below d8).reads o8.reads HX0.out).mono ?_); rintro e w9 ⟨rfl, b9⟩; have zS9 : w9.cell? ⟨w.heap.size, 0, none⟩ = some (.int .i8 st0) ∧ w9.cell? ⟨w.heap.size, 1, none⟩ = some (.int .i16 sy0) ∧ w9.cell? ⟨w.heap.size, 2, none⟩ = some (.slice a0 len0 cap0) ∧ w9.cell? ⟨w5.heap.size, 0, none⟩ = some (.int .i8 st0) ∧ w9.cell? ⟨w5.heap.size, 1, none⟩ = some (.int .i16 sy0) ∧ w9.cell? ⟨w5.heap.size, 2, none⟩ = some (.slice (some ⟨g5, 0, none⟩) len0 len0) := ⟨cbl b9 zS8.1, cbl b9 zS8.2.1, cbl b9 zS8.2.2.1, cbl b9 zS8.2.2.2.1, cbl b9 zS8.2.2.2.2.1, cbl b9 zS8.2.2.2.2.2⟩))
  have c8 : Below w.heap.size w w8 := blink c7 b8
  have hs8 : w7.heap.size ≤ w8.heap.size := b8.size
  have c9 : Below w.heap.size w w9 := blink c8 b9
  have hs9 : w8.heap.size ≤ w9.heap.size := b9.size
  clear zS8 zS9 SD7 CD7 BD7
  go_wp2_with fail
  go_ret
  exact ⟨rfl, c9⟩
end Go.Proofs.YtfngcaoknahonaaDoor.fnExactNetText
