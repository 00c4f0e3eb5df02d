/-
  The walk of FnExactShiftBag: program and model answer the same at every argument; neither writes into its arguments, and what is answered lies in new memory.
-/
import Derived.Test.YtadhoodddedjjabMatA
import Derived.Test.YtadhoodddedjjabKeepO
import Derived.Test.YtadhoodddedjjabTShift
import Derived.Test.YtadhoodddedjjabEShift
import Derived.Test.YtadhoodddedjjabMShift
import Derived.Test.YtadhoodddedjjabShU
namespace Go.Proofs.Ytadhoodddedjjab.fnExactShiftBag
open Go Go.RowKit
set_option linter.unusedVariables false

set_option maxHeartbeats 16000000 in
set_option maxRecDepth 100000 in
theorem walk (a0 : Option Addr) (len0 cap0 : Nat) (R0 : List (List Int)) (x10 x11 : Int) (w : World) (hr0 : IsRows w a0 len0 cap0 R0) (hv1 : FitV (x10, x11)) :
    Calls Try.prog 4 #[.slice a0 len0 cap0, .agg #[.int .i8 x10, .int .i8 x11]] w fun e w' => e = .returned (.bool true) ∧ Below w.heap.size w w' := by
  have HN0 := Lib.hid hr0.len_ok
  by_cases hm0 : 0 ≤ (szM 1048576 R0)
  rotate_left
  · have t0 : decide ((-1 : Int) < 0) = true := decide_eq_true (by omega)
    have hneg : (szM 1048576 R0) = -1 := szM_neg hm0
    have HNEG := Lib.hid hneg
    clear hneg
    go_enter Try.func4, Try.ntmps4
    go_wp2_with fail
    have b1 : Below w.heap.size w (w.alloc (.cells #[.int .i8 x10, .int .i8 x11] 31)) := (Below.refl _ _).alloc (Nat.le_refl _) _
    have BX1 : Blk2 (w.alloc (.cells #[.int .i8 x10, .int .i8 x11] 31)) w.heap.size 31 (.int .i8 x10) (.int .i8 x11) := Blk2.new rfl _ _ _
    generalize (w.alloc (.cells #[.int .i8 x10, .int .i8 x11] 31)) = w1 at b1 BX1 ⊢
    have c1 := b1
    have hs1 := BX1.lt
    go_wp2_with fail
    refine (szM_any a0 len0 cap0 R0 1048576 (by omega) (by omega) _ (hr0.below c1)).mono ?_
    rintro e w2 ⟨rfl, b2⟩
    have c2 : Below w.heap.size w w2 := blink c1 b2
    have hs2 : w1.heap.size ≤ w2.heap.size := b2.size
    rw [HNEG.out]
    go_wp2_with fail
    go_ret
    exact ⟨rfl, c2⟩
  have t0 : decide ((szM 1048576 R0) < 0) = false := decide_eq_false (by omega)
  have hsb0 := szM_le hm0
  have hst0 := szM_top hm0
  have htq0 := szM_tot hm0
  have HT0 : Hid (tot R0 ≤ 1048576) := Lib.hid (by omega)
  have hlq0 : R0.length = len0 := hr0.len_eq
  have HR0 : Hid (∀ j, j < R0.length → (R0.getD j []).length ≤ 1048576) := Lib.hid (fun j hj => by have := hsb0.2 j hj; omega)
  have HRL0 : Hid (∀ j, j < len0 → (R0.getD j []).length ≤ 1048576) := Lib.hid (fun j hj => HR0.out j (by omega))
  have HX0 : Hid (R0.length ≤ 1048576) := Lib.hid (by omega)
  have HY0 : Hid (len0 ≤ 1048576) := Lib.hid (by omega)
  clear hlq0 hsb0
  have hlb0 := (sh1R_bd R0 x10 x11).1
  have htl0 := (sh1R_bd R0 x10 x11).2.2
  have HLB0 : Hid ((sh1R R0 x10 x11).length ≤ 1048576) := Lib.hid (by omega)
  have HLT0 : Hid (tot (sh1R R0 x10 x11) ≤ 1048576) := Lib.hid (by omega)
  have HLR0 : Hid (∀ j, j < (sh1R R0 x10 x11).length → ((sh1R R0 x10 x11).getD j []).length ≤ 1048576) := Lib.hid (fun j hj => by have := (sh1R_bd R0 x10 x11).2.1 j hj; omega)
  have HV1 := Lib.hid hv1
  go_enter Try.func4, Try.ntmps4
  go_wp2_with fail
  have b1 : Below w.heap.size w (w.alloc (.cells #[.int .i8 x10, .int .i8 x11] 31)) := (Below.refl _ _).alloc (Nat.le_refl _) _
  have BX1 : Blk2 (w.alloc (.cells #[.int .i8 x10, .int .i8 x11] 31)) w.heap.size 31 (.int .i8 x10) (.int .i8 x11) := Blk2.new rfl _ _ _
  generalize (w.alloc (.cells #[.int .i8 x10, .int .i8 x11] 31)) = w1 at b1 BX1 ⊢
  have c1 := b1
  have hs1 := BX1.lt
  go_wp2_with fail
  refine (szM_any a0 len0 cap0 R0 1048576 (by omega) (by omega) _ (hr0.below c1)).mono ?_
  rintro e w2 ⟨rfl, b2⟩
  have c2 : Below w.heap.size w w2 := blink c1 b2
  have hs2 : w1.heap.size ≤ w2.heap.size := b2.size
  have B2 := ((BX1).below b2)
  have CD2 := Below.drew c2
  have SD2 : w2.drew.cell? ⟨w.heap.size, 0, none⟩ = some (.int .i8 x10) ∧ w2.drew.cell? ⟨w.heap.size, 1, none⟩ = some (.int .i8 x11) := ⟨B2.at0, B2.at1⟩
  go_wp2_with fail
  go_region_held3 (fun v => v.cell? ⟨w.heap.size, 0, none⟩ = some (.int .i8 x10) ∧ v.cell? ⟨w.heap.size, 1, none⟩ = some (.int .i8 x11)) (first | exact zS5 | exact zS4 | exact zS3 | exact SD2) (first | (go_at_call 12; refine (toM_any a0 len0 cap0 R0 _ (hr0.below CD2) HY0.out HRL0.out).mono ?_; rintro e w3 ⟨rfl, p3, d3⟩; have b3 : Below w2.heap.size w2 w3 := ((Below.refl _ _).drew).trans d3; have o3 : OwnMD w2.heap.size w3.heap.size w3 _ R0 := OwnM.toD p3; have zS3 : w3.cell? ⟨w.heap.size, 0, none⟩ = some (.int .i8 x10) ∧ w3.cell? ⟨w.heap.size, 1, none⟩ = some (.int .i8 x11) := ⟨(B2.below b3).at0, (B2.below b3).at1⟩) | (go_at_call 16; refine (toShift_one x10 x11 _).mono ?_; rintro e w4 ⟨rfl, b4⟩; have zS4 : w4.cell? ⟨w.heap.size, 0, none⟩ = some (.int .i8 x10) ∧ w4.cell? ⟨w.heap.size, 1, none⟩ = some (.int .i8 x11) := ⟨((B2.below b3).below b4).at0, ((B2.below b3).below b4).at1⟩) | (go_at_call 15; refine (ssh1_any _ _ _ R0 x10 x11 _ (o3.below b4) HV1.out HX0.out HR0.out).mono ?_; rintro e w5 ⟨sv0, rfl, so0, b5⟩; have zS5 : w5.cell? ⟨w.heap.size, 0, none⟩ = some (.int .i8 x10) ∧ w5.cell? ⟨w.heap.size, 1, none⟩ = some (.int .i8 x11) := ⟨(((B2.below b3).below b4).below b5).at0, (((B2.below b3).below b4).below b5).at1⟩))
  have c3 : Below w.heap.size w w3 := blink c2 b3
  have hs3 : w2.heap.size ≤ w3.heap.size := b3.size
  have c4 : Below w.heap.size w w4 := blink c3 b4
  have hs4 : w3.heap.size ≤ w4.heap.size := b4.size
  have c5 : Below w.heap.size w w5 := blink c4 b5
  have hs5 : w4.heap.size ≤ w5.heap.size := b5.size
  clear zS3 zS4 zS5 SD2 B2
  go_wp2_with fail
  refine (toM_any a0 len0 cap0 R0 _ (hr0.below c5) HY0.out HRL0.out).mono ?_
  rintro e w6 ⟨rfl, o6, b6⟩
  have c6 : Below w.heap.size w w6 := blink c5 b6
  have hs6 : w5.heap.size ≤ w6.heap.size := b6.size
  have o6 := OwnM.toD o6
  have vx10_6 := ((((((BX1).below b2).below b3).below b4).below b5).below b6).at0
  have vx11_6 := ((((((BX1).below b2).below b3).below b4).below b5).below b6).at1
  go_wp2_with fail
  refine (toShift_one x10 x11 _).mono ?_
  rintro e w7 ⟨rfl, b7⟩
  have c7 : Below w.heap.size w w7 := blink c6 b7
  have hs7 : w6.heap.size ≤ w7.heap.size := b7.size
  go_wp2_with fail
  refine (ish1_any _ _ _ R0 x10 x11 _ ((o6).below b7) HV1.out HX0.out HR0.out).mono ?_
  rintro e w8 ⟨gv0, rfl, go0, b8⟩
  have c8 : Below w.heap.size w w8 := blink c7 b8
  have hs8 : w7.heap.size ≤ w8.heap.size := b8.size
  go_wp2_with fail
  refine (eqM_any _ _ (sh1R R0 x10 x11) _ (go0).reads ((((so0).below b6).below b7).below b8).reads (HLB0.out) (HLR0.out)).mono ?_
  rintro e w9 ⟨rfl, b9⟩
  have c9 : Below w.heap.size w w9 := blink c8 b9
  have hs9 : w8.heap.size ≤ w9.heap.size := b9.size
  go_wp2_with fail
  refine (toM_any a0 len0 cap0 R0 _ (hr0.below c9) HY0.out HRL0.out).mono ?_
  rintro e w10 ⟨rfl, o10, b10⟩
  have c10 : Below w.heap.size w w10 := blink c9 b10
  have hs10 : w9.heap.size ≤ w10.heap.size := b10.size
  have o10 := OwnM.toD o10
  go_wp2_with fail
  refine (eqM_any _ _ R0 _ (((((o6).below b7).below b8).below b9).below b10).reads (o10).reads (HX0.out) (HR0.out)).mono ?_
  rintro e w11 ⟨rfl, b11⟩
  have c11 : Below w.heap.size w w11 := blink c10 b11
  have hs11 : w10.heap.size ≤ w11.heap.size := b11.size
  go_wp2_with fail
  refine (markM_any _ _ _ R0 _ _ ((((((o6).below b7).below b8).below b9).below b10).below b11) (by omega) (by omega) (HX0.out) (HT0.out)).mono ?_
  rintro e w12 ⟨rfl, mk1, K12⟩
  have c12 : Below w.heap.size w w12 := kout_below c11 K12 (by omega) (by omega)
  have hs12 : w11.heap.size ≤ w12.heap.size := K12.size
  go_wp2_with fail
  refine (eqM_any _ _ (sh1R R0 x10 x11) _ (((((go0).below b9).below b10).below b11).out K12 (by omega)).reads ((((((((so0).below b6).below b7).below b8).below b9).below b10).below b11).out K12 (by omega)).reads (HLB0.out) (HLR0.out)).mono ?_
  rintro e w13 ⟨rfl, b13⟩
  have c13 : Below w.heap.size w w13 := blink c12 b13
  have hs13 : w12.heap.size ≤ w13.heap.size := b13.size
  go_wp2_with fail
  refine (markM_any _ _ _ (sh1R R0 x10 x11) _ _ ((((((go0).below b9).below b10).below b11).out K12 (by omega)).below b13) (by omega) (by omega) (HLB0.out) (HLT0.out)).mono ?_
  rintro e w14 ⟨rfl, mk2, K14⟩
  have c14 : Below w.heap.size w w14 := kout_below c13 K14 (by omega) (by omega)
  have hs14 : w13.heap.size ≤ w14.heap.size := K14.size
  go_wp2_with fail
  refine (heldM_any _ _ _ _ (mk2).reads (by omega) (by omega) (HLB0.out) (HLT0.out)).mono ?_
  rintro e w15 ⟨rfl, b15⟩
  have c15 : Below w.heap.size w w15 := blink c14 b15
  have hs15 : w14.heap.size ≤ w15.heap.size := b15.size
  have B15 := (((((((((((((((BX1).below b2).below b3).below b4).below b5).below b6).below b7).below b8).below b9).below b10).below b11).out K12 (by omega)).below b13).out K14 (by omega)).below b15)
  have CD15 := Below.drew c15
  have SD15 : w15.drew.cell? ⟨w.heap.size, 0, none⟩ = some (.int .i8 x10) ∧ w15.drew.cell? ⟨w.heap.size, 1, none⟩ = some (.int .i8 x11) := ⟨B15.at0, B15.at1⟩
  go_wp2_with fail
  go_region_held3 (fun v => v.cell? ⟨w.heap.size, 0, none⟩ = some (.int .i8 x10) ∧ v.cell? ⟨w.heap.size, 1, none⟩ = some (.int .i8 x11)) (first | exact zS18 | exact zS17 | exact zS16 | exact SD15) (first | (go_at_call 12; refine (toM_any a0 len0 cap0 R0 _ (hr0.below CD15) HY0.out HRL0.out).mono ?_; rintro e w16 ⟨rfl, p16, d16⟩; have b16 : Below w15.heap.size w15 w16 := ((Below.refl _ _).drew).trans d16; have o16 : OwnMD w15.heap.size w16.heap.size w16 _ R0 := OwnM.toD p16; have zS16 : w16.cell? ⟨w.heap.size, 0, none⟩ = some (.int .i8 x10) ∧ w16.cell? ⟨w.heap.size, 1, none⟩ = some (.int .i8 x11) := ⟨(B15.below b16).at0, (B15.below b16).at1⟩) | (go_at_call 16; refine (toShift_one x10 x11 _).mono ?_; rintro e w17 ⟨rfl, b17⟩; have zS17 : w17.cell? ⟨w.heap.size, 0, none⟩ = some (.int .i8 x10) ∧ w17.cell? ⟨w.heap.size, 1, none⟩ = some (.int .i8 x11) := ⟨((B15.below b16).below b17).at0, ((B15.below b16).below b17).at1⟩) | (go_at_call 17; refine (ish1_any _ _ _ R0 x10 x11 _ (o16.below b17) HV1.out HX0.out HR0.out).mono ?_; rintro e w18 ⟨hv0, rfl, ho0, b18⟩; have zS18 : w18.cell? ⟨w.heap.size, 0, none⟩ = some (.int .i8 x10) ∧ w18.cell? ⟨w.heap.size, 1, none⟩ = some (.int .i8 x11) := ⟨(((B15.below b16).below b17).below b18).at0, (((B15.below b16).below b17).below b18).at1⟩))
  have c16 : Below w.heap.size w w16 := blink c15 b16
  have hs16 : w15.heap.size ≤ w16.heap.size := b16.size
  have c17 : Below w.heap.size w w17 := blink c16 b17
  have hs17 : w16.heap.size ≤ w17.heap.size := b17.size
  have c18 : Below w.heap.size w w18 := blink c17 b18
  have hs18 : w17.heap.size ≤ w18.heap.size := b18.size
  clear zS16 zS17 zS18 SD15 B15
  go_wp2_with fail
  refine (eqM_any _ _ (sh1R R0 x10 x11) _ (ho0).reads ((((((((((((((so0).below b6).below b7).below b8).below b9).below b10).below b11).out K12 (by omega)).below b13).out K14 (by omega)).below b15).below b16).below b17).below b18).reads (HLB0.out) (HLR0.out)).mono ?_
  rintro e w19 ⟨rfl, b19⟩
  have c19 : Below w.heap.size w w19 := blink c18 b19
  have hs19 : w18.heap.size ≤ w19.heap.size := b19.size
  go_wp2_with fail
  refine (heldM_any _ _ _ _ ((((((mk2).below b15).below b16).below b17).below b18).below b19).reads (by omega) (by omega) (HLB0.out) (HLT0.out)).mono ?_
  rintro e w20 ⟨rfl, b20⟩
  have c20 : Below w.heap.size w w20 := blink c19 b20
  have hs20 : w19.heap.size ≤ w20.heap.size := b20.size
  go_wp2_with fail
  go_ret
  exact ⟨rfl, c20⟩
end Go.Proofs.Ytadhoodddedjjab.fnExactShiftBag
