/-
  The walk of FnExactShiftAll: program and model answer the same at every argument; neither writes into its arguments, and what is answered lies in new memory.
-/
import Derived.Test.YtadhoodddedjjabMatA
import Derived.Test.YtadhoodddedjjabKeepO
import Derived.Test.YtadhoodddedjjabTShift
import Derived.Test.YtadhoodddedjjabEShift
import Derived.Test.YtadhoodddedjjabMShift
import Derived.Test.YtadhoodddedjjabShU
namespace Go.Proofs.Ytadhoodddedjjab.fnExactShiftAll
open Go Go.RowKit
set_option linter.unusedVariables false

set_option maxHeartbeats 16000000 in
set_option maxRecDepth 100000 in
theorem walk (a0 : Option Addr) (len0 cap0 : Nat) (R0 : List (List Int)) (a1 : Option Addr) (len1 cap1 : Nat) (ps1 : List (Int × Int)) (w : World) (hr0 : IsRows w a0 len0 cap0 R0) (hh1 : IsRowV w a1 len1 cap1 ps1 ∧ FitsV ps1) :
    Calls Try.prog 5 #[.slice a0 len0 cap0, .slice a1 len1 cap1] w fun e w' => e = .returned (.bool true) ∧ Below w.heap.size w w' := by
  have HN0 := Lib.hid hr0.len_ok
  obtain ⟨hr1, hf1⟩ := hh1
  have HF1 := Lib.hid hf1
  have HN1 := Lib.hid hr1.len_ok
  clear hf1
  by_cases hm0 : 0 ≤ (szM 1048576 R0)
  rotate_left
  · have t0 : decide ((-1 : Int) < 0) = true := decide_eq_true (by omega)
    have hneg : (szM 1048576 R0) = -1 := szM_neg hm0
    have HNEG := Lib.hid hneg
    clear hneg
    go_enter Try.func5, Try.ntmps5
    go_wp2_with fail
    refine (szM_any a0 len0 cap0 R0 1048576 (by omega) (by omega) _ hr0).mono ?_
    rintro e w1 ⟨rfl, b1⟩
    have c1 : Below w.heap.size w w1 := b1
    have hs1 : w.heap.size ≤ w1.heap.size := b1.size
    rw [HNEG.out]
    go_wp2_with fail
    go_ret
    exact ⟨rfl, c1⟩
  have t0 : decide ((szM 1048576 R0) < 0) = false := decide_eq_false (by omega)
  have hsb0 := szM_le hm0
  have hst0 := szM_top hm0
  have htq0 := szM_tot hm0
  have HT0 : Hid (tot R0 ≤ 1048576) := Lib.hid (by omega)
  by_cases hm1 : 0 ≤ (szM 1048576 R0) - (len1 : Int)
  rotate_left
  · have t1 : decide ((szM 1048576 R0) - (len1 : Int) < 0) = true := decide_eq_true (by omega)
    go_enter Try.func5, Try.ntmps5
    go_wp2_with fail
    refine (szM_any a0 len0 cap0 R0 1048576 (by omega) (by omega) _ hr0).mono ?_
    rintro e w1 ⟨rfl, b1⟩
    have c1 : Below w.heap.size w w1 := b1
    have hs1 : w.heap.size ≤ w1.heap.size := b1.size
    go_wp2_with fail
    refine (szShiftS_big a1 len1 cap1 (szM 1048576 R0) (by omega) (by omega) (by omega) HN1.out _).mono ?_
    rintro e we ⟨rfl, rfl⟩
    go_wp2_with fail
    go_ret
    exact ⟨rfl, c1⟩
  have t1 : decide ((szM 1048576 R0) - (len1 : Int) < 0) = false := decide_eq_false (by omega)
  have hlq0 : R0.length = len0 := hr0.len_eq
  have HR0 : Hid (∀ j, j < R0.length → (R0.getD j []).length ≤ 1048576) := Lib.hid (fun j hj => by have := hsb0.2 j hj; omega)
  have HRL0 : Hid (∀ j, j < len0 → (R0.getD j []).length ≤ 1048576) := Lib.hid (fun j hj => HR0.out j (by omega))
  have HX0 : Hid (R0.length ≤ 1048576) := Lib.hid (by omega)
  have HY0 : Hid (len0 ≤ 1048576) := Lib.hid (by omega)
  clear hlq0 hsb0
  have hlq1 : ps1.length = len1 := hr1.len_eq
  have HX1 : Hid (ps1.length ≤ 1048576) := Lib.hid (by omega)
  have HL1 : Hid (len1 ≤ 1048576) := Lib.hid (by omega)
  have hxb1 : ps1.length ≤ 1048576 := HX1.out
  clear hlq1
  have hlb0 := (shAR_bd R0 ps1).1
  have htl0 := (shAR_bd R0 ps1).2.2
  have HLB0 : Hid ((shAR R0 ps1).length ≤ 1048576) := Lib.hid (by omega)
  have HLT0 : Hid (tot (shAR R0 ps1) ≤ 1048576) := Lib.hid (by omega)
  have HLR0 : Hid (∀ j, j < (shAR R0 ps1).length → ((shAR R0 ps1).getD j []).length ≤ 1048576) := Lib.hid (fun j hj => by have := (shAR_bd R0 ps1).2.1 j hj; omega)
  go_enter Try.func5, Try.ntmps5
  go_wp2_with fail
  refine (szM_any a0 len0 cap0 R0 1048576 (by omega) (by omega) _ hr0).mono ?_
  rintro e w1 ⟨rfl, b1⟩
  have c1 : Below w.heap.size w w1 := b1
  have hs1 : w.heap.size ≤ w1.heap.size := b1.size
  go_wp2_with fail
  refine (szShiftS_fit a1 len1 cap1 (szM 1048576 R0) (by omega) (by omega) _).mono ?_
  rintro e we ⟨rfl, rfl⟩
  go_wp2_with fail
  refine (toM_any a0 len0 cap0 R0 _ (hr0.below c1) HY0.out HRL0.out).mono ?_
  rintro e w2 ⟨rfl, o2, b2⟩
  have c2 : Below w.heap.size w w2 := blink c1 b2
  have hs2 : w1.heap.size ≤ w2.heap.size := b2.size
  have o2 := OwnM.toD o2
  go_wp2_with fail
  refine (toShiftS_any a1 len1 cap1 ps1 _ (hr1.below c2) HL1.out).mono ?_
  rintro e w3 ⟨rfl, o3, b3⟩
  have c3 : Below w.heap.size w w3 := blink c2 b3
  have hs3 : w2.heap.size ≤ w3.heap.size := b3.size
  have lo3 : Hid (∀ k, Value.ownBlock (.slice (some ⟨w2.heap.size, 0, none⟩) len1 len1) = some k → w2.heap.size ≤ k ∧ k < w3.heap.size) := Lib.hid o3.block
  go_wp2_with fail
  refine (sshA_any _ _ _ _ R0 ps1 _ ((o2).below b3) (o3).reads HF1.out HX0.out HR0.out HX1.out).mono ?_
  rintro e w4 ⟨sv0, rfl, so0, b4⟩
  have c4 : Below w.heap.size w w4 := blink c3 b4
  have hs4 : w3.heap.size ≤ w4.heap.size := b4.size
  go_wp2_with fail
  refine (toM_any a0 len0 cap0 R0 _ (hr0.below c4) HY0.out HRL0.out).mono ?_
  rintro e w5 ⟨rfl, o5, b5⟩
  have c5 : Below w.heap.size w w5 := blink c4 b5
  have hs5 : w4.heap.size ≤ w5.heap.size := b5.size
  have o5 := OwnM.toD o5
  go_wp2_with fail
  refine (toShiftS_any a1 len1 cap1 ps1 _ (hr1.below c5) HL1.out).mono ?_
  rintro e w6 ⟨rfl, o6, b6⟩
  have c6 : Below w.heap.size w w6 := blink c5 b6
  have hs6 : w5.heap.size ≤ w6.heap.size := b6.size
  have lo6 : Hid (∀ k, Value.ownBlock (.slice (some ⟨w5.heap.size, 0, none⟩) len1 len1) = some k → w5.heap.size ≤ k ∧ k < w6.heap.size) := Lib.hid o6.block
  go_wp2_with fail
  refine (ishA_any _ _ _ _ R0 ps1 _ ((o5).below b6) (o6).reads HF1.out HX0.out HR0.out HX1.out).mono ?_
  rintro e w7 ⟨gv0, rfl, go0, b7⟩
  have c7 : Below w.heap.size w w7 := blink c6 b7
  have hs7 : w6.heap.size ≤ w7.heap.size := b7.size
  go_wp2_with fail
  refine (eqM_any _ _ (shAR R0 ps1) _ (go0).reads ((((so0).below b5).below b6).below b7).reads (HLB0.out) (HLR0.out)).mono ?_
  rintro e w8 ⟨rfl, b8⟩
  have c8 : Below w.heap.size w w8 := blink c7 b8
  have hs8 : w7.heap.size ≤ w8.heap.size := b8.size
  go_wp2_with fail
  refine (toM_any a0 len0 cap0 R0 _ (hr0.below c8) HY0.out HRL0.out).mono ?_
  rintro e w9 ⟨rfl, o9, b9⟩
  have c9 : Below w.heap.size w w9 := blink c8 b9
  have hs9 : w8.heap.size ≤ w9.heap.size := b9.size
  have o9 := OwnM.toD o9
  go_wp2_with fail
  refine (eqM_any _ _ R0 _ (((((o5).below b6).below b7).below b8).below b9).reads (o9).reads (HX0.out) (HR0.out)).mono ?_
  rintro e w10 ⟨rfl, b10⟩
  have c10 : Below w.heap.size w w10 := blink c9 b10
  have hs10 : w9.heap.size ≤ w10.heap.size := b10.size
  go_wp2_with fail
  refine (toShiftS_any a1 len1 cap1 ps1 _ (hr1.below c10) HL1.out).mono ?_
  rintro e w11 ⟨rfl, o11, b11⟩
  have c11 : Below w.heap.size w w11 := blink c10 b11
  have hs11 : w10.heap.size ≤ w11.heap.size := b11.size
  have lo11 : Hid (∀ k, Value.ownBlock (.slice (some ⟨w10.heap.size, 0, none⟩) len1 len1) = some k → w10.heap.size ≤ k ∧ k < w11.heap.size) := Lib.hid o11.block
  go_wp2_with fail
  refine (eqShiftS_eq _ _ ps1 _ ((((((o6).below b7).below b8).below b9).below b10).below b11).reads (o11).reads (HX1.out)).mono ?_
  rintro e w12 ⟨rfl, b12⟩
  have c12 : Below w.heap.size w w12 := blink c11 b12
  have hs12 : w11.heap.size ≤ w12.heap.size := b12.size
  go_wp2_with fail
  refine (markM_any _ _ _ R0 _ _ ((((((((o5).below b6).below b7).below b8).below b9).below b10).below b11).below b12) (by omega) (by omega) (HX0.out) (HT0.out)).mono ?_
  rintro e w13 ⟨rfl, mk1, K13⟩
  have c13 : Below w.heap.size w w13 := kout_below c12 K13 (by omega) (by omega)
  have hs13 : w12.heap.size ≤ w13.heap.size := K13.size
  go_wp2_with fail
  refine (markV_any _ _ _ ps1 _ _ ((((((((o6).below b7).below b8).below b9).below b10).below b11).below b12).out K13 (fun k hk => by have := lo6.out k hk; omega)) (by omega) (by omega) (HX1.out)).mono ?_
  rintro e w14 ⟨rfl, mk2, g14⟩
  have K14 : KeepsOut w5.heap.size w6.heap.size w13 w14 := keepsOut_grown g14 (fun k hk => by have := lo6.out k hk; omega)
  have c14 : Below w.heap.size w w14 := kout_below c13 K14 (by omega) (by omega)
  have hs14 : w13.heap.size ≤ w14.heap.size := K14.size
  have lmk2 : Hid (∀ k, Value.ownBlock (.slice (some ⟨w5.heap.size, 0, none⟩) len1 len1) = some k → w5.heap.size ≤ k ∧ k < w6.heap.size) := lo6
  go_wp2_with fail
  refine (eqM_any _ _ (shAR R0 ps1) _ ((((((((go0).below b8).below b9).below b10).below b11).below b12).out K13 (by omega)).out K14 (by omega)).reads (((((((((((so0).below b5).below b6).below b7).below b8).below b9).below b10).below b11).below b12).out K13 (by omega)).out K14 (by omega)).reads (HLB0.out) (HLR0.out)).mono ?_
  rintro e w15 ⟨rfl, b15⟩
  have c15 : Below w.heap.size w w15 := blink c14 b15
  have hs15 : w14.heap.size ≤ w15.heap.size := b15.size
  go_wp2_with fail
  refine (markM_any _ _ _ (shAR R0 ps1) _ _ (((((((((go0).below b8).below b9).below b10).below b11).below b12).out K13 (by omega)).out K14 (by omega)).below b15) (by omega) (by omega) (HLB0.out) (HLT0.out)).mono ?_
  rintro e w16 ⟨rfl, mk3, K16⟩
  have c16 : Below w.heap.size w w16 := kout_below c15 K16 (by omega) (by omega)
  have hs16 : w15.heap.size ≤ w16.heap.size := K16.size
  go_wp2_with fail
  refine (heldM_any _ _ _ _ (mk3).reads (by omega) (by omega) (HLB0.out) (HLT0.out)).mono ?_
  rintro e w17 ⟨rfl, b17⟩
  have c17 : Below w.heap.size w w17 := blink c16 b17
  have hs17 : w16.heap.size ≤ w17.heap.size := b17.size
  go_wp2_with fail
  refine (toM_any a0 len0 cap0 R0 _ (hr0.below c17) HY0.out HRL0.out).mono ?_
  rintro e w18 ⟨rfl, o18, b18⟩
  have c18 : Below w.heap.size w w18 := blink c17 b18
  have hs18 : w17.heap.size ≤ w18.heap.size := b18.size
  have o18 := OwnM.toD o18
  go_wp2_with fail
  refine (toShiftS_any a1 len1 cap1 ps1 _ (hr1.below c18) HL1.out).mono ?_
  rintro e w19 ⟨rfl, o19, b19⟩
  have c19 : Below w.heap.size w w19 := blink c18 b19
  have hs19 : w18.heap.size ≤ w19.heap.size := b19.size
  have lo19 : Hid (∀ k, Value.ownBlock (.slice (some ⟨w18.heap.size, 0, none⟩) len1 len1) = some k → w18.heap.size ≤ k ∧ k < w19.heap.size) := Lib.hid o19.block
  go_wp2_with fail
  refine (ishA_any _ _ _ _ R0 ps1 _ ((o18).below b19) (o19).reads HF1.out HX0.out HR0.out HX1.out).mono ?_
  rintro e w20 ⟨hv0, rfl, ho0, b20⟩
  have c20 : Below w.heap.size w w20 := blink c19 b20
  have hs20 : w19.heap.size ≤ w20.heap.size := b20.size
  go_wp2_with fail
  refine (eqM_any _ _ (shAR R0 ps1) _ (ho0).reads (((((((((((((((((so0).below b5).below b6).below b7).below b8).below b9).below b10).below b11).below b12).out K13 (by omega)).out K14 (by omega)).below b15).out K16 (by omega)).below b17).below b18).below b19).below b20).reads (HLB0.out) (HLR0.out)).mono ?_
  rintro e w21 ⟨rfl, b21⟩
  have c21 : Below w.heap.size w w21 := blink c20 b21
  have hs21 : w20.heap.size ≤ w21.heap.size := b21.size
  go_wp2_with fail
  refine (heldM_any _ _ _ _ ((((((mk3).below b17).below b18).below b19).below b20).below b21).reads (by omega) (by omega) (HLB0.out) (HLT0.out)).mono ?_
  rintro e w22 ⟨rfl, b22⟩
  have c22 : Below w.heap.size w w22 := blink c21 b22
  have hs22 : w21.heap.size ≤ w22.heap.size := b22.size
  go_wp2_with fail
  go_ret
  exact ⟨rfl, c22⟩
end Go.Proofs.Ytadhoodddedjjab.fnExactShiftAll
