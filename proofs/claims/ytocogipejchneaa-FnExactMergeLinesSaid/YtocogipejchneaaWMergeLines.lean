/-
  The walk of FnExactMergeLines: program and model answer the same at every argument; neither writes into its arguments, and what is answered lies in new memory.
-/
import Derived.Test.YtocogipejchneaaTClass
import Derived.Test.YtocogipejchneaaEClass
import Derived.Test.YtocogipejchneaaTLine
import Derived.Test.YtocogipejchneaaELine
import Derived.Test.YtocogipejchneaaMClass
import Derived.Test.YtocogipejchneaaMLine
import Derived.Test.YtocogipejchneaaKeepO
import Derived.Test.YtocogipejchneaaMgS
import Derived.Test.YtocogipejchneaaMgI
namespace Go.Proofs.Ytocogipejchneaa.fnExactMergeLines
open Go Go.RowKit
set_option linter.unusedVariables false

set_option maxHeartbeats 16000000 in
set_option maxRecDepth 100000 in
theorem walk (a0 : Option Addr) (len0 cap0 : Nat) (ps0 : List (Int × Int × Int × Int)) (a1 : Option Addr) (len1 cap1 : Nat) (ps1 : List (Int × Int × Int × Int)) (w : World) (hh0 : IsRowC w a0 len0 cap0 ps0 ∧ FitsC ps0) (hh1 : IsRowL w a1 len1 cap1 ps1 ∧ FitsL ps1) :
    Calls Try.prog 3 #[.slice a0 len0 cap0, .slice a1 len1 cap1] w fun e w' => e = .returned (.bool true) ∧ Below w.heap.size w w' := by
  obtain ⟨hr0, hf0⟩ := hh0
  have HF0 := Lib.hid hf0
  have HN0 := Lib.hid hr0.len_ok
  clear hf0
  obtain ⟨hr1, hf1⟩ := hh1
  have HF1 := Lib.hid hf1
  have HN1 := Lib.hid hr1.len_ok
  clear hf1
  by_cases hm0 : 0 ≤ 1048576 - (len0 : Int)
  rotate_left
  · have t0 : decide (1048576 - (len0 : Int) < 0) = true := decide_eq_true (by omega)
    go_enter Try.func3, Try.ntmps3
    go_wp2_with fail
    refine (szClassS_big a0 len0 cap0 1048576 (by omega) (by omega) (by omega) HN0.out _).mono ?_
    rintro e we ⟨rfl, rfl⟩
    go_wp2_with fail
    go_ret
    exact ⟨rfl, (Below.refl _ _)⟩
  have t0 : decide (1048576 - (len0 : Int) < 0) = false := decide_eq_false (by omega)
  by_cases hm1 : 0 ≤ (1048576 - (len0 : Int)) - (len1 : Int)
  rotate_left
  · have t1 : decide ((1048576 - (len0 : Int)) - (len1 : Int) < 0) = true := decide_eq_true (by omega)
    go_enter Try.func3, Try.ntmps3
    go_wp2_with fail
    refine (szClassS_fit a0 len0 cap0 1048576 (by omega) (by omega) _).mono ?_
    rintro e we ⟨rfl, rfl⟩
    go_wp2_with fail
    refine (szLineS_big a1 len1 cap1 (1048576 - (len0 : Int)) (by omega) (by omega) (by omega) HN1.out _).mono ?_
    rintro e we ⟨rfl, rfl⟩
    go_wp2_with fail
    go_ret
    exact ⟨rfl, (Below.refl _ _)⟩
  have t1 : decide ((1048576 - (len0 : Int)) - (len1 : Int) < 0) = false := decide_eq_false (by omega)
  have hlq0 : ps0.length = len0 := hr0.len_eq
  have HX0 : Hid (ps0.length ≤ 1048576) := Lib.hid (by omega)
  have HL0 : Hid (len0 ≤ 1048576) := Lib.hid (by omega)
  have hxb0 : ps0.length ≤ 1048576 := HX0.out
  clear hlq0
  have hlq1 : ps1.length = len1 := hr1.len_eq
  have HX1 : Hid (ps1.length ≤ 1048576) := Lib.hid (by omega)
  have HL1 : Hid (len1 ≤ 1048576) := Lib.hid (by omega)
  have hxb1 : ps1.length ≤ 1048576 := HX1.out
  clear hlq1
  have hlb0 := mgR_len ps0 ps1
  have HLB0 : Hid ((mgR ps0 ps1).length ≤ 1048576) := Lib.hid (by omega)
  go_enter Try.func3, Try.ntmps3
  go_wp2_with fail
  refine (szClassS_fit a0 len0 cap0 1048576 (by omega) (by omega) _).mono ?_
  rintro e we ⟨rfl, rfl⟩
  go_wp2_with fail
  refine (szLineS_fit a1 len1 cap1 (1048576 - (len0 : Int)) (by omega) (by omega) _).mono ?_
  rintro e we ⟨rfl, rfl⟩
  go_wp2_with fail
  refine (toClassS_any a0 len0 cap0 ps0 _ hr0 HL0.out).mono ?_
  rintro e w1 ⟨rfl, o1, b1⟩
  have c1 : Below w.heap.size w w1 := b1
  have hs1 : w.heap.size ≤ w1.heap.size := b1.size
  have lo1 : Hid (∀ k, Value.ownBlock (.slice (some ⟨w.heap.size, 0, none⟩) len0 len0) = some k → w.heap.size ≤ k ∧ k < w1.heap.size) := Lib.hid o1.block
  go_wp2_with fail
  refine (toLineS_any a1 len1 cap1 ps1 _ (hr1.below c1) HL1.out).mono ?_
  rintro e w2 ⟨rfl, o2, b2⟩
  have c2 : Below w.heap.size w w2 := blink c1 b2
  have hs2 : w1.heap.size ≤ w2.heap.size := b2.size
  have lo2 : Hid (∀ k, Value.ownBlock (.slice (some ⟨w1.heap.size, 0, none⟩) len1 len1) = some k → w1.heap.size ≤ k ∧ k < w2.heap.size) := Lib.hid o2.block
  go_wp2_with fail
  refine (smg_any _ _ ps0 ps1 _ ((o1).below b2).reads (o2).reads HF0.out HF1.out HX0.out HX1.out).mono ?_
  rintro e w3 ⟨sv0, rfl, so0, b3⟩
  have c3 : Below w.heap.size w w3 := blink c2 b3
  have hs3 : w2.heap.size ≤ w3.heap.size := b3.size
  have lso0 : Hid (∀ k, Value.ownBlock sv0 = some k → w2.heap.size ≤ k ∧ k < w3.heap.size) := Lib.hid so0.block
  go_wp2_with fail
  refine (toClassS_any a0 len0 cap0 ps0 _ (hr0.below c3) HL0.out).mono ?_
  rintro e w4 ⟨rfl, o4, b4⟩
  have c4 : Below w.heap.size w w4 := blink c3 b4
  have hs4 : w3.heap.size ≤ w4.heap.size := b4.size
  have lo4 : Hid (∀ k, Value.ownBlock (.slice (some ⟨w3.heap.size, 0, none⟩) len0 len0) = some k → w3.heap.size ≤ k ∧ k < w4.heap.size) := Lib.hid o4.block
  go_wp2_with fail
  refine (toLineS_any a1 len1 cap1 ps1 _ (hr1.below c4) HL1.out).mono ?_
  rintro e w5 ⟨rfl, o5, b5⟩
  have c5 : Below w.heap.size w w5 := blink c4 b5
  have hs5 : w4.heap.size ≤ w5.heap.size := b5.size
  have lo5 : Hid (∀ k, Value.ownBlock (.slice (some ⟨w4.heap.size, 0, none⟩) len1 len1) = some k → w4.heap.size ≤ k ∧ k < w5.heap.size) := Lib.hid o5.block
  go_wp2_with fail
  refine (img_any _ _ ps0 ps1 _ ((o4).below b5).reads (o5).reads HF0.out HF1.out HX0.out HX1.out).mono ?_
  rintro e w6 ⟨gv0, rfl, go0, b6⟩
  have c6 : Below w.heap.size w w6 := blink c5 b6
  have hs6 : w5.heap.size ≤ w6.heap.size := b6.size
  have lgo0 : Hid (∀ k, Value.ownBlock gv0 = some k → w5.heap.size ≤ k ∧ k < w6.heap.size) := Lib.hid go0.block
  go_wp2_with fail
  refine (eqLineS_eq _ _ (mgR ps0 ps1) _ (go0).reads ((((so0).below b4).below b5).below b6).reads (HLB0.out)).mono ?_
  rintro e w7 ⟨rfl, b7⟩
  have c7 : Below w.heap.size w w7 := blink c6 b7
  have hs7 : w6.heap.size ≤ w7.heap.size := b7.size
  go_wp2_with fail
  refine (toClassS_any a0 len0 cap0 ps0 _ (hr0.below c7) HL0.out).mono ?_
  rintro e w8 ⟨rfl, o8, b8⟩
  have c8 : Below w.heap.size w w8 := blink c7 b8
  have hs8 : w7.heap.size ≤ w8.heap.size := b8.size
  have lo8 : Hid (∀ k, Value.ownBlock (.slice (some ⟨w7.heap.size, 0, none⟩) len0 len0) = some k → w7.heap.size ≤ k ∧ k < w8.heap.size) := Lib.hid o8.block
  go_wp2_with fail
  refine (eqClassS_eq _ _ ps0 _ (((((o4).below b5).below b6).below b7).below b8).reads (o8).reads (HX0.out)).mono ?_
  rintro e w9 ⟨rfl, b9⟩
  have c9 : Below w.heap.size w w9 := blink c8 b9
  have hs9 : w8.heap.size ≤ w9.heap.size := b9.size
  go_wp2_with fail
  refine (toLineS_any a1 len1 cap1 ps1 _ (hr1.below c9) HL1.out).mono ?_
  rintro e w10 ⟨rfl, o10, b10⟩
  have c10 : Below w.heap.size w w10 := blink c9 b10
  have hs10 : w9.heap.size ≤ w10.heap.size := b10.size
  have lo10 : Hid (∀ k, Value.ownBlock (.slice (some ⟨w9.heap.size, 0, none⟩) len1 len1) = some k → w9.heap.size ≤ k ∧ k < w10.heap.size) := Lib.hid o10.block
  go_wp2_with fail
  refine (eqLineS_eq _ _ ps1 _ ((((((o5).below b6).below b7).below b8).below b9).below b10).reads (o10).reads (HX1.out)).mono ?_
  rintro e w11 ⟨rfl, b11⟩
  have c11 : Below w.heap.size w w11 := blink c10 b11
  have hs11 : w10.heap.size ≤ w11.heap.size := b11.size
  go_wp2_with fail
  refine (markC_any _ _ _ ps0 _ _ ((((((((o4).below b5).below b6).below b7).below b8).below b9).below b10).below b11) (by omega) (by omega) (HX0.out)).mono ?_
  rintro e w12 ⟨rfl, mk1, g12⟩
  have K12 : KeepsOut w3.heap.size w4.heap.size w11 w12 := keepsOut_grown g12 (fun k hk => by have := lo4.out k hk; omega)
  have c12 : Below w.heap.size w w12 := kout_below c11 K12 (by omega) (by omega)
  have hs12 : w11.heap.size ≤ w12.heap.size := K12.size
  have lmk1 : Hid (∀ k, Value.ownBlock (.slice (some ⟨w3.heap.size, 0, none⟩) len0 len0) = some k → w3.heap.size ≤ k ∧ k < w4.heap.size) := lo4
  go_wp2_with fail
  refine (markL_any _ _ _ ps1 _ _ ((((((((o5).below b6).below b7).below b8).below b9).below b10).below b11).out K12 (fun k hk => by have := lo5.out k hk; omega)) (by omega) (by omega) (HX1.out)).mono ?_
  rintro e w13 ⟨rfl, mk2, g13⟩
  have K13 : KeepsOut w4.heap.size w5.heap.size w12 w13 := keepsOut_grown g13 (fun k hk => by have := lo5.out k hk; omega)
  have c13 : Below w.heap.size w w13 := kout_below c12 K13 (by omega) (by omega)
  have hs13 : w12.heap.size ≤ w13.heap.size := K13.size
  have lmk2 : Hid (∀ k, Value.ownBlock (.slice (some ⟨w4.heap.size, 0, none⟩) len1 len1) = some k → w4.heap.size ≤ k ∧ k < w5.heap.size) := lo5
  go_wp2_with fail
  refine (eqLineS_eq _ _ (mgR ps0 ps1) _ ((((((((go0).below b7).below b8).below b9).below b10).below b11).out K12 (fun k hk => by have := lgo0.out k hk; omega)).out K13 (fun k hk => by have := lgo0.out k hk; omega)).reads (((((((((((so0).below b4).below b5).below b6).below b7).below b8).below b9).below b10).below b11).out K12 (fun k hk => by have := lso0.out k hk; omega)).out K13 (fun k hk => by have := lso0.out k hk; omega)).reads (HLB0.out)).mono ?_
  rintro e w14 ⟨rfl, b14⟩
  have c14 : Below w.heap.size w w14 := blink c13 b14
  have hs14 : w13.heap.size ≤ w14.heap.size := b14.size
  go_wp2_with fail
  refine (markL_any _ _ _ (mgR ps0 ps1) _ _ (((((((((go0).below b7).below b8).below b9).below b10).below b11).out K12 (fun k hk => by have := lgo0.out k hk; omega)).out K13 (fun k hk => by have := lgo0.out k hk; omega)).below b14) (by omega) (by omega) (HLB0.out)).mono ?_
  rintro e w15 ⟨rfl, mk3, g15⟩
  have K15 : KeepsOut w5.heap.size w6.heap.size w14 w15 := keepsOut_grown g15 (fun k hk => by have := lgo0.out k hk; omega)
  have c15 : Below w.heap.size w w15 := kout_below c14 K15 (by omega) (by omega)
  have hs15 : w14.heap.size ≤ w15.heap.size := K15.size
  have lmk3 : Hid (∀ k, Value.ownBlock gv0 = some k → w5.heap.size ≤ k ∧ k < w6.heap.size) := lgo0
  go_wp2_with fail
  refine (heldL_any _ _ _ _ (mk3).reads (by omega) (by omega) (HLB0.out)).mono ?_
  rintro e w16 ⟨rfl, b16⟩
  have c16 : Below w.heap.size w w16 := blink c15 b16
  have hs16 : w15.heap.size ≤ w16.heap.size := b16.size
  go_wp2_with fail
  refine (toClassS_any a0 len0 cap0 ps0 _ (hr0.below c16) HL0.out).mono ?_
  rintro e w17 ⟨rfl, o17, b17⟩
  have c17 : Below w.heap.size w w17 := blink c16 b17
  have hs17 : w16.heap.size ≤ w17.heap.size := b17.size
  have lo17 : Hid (∀ k, Value.ownBlock (.slice (some ⟨w16.heap.size, 0, none⟩) len0 len0) = some k → w16.heap.size ≤ k ∧ k < w17.heap.size) := Lib.hid o17.block
  go_wp2_with fail
  refine (toLineS_any a1 len1 cap1 ps1 _ (hr1.below c17) HL1.out).mono ?_
  rintro e w18 ⟨rfl, o18, b18⟩
  have c18 : Below w.heap.size w w18 := blink c17 b18
  have hs18 : w17.heap.size ≤ w18.heap.size := b18.size
  have lo18 : Hid (∀ k, Value.ownBlock (.slice (some ⟨w17.heap.size, 0, none⟩) len1 len1) = some k → w17.heap.size ≤ k ∧ k < w18.heap.size) := Lib.hid o18.block
  go_wp2_with fail
  refine (img_any _ _ ps0 ps1 _ ((o17).below b18).reads (o18).reads HF0.out HF1.out HX0.out HX1.out).mono ?_
  rintro e w19 ⟨hv0, rfl, ho0, b19⟩
  have c19 : Below w.heap.size w w19 := blink c18 b19
  have hs19 : w18.heap.size ≤ w19.heap.size := b19.size
  have lho0 : Hid (∀ k, Value.ownBlock hv0 = some k → w18.heap.size ≤ k ∧ k < w19.heap.size) := Lib.hid ho0.block
  go_wp2_with fail
  refine (eqLineS_eq _ _ (mgR ps0 ps1) _ (ho0).reads (((((((((((((((((so0).below b4).below b5).below b6).below b7).below b8).below b9).below b10).below b11).out K12 (fun k hk => by have := lso0.out k hk; omega)).out K13 (fun k hk => by have := lso0.out k hk; omega)).below b14).out K15 (fun k hk => by have := lso0.out k hk; omega)).below b16).below b17).below b18).below b19).reads (HLB0.out)).mono ?_
  rintro e w20 ⟨rfl, b20⟩
  have c20 : Below w.heap.size w w20 := blink c19 b20
  have hs20 : w19.heap.size ≤ w20.heap.size := b20.size
  go_wp2_with fail
  refine (heldL_any _ _ _ _ ((((((mk3).below b16).below b17).below b18).below b19).below b20).reads (by omega) (by omega) (HLB0.out)).mono ?_
  rintro e w21 ⟨rfl, b21⟩
  have c21 : Below w.heap.size w w21 := blink c20 b21
  have hs21 : w20.heap.size ≤ w21.heap.size := b21.size
  go_wp2_with fail
  go_ret
  exact ⟨rfl, c21⟩
end Go.Proofs.Ytocogipejchneaa.fnExactMergeLines
