/-
  The walk of FnExactReadForm: program and model answer the same at every argument; neither writes into its arguments, and what is answered lies in new memory.
-/
import Derived.Test.YtbclmafplaipaaaDoorTClass
import Derived.Test.YtbclmafplaipaaaDoorEClass
import Derived.Test.YtbclmafplaipaaaDoorMClass
import Derived.Test.YtbclmafplaipaaaDoorELine
import Derived.Test.YtbclmafplaipaaaDoorMLine
import Derived.Test.YtbclmafplaipaaaDoorKeepO
import Derived.Test.YtbclmafplaipaaaDoorRfmT
import Derived.Test.YtbclmafplaipaaaDoorRfmJ
namespace Go.Proofs.YtbclmafplaipaaaDoor.fnExactReadForm
open Go Go.RowKit
set_option linter.unusedVariables false

set_option maxHeartbeats 16000000 in
set_option maxRecDepth 100000 in
theorem walk (a0 : Option Addr) (len0 cap0 : Nat) (ps0 : List (Int × Int × Int × Int)) (s1 : ByteArray) (w : World) (hh0 : IsRowC w a0 len0 cap0 ps0 ∧ FitsC ps0) (hrd : RdW w) :
    Calls Tryd.prog 8 #[.slice a0 len0 cap0, .string s1] w fun e w' => e = .returned (.bool true) ∧ Below w.heap.size w w' := by
  have HRDW := Lib.hid hrd
  clear hrd
  obtain ⟨hr0, hf0⟩ := hh0
  have HF0 := Lib.hid hf0
  have HN0 := Lib.hid hr0.len_ok
  clear hf0
  by_cases hm1 : s1.size ≤ 1048576
  rotate_left
  · have t1 : decide ((1048576 : Int) < (s1.size : Int)) = true := by simp; omega
    go_enter Tryd.func8, Tryd.ntmps8
    go_wp2_with fail
    go_ret
    exact ⟨rfl, Below.refl _ _⟩
  obtain ⟨l1, hl1⟩ : ∃ l, s1 = str l := ⟨s1.data.toList, by unfold str; apply ByteArray.ext; simp⟩
  subst hl1
  have hsz1 : (str l1).size = l1.length := str_size l1
  have HX1 : Hid (l1.length ≤ 1048576) := Lib.hid (by omega)
  have t1 : decide ((1048576 : Int) < (l1.length : Int)) = false := by simp; omega
  clear hm1
  by_cases hm0 : 0 ≤ 1048576 - (len0 : Int)
  rotate_left
  · have t0 : decide (1048576 - (len0 : Int) < 0) = true := decide_eq_true (by omega)
    go_enter Tryd.func8, Tryd.ntmps8
    go_wp2_with fail
    refine (szClassS_big a0 len0 cap0 1048576 (by omega) (by omega) (by omega) HN0.out _).mono ?_
    rintro e we ⟨rfl, rfl⟩
    go_wp2_with fail
    go_ret
    exact ⟨rfl, (Below.refl _ _)⟩
  have t0 : decide (1048576 - (len0 : Int) < 0) = false := decide_eq_false (by omega)
  have hlq0 : ps0.length = len0 := hr0.len_eq
  have HX0 : Hid (ps0.length ≤ 1048576) := Lib.hid (by omega)
  have HL0 : Hid (len0 ≤ 1048576) := Lib.hid (by omega)
  have hxb0 : ps0.length ≤ 1048576 := HX0.out
  clear hlq0
  have hlb0 := rfL_len ps0 l1
  have HLB0 : Hid ((rfL ps0 l1).length ≤ 1048576) := Lib.hid (by omega)
  go_enter Tryd.func8, Tryd.ntmps8
  go_wp2_with fail
  refine (szClassS_fit a0 len0 cap0 1048576 (by omega) (by omega) _).mono ?_
  rintro e we ⟨rfl, rfl⟩
  go_wp2_with fail
  refine (toClassS_any a0 len0 cap0 ps0 _ hr0 HL0.out).mono ?_
  rintro e w1 ⟨rfl, o1, b1⟩
  have c1 : Below w.heap.size w w1 := b1
  have hs1 : w.heap.size ≤ w1.heap.size := b1.size
  have lo1 : Hid (∀ k, Value.ownBlock (.slice (some ⟨w.heap.size, 0, none⟩) len0 len0) = some k → w.heap.size ≤ k ∧ k < w1.heap.size) := Lib.hid o1.block
  go_wp2_with fail
  refine (sreadF_any _ ps0 l1 _ (o1).reads HF0.out HX0.out HX1.out).mono ?_
  rintro e w2 ⟨sv0, rfl, so0, b2⟩
  have c2 : Below w.heap.size w w2 := blink c1 b2
  have hs2 : w1.heap.size ≤ w2.heap.size := b2.size
  have lso0 : Hid (∀ k, Value.ownBlock sv0 = some k → w1.heap.size ≤ k ∧ k < w2.heap.size) := Lib.hid so0.block
  go_wp2_with fail
  refine (toClassS_any a0 len0 cap0 ps0 _ (hr0.below c2) HL0.out).mono ?_
  rintro e w3 ⟨rfl, o3, b3⟩
  have c3 : Below w.heap.size w w3 := blink c2 b3
  have hs3 : w2.heap.size ≤ w3.heap.size := b3.size
  have lo3 : Hid (∀ k, Value.ownBlock (.slice (some ⟨w2.heap.size, 0, none⟩) len0 len0) = some k → w2.heap.size ≤ k ∧ k < w3.heap.size) := Lib.hid o3.block
  go_wp2_with fail
  refine (irf_any _ ps0 l1 _ (o3).reads HF0.out HX0.out HX1.out (HRDW.out.below c3)).mono ?_
  rintro e w4 ⟨gv0, rfl, go0, b4⟩
  have c4 : Below w.heap.size w w4 := blink c3 b4
  have hs4 : w3.heap.size ≤ w4.heap.size := b4.size
  have lgo0 : Hid (∀ k, Value.ownBlock gv0 = some k → w3.heap.size ≤ k ∧ k < w4.heap.size) := Lib.hid go0.block
  go_wp2_with fail
  refine (eqLineS_eq _ _ (rfL ps0 l1) _ (go0).reads (((so0).below b3).below b4).reads (HLB0.out)).mono ?_
  rintro e w5 ⟨rfl, b5⟩
  have c5 : Below w.heap.size w w5 := blink c4 b5
  have hs5 : w4.heap.size ≤ w5.heap.size := b5.size
  go_wp2_with fail
  refine (toClassS_any a0 len0 cap0 ps0 _ (hr0.below c5) HL0.out).mono ?_
  rintro e w6 ⟨rfl, o6, b6⟩
  have c6 : Below w.heap.size w w6 := blink c5 b6
  have hs6 : w5.heap.size ≤ w6.heap.size := b6.size
  have lo6 : Hid (∀ k, Value.ownBlock (.slice (some ⟨w5.heap.size, 0, none⟩) len0 len0) = some k → w5.heap.size ≤ k ∧ k < w6.heap.size) := Lib.hid o6.block
  go_wp2_with fail
  refine (eqClassS_eq _ _ ps0 _ ((((o3).below b4).below b5).below b6).reads (o6).reads (HX0.out)).mono ?_
  rintro e w7 ⟨rfl, b7⟩
  have c7 : Below w.heap.size w w7 := blink c6 b7
  have hs7 : w6.heap.size ≤ w7.heap.size := b7.size
  go_wp2_with fail
  refine (markC_any _ _ _ ps0 _ _ (((((o3).below b4).below b5).below b6).below b7) (by omega) (by omega) (HX0.out)).mono ?_
  rintro e w8 ⟨rfl, mk1, g8⟩
  have K8 : KeepsOut w2.heap.size w3.heap.size w7 w8 := keepsOut_grown g8 (fun k hk => by have := lo3.out k hk; omega)
  have c8 : Below w.heap.size w w8 := kout_below c7 K8 (by omega) (by omega)
  have hs8 : w7.heap.size ≤ w8.heap.size := K8.size
  have lmk1 : Hid (∀ k, Value.ownBlock (.slice (some ⟨w2.heap.size, 0, none⟩) len0 len0) = some k → w2.heap.size ≤ k ∧ k < w3.heap.size) := lo3
  go_wp2_with fail
  refine (eqLineS_eq _ _ (rfL ps0 l1) _ (((((go0).below b5).below b6).below b7).out K8 (fun k hk => by have := lgo0.out k hk; omega)).reads (((((((so0).below b3).below b4).below b5).below b6).below b7).out K8 (fun k hk => by have := lso0.out k hk; omega)).reads (HLB0.out)).mono ?_
  rintro e w9 ⟨rfl, b9⟩
  have c9 : Below w.heap.size w w9 := blink c8 b9
  have hs9 : w8.heap.size ≤ w9.heap.size := b9.size
  go_wp2_with fail
  refine (markL_any _ _ _ (rfL ps0 l1) _ _ ((((((go0).below b5).below b6).below b7).out K8 (fun k hk => by have := lgo0.out k hk; omega)).below b9) (by omega) (by omega) (HLB0.out)).mono ?_
  rintro e w10 ⟨rfl, mk2, g10⟩
  have K10 : KeepsOut w3.heap.size w4.heap.size w9 w10 := keepsOut_grown g10 (fun k hk => by have := lgo0.out k hk; omega)
  have c10 : Below w.heap.size w w10 := kout_below c9 K10 (by omega) (by omega)
  have hs10 : w9.heap.size ≤ w10.heap.size := K10.size
  have lmk2 : Hid (∀ k, Value.ownBlock gv0 = some k → w3.heap.size ≤ k ∧ k < w4.heap.size) := lgo0
  go_wp2_with fail
  refine (heldL_any _ _ _ _ (mk2).reads (by omega) (by omega) (HLB0.out)).mono ?_
  rintro e w11 ⟨rfl, b11⟩
  have c11 : Below w.heap.size w w11 := blink c10 b11
  have hs11 : w10.heap.size ≤ w11.heap.size := b11.size
  go_wp2_with fail
  refine (toClassS_any a0 len0 cap0 ps0 _ (hr0.below c11) HL0.out).mono ?_
  rintro e w12 ⟨rfl, o12, b12⟩
  have c12 : Below w.heap.size w w12 := blink c11 b12
  have hs12 : w11.heap.size ≤ w12.heap.size := b12.size
  have lo12 : Hid (∀ k, Value.ownBlock (.slice (some ⟨w11.heap.size, 0, none⟩) len0 len0) = some k → w11.heap.size ≤ k ∧ k < w12.heap.size) := Lib.hid o12.block
  go_wp2_with fail
  refine (irf_any _ ps0 l1 _ (o12).reads HF0.out HX0.out HX1.out (HRDW.out.below c12)).mono ?_
  rintro e w13 ⟨hv0, rfl, ho0, b13⟩
  have c13 : Below w.heap.size w w13 := blink c12 b13
  have hs13 : w12.heap.size ≤ w13.heap.size := b13.size
  have lho0 : Hid (∀ k, Value.ownBlock hv0 = some k → w12.heap.size ≤ k ∧ k < w13.heap.size) := Lib.hid ho0.block
  go_wp2_with fail
  refine (eqLineS_eq _ _ (rfL ps0 l1) _ (ho0).reads ((((((((((((so0).below b3).below b4).below b5).below b6).below b7).out K8 (fun k hk => by have := lso0.out k hk; omega)).below b9).out K10 (fun k hk => by have := lso0.out k hk; omega)).below b11).below b12).below b13).reads (HLB0.out)).mono ?_
  rintro e w14 ⟨rfl, b14⟩
  have c14 : Below w.heap.size w w14 := blink c13 b14
  have hs14 : w13.heap.size ≤ w14.heap.size := b14.size
  go_wp2_with fail
  refine (heldL_any _ _ _ _ (((((mk2).below b11).below b12).below b13).below b14).reads (by omega) (by omega) (HLB0.out)).mono ?_
  rintro e w15 ⟨rfl, b15⟩
  have c15 : Below w.heap.size w w15 := blink c14 b15
  have hs15 : w14.heap.size ≤ w15.heap.size := b15.size
  go_wp2_with fail
  go_ret
  exact ⟨rfl, c15⟩
end Go.Proofs.YtbclmafplaipaaaDoor.fnExactReadForm
