/-
  The walk of FnExactBagsText: program and model answer the same at every argument; neither writes into its arguments, and what is answered lies in new memory.
-/
import Derived.Test.YtadhoodddedjjabMatA
import Derived.Test.YtadhoodddedjjabKeepO
import Derived.Test.YtadhoodddedjjabTxI
namespace Go.Proofs.Ytadhoodddedjjab.fnExactBagsText
open Go Go.RowKit
set_option linter.unusedVariables false

set_option maxHeartbeats 16000000 in
set_option maxRecDepth 100000 in
theorem walk (a0 : Option Addr) (len0 cap0 : Nat) (R0 : List (List Int)) (w : World) (hr0 : IsRows w a0 len0 cap0 R0) :
    Calls Try.prog 9 #[.slice a0 len0 cap0] w fun e w' => e = .returned (.bool true) ∧ Below w.heap.size w w' := by
  have HN0 := Lib.hid hr0.len_ok
  by_cases hm0 : 0 ≤ (szM 1048576 R0)
  rotate_left
  · have t0 : decide ((-1 : Int) < 0) = true := decide_eq_true (by omega)
    have hneg : (szM 1048576 R0) = -1 := szM_neg hm0
    have HNEG := Lib.hid hneg
    clear hneg
    go_enter Try.func9, Try.ntmps9
    go_wp2_with fail
    refine (szM_any a0 len0 cap0 R0 1048576 (by omega) (by omega) _ hr0).mono ?_
    rintro e w1 ⟨rfl, b1⟩
    have c1 : Below w.heap.size w w1 := b1
    have hs1 : w.heap.size ≤ w1.heap.size := b1.size
    rw [HNEG.out]
    go_wp2_with fail
    go_ret
    exact ⟨rfl, c1⟩
  have t0 : decide ((szM 1048576 R0) < 0) = false := decide_eq_false (by omega)
  have hsb0 := szM_le hm0
  have hst0 := szM_top hm0
  have hlq0 : R0.length = len0 := hr0.len_eq
  have HR0 : Hid (∀ j, j < R0.length → (R0.getD j []).length ≤ 1048576) := Lib.hid (fun j hj => by have := hsb0.2 j hj; omega)
  have HRL0 : Hid (∀ j, j < len0 → (R0.getD j []).length ≤ 1048576) := Lib.hid (fun j hj => HR0.out j (by omega))
  have HX0 : Hid (R0.length ≤ 1048576) := Lib.hid (by omega)
  have HY0 : Hid (len0 ≤ 1048576) := Lib.hid (by omega)
  clear hlq0 hsb0
  go_enter Try.func9, Try.ntmps9
  go_wp2_with fail
  refine (szM_any a0 len0 cap0 R0 1048576 (by omega) (by omega) _ hr0).mono ?_
  rintro e w1 ⟨rfl, b1⟩
  have c1 : Below w.heap.size w w1 := b1
  have hs1 : w.heap.size ≤ w1.heap.size := b1.size
  go_wp2_with fail
  refine (toM_any a0 len0 cap0 R0 _ (hr0.below c1) HY0.out HRL0.out).mono ?_
  rintro e w2 ⟨rfl, o2, b2⟩
  have c2 : Below w.heap.size w w2 := blink c1 b2
  have hs2 : w1.heap.size ≤ w2.heap.size := b2.size
  go_wp2_with fail
  refine (stext_any _ R0 _ (o2).reads HX0.out HR0.out).mono ?_
  rintro e w3 ⟨rfl, b3⟩
  have c3 : Below w.heap.size w w3 := blink c2 b3
  have hs3 : w2.heap.size ≤ w3.heap.size := b3.size
  go_wp2_with fail
  refine (toM_any a0 len0 cap0 R0 _ (hr0.below c3) HY0.out HRL0.out).mono ?_
  rintro e w4 ⟨rfl, o4, b4⟩
  have c4 : Below w.heap.size w w4 := blink c3 b4
  have hs4 : w3.heap.size ≤ w4.heap.size := b4.size
  go_wp2_with fail
  refine (itext_any _ R0 _ (o4).reads HX0.out HR0.out).mono ?_
  rintro e w5 ⟨rfl, b5⟩
  have c5 : Below w.heap.size w w5 := blink c4 b5
  have hs5 : w4.heap.size ≤ w5.heap.size := b5.size
  go_wp2_with fail
  refine (toM_any a0 len0 cap0 R0 _ (hr0.below c5) HY0.out HRL0.out).mono ?_
  rintro e w6 ⟨rfl, o6, b6⟩
  have c6 : Below w.heap.size w w6 := blink c5 b6
  have hs6 : w5.heap.size ≤ w6.heap.size := b6.size
  go_wp2_with fail
  refine (eqM_any _ _ R0 _ (((o4).below b5).below b6).reads (o6).reads (HX0.out) (HR0.out)).mono ?_
  rintro e w7 ⟨rfl, b7⟩
  have c7 : Below w.heap.size w w7 := blink c6 b7
  have hs7 : w6.heap.size ≤ w7.heap.size := b7.size
  go_wp2_with fail
  go_ret
  exact ⟨rfl, c7⟩
end Go.Proofs.Ytadhoodddedjjab.fnExactBagsText
