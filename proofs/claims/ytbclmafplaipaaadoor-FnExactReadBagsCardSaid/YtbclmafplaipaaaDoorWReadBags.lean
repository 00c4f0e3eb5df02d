/-
  The walk of FnExactReadBags: program and model answer the same at every argument; neither writes into its arguments, and what is answered lies in new memory.
-/
import Derived.Test.YtbclmafplaipaaaDoorMatA
import Derived.Test.YtbclmafplaipaaaDoorKeepO
import Derived.Test.YtbclmafplaipaaaDoorMatD
import Derived.Test.YtbclmafplaipaaaDoorRdBagsS
import Derived.Test.YtbclmafplaipaaaDoorRdBagsI
namespace Go.Proofs.YtbclmafplaipaaaDoor.fnExactReadBags
open Go Go.RowKit
set_option linter.unusedVariables false

set_option maxHeartbeats 16000000 in
set_option maxRecDepth 100000 in
theorem walk (s0 : ByteArray) (w : World) (hrd : MlW w) :
    Calls Tryd.prog 7 #[.string s0] w fun e w' => e = .returned (.bool true) ∧ Below w.heap.size w w' := by
  have HRDW := Lib.hid hrd
  clear hrd
  by_cases hm0 : s0.size ≤ 1048576
  rotate_left
  · have t0 : decide ((1048576 : Int) < (s0.size : Int)) = true := by simp; omega
    go_enter Tryd.func7, Tryd.ntmps7
    go_wp2_with fail
    go_ret
    exact ⟨rfl, Below.refl _ _⟩
  obtain ⟨l0, hl0⟩ : ∃ l, s0 = str l := ⟨s0.data.toList, by unfold str; apply ByteArray.ext; simp⟩
  subst hl0
  have hsz0 : (str l0).size = l0.length := str_size l0
  have HX0 : Hid (l0.length ≤ 1048576) := Lib.hid (by omega)
  have t0 : decide ((1048576 : Int) < (l0.length : Int)) = false := by simp; omega
  clear hm0
  have hlb0 := (rdRBags_bd l0).1
  have htl0 := (rdRBags_bd l0).2.2
  have HLB0 : Hid ((rdRBags l0).length ≤ 1048576) := Lib.hid (by omega)
  have HLT0 : Hid (tot (rdRBags l0) ≤ 1048576) := Lib.hid (by omega)
  have HLR0 : Hid (∀ j, j < (rdRBags l0).length → ((rdRBags l0).getD j []).length ≤ 1048576) := Lib.hid (fun j hj => by have := (rdRBags_bd l0).2.1 j hj; omega)
  go_enter Tryd.func7, Tryd.ntmps7
  go_wp2_with fail
  refine (sreadBags_any l0 HX0.out _).mono ?_
  rintro e w1 ⟨sv0, rfl, so0, b1⟩
  have c1 : Below w.heap.size w w1 := b1
  have hs1 : w.heap.size ≤ w1.heap.size := b1.size
  go_wp2_with fail
  refine (ireadBags_any l0 HX0.out _ (HRDW.out.below c1)).mono ?_
  rintro e w2 ⟨gv0, rfl, go0, b2⟩
  have c2 : Below w.heap.size w w2 := blink c1 b2
  have hs2 : w1.heap.size ≤ w2.heap.size := b2.size
  go_wp2_with fail
  refine (eqM_any _ _ (rdRBags l0) _ (go0).reads ((so0).below b2).reads (HLB0.out) (HLR0.out)).mono ?_
  rintro e w3 ⟨rfl, b3⟩
  have c3 : Below w.heap.size w w3 := blink c2 b3
  have hs3 : w2.heap.size ≤ w3.heap.size := b3.size
  go_wp2_with fail
  refine (markM_any _ _ _ (rdRBags l0) _ _ ((go0).below b3) (by omega) (by omega) (HLB0.out) (HLT0.out)).mono ?_
  rintro e w4 ⟨rfl, mk1, K4⟩
  have c4 : Below w.heap.size w w4 := kout_below c3 K4 (by omega) (by omega)
  have hs4 : w3.heap.size ≤ w4.heap.size := K4.size
  go_wp2_with fail
  refine (heldM_any _ _ _ _ (mk1).reads (by omega) (by omega) (HLB0.out) (HLT0.out)).mono ?_
  rintro e w5 ⟨rfl, b5⟩
  have c5 : Below w.heap.size w w5 := blink c4 b5
  have hs5 : w4.heap.size ≤ w5.heap.size := b5.size
  go_wp2_with fail
  refine (ireadBags_any l0 HX0.out _ (HRDW.out.below c5)).mono ?_
  rintro e w6 ⟨hv0, rfl, ho0, b6⟩
  have c6 : Below w.heap.size w w6 := blink c5 b6
  have hs6 : w5.heap.size ≤ w6.heap.size := b6.size
  go_wp2_with fail
  refine (eqM_any _ _ (rdRBags l0) _ (ho0).reads ((((((so0).below b2).below b3).out K4 (by omega)).below b5).below b6).reads (HLB0.out) (HLR0.out)).mono ?_
  rintro e w7 ⟨rfl, b7⟩
  have c7 : Below w.heap.size w w7 := blink c6 b7
  have hs7 : w6.heap.size ≤ w7.heap.size := b7.size
  go_wp2_with fail
  refine (heldM_any _ _ _ _ ((((mk1).below b5).below b6).below b7).reads (by omega) (by omega) (HLB0.out) (HLT0.out)).mono ?_
  rintro e w8 ⟨rfl, b8⟩
  have c8 : Below w.heap.size w w8 := blink c7 b8
  have hs8 : w7.heap.size ≤ w8.heap.size := b8.size
  go_wp2_with fail
  go_ret
  exact ⟨rfl, c8⟩
end Go.Proofs.YtbclmafplaipaaaDoor.fnExactReadBags
