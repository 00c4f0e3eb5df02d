/-
  The walk of FnExactReadBoxes: program and model answer the same at every argument; neither writes into its arguments, and what is answered lies in new memory.
-/
import Derived.Test.YtbclmafplaipaaaDoorEBox
import Derived.Test.YtbclmafplaipaaaDoorMBox
import Derived.Test.YtbclmafplaipaaaDoorKeepO
import Derived.Test.YtbclmafplaipaaaDoorRdBoxesS
import Derived.Test.YtbclmafplaipaaaDoorRdBoxesI
namespace Go.Proofs.YtbclmafplaipaaaDoor.fnExactReadBoxes
open Go Go.RowKit
set_option linter.unusedVariables false

set_option maxHeartbeats 16000000 in
set_option maxRecDepth 100000 in
theorem walk (s0 : ByteArray) (w : World) (hrd : RdW w) :
    Calls Tryd.prog 4 #[.string s0] w fun e w' => e = .returned (.bool true) ∧ Below w.heap.size w w' := by
  have HRDW := Lib.hid hrd
  clear hrd
  by_cases hm0 : s0.size ≤ 1048576
  rotate_left
  · have t0 : decide ((1048576 : Int) < (s0.size : Int)) = true := by simp; omega
    go_enter Tryd.func4, Tryd.ntmps4
    go_wp2_with fail
    go_ret
    exact ⟨rfl, Below.refl _ _⟩
  obtain ⟨l0, hl0⟩ : ∃ l, s0 = str l := ⟨_, str_of s0⟩
  subst hl0
  have hsz0 : (str l0).size = l0.length := str_size l0
  have HX0 : Hid (l0.length ≤ 1048576) := Lib.hid (by omega)
  have t0 : decide ((1048576 : Int) < (l0.length : Int)) = false := by simp; omega
  clear hm0
  have hlb0 := rdRBoxes_len l0
  have HLB0 : Hid ((rdRBoxes l0).length ≤ 1048576) := Lib.hid (by omega)
  go_enter Tryd.func4, Tryd.ntmps4
  go_wp2_with fail
  refine (sreadBoxes_any l0 HX0.out _).mono ?_
  rintro e w1 ⟨sv0, rfl, so0, b1⟩
  have c1 : Below w.heap.size w w1 := b1
  have hs1 : w.heap.size ≤ w1.heap.size := b1.size
  have lso0 : Hid (∀ k, Value.ownBlock sv0 = some k → w.heap.size ≤ k ∧ k < w1.heap.size) := Lib.hid so0.block
  go_wp2_with fail
  refine (ireadBoxes_any l0 HX0.out _ (HRDW.out.below c1)).mono ?_
  rintro e w2 ⟨gv0, rfl, go0, b2⟩
  have c2 : Below w.heap.size w w2 := blink c1 b2
  have hs2 : w1.heap.size ≤ w2.heap.size := b2.size
  have lgo0 : Hid (∀ k, Value.ownBlock gv0 = some k → w1.heap.size ≤ k ∧ k < w2.heap.size) := Lib.hid go0.block
  go_wp2_with fail
  refine (eqBoxS_eq _ _ (rdRBoxes l0) _ (go0).reads ((so0).below b2).reads (HLB0.out)).mono ?_
  rintro e w3 ⟨rfl, b3⟩
  have c3 : Below w.heap.size w w3 := blink c2 b3
  have hs3 : w2.heap.size ≤ w3.heap.size := b3.size
  go_wp2_with fail
  refine (markB_any _ _ _ (rdRBoxes l0) _ _ ((go0).below b3) (by omega) (by omega) (HLB0.out)).mono ?_
  rintro e w4 ⟨rfl, mk1, g4⟩
  have K4 : KeepsOut w1.heap.size w2.heap.size w3 w4 := keepsOut_grown g4 (fun k hk => by have := lgo0.out k hk; omega)
  have c4 : Below w.heap.size w w4 := kout_below c3 K4 (by omega) (by omega)
  have hs4 : w3.heap.size ≤ w4.heap.size := K4.size
  have lmk1 : Hid (∀ k, Value.ownBlock gv0 = some k → w1.heap.size ≤ k ∧ k < w2.heap.size) := lgo0
  go_wp2_with fail
  refine (heldB_any _ _ _ _ (mk1).reads (by omega) (by omega) (HLB0.out)).mono ?_
  rintro e w5 ⟨rfl, b5⟩
  have c5 : Below w.heap.size w w5 := blink c4 b5
  have hs5 : w4.heap.size ≤ w5.heap.size := b5.size
  go_wp2_with fail
  refine (ireadBoxes_any l0 HX0.out _ (HRDW.out.below c5)).mono ?_
  rintro e w6 ⟨hv0, rfl, ho0, b6⟩
  have c6 : Below w.heap.size w w6 := blink c5 b6
  have hs6 : w5.heap.size ≤ w6.heap.size := b6.size
  have lho0 : Hid (∀ k, Value.ownBlock hv0 = some k → w5.heap.size ≤ k ∧ k < w6.heap.size) := Lib.hid ho0.block
  go_wp2_with fail
  refine (eqBoxS_eq _ _ (rdRBoxes l0) _ (ho0).reads ((((((so0).below b2).below b3).out K4 (fun k hk => by have := lso0.out k hk; omega)).below b5).below b6).reads (HLB0.out)).mono ?_
  rintro e w7 ⟨rfl, b7⟩
  have c7 : Below w.heap.size w w7 := blink c6 b7
  have hs7 : w6.heap.size ≤ w7.heap.size := b7.size
  go_wp2_with fail
  refine (heldB_any _ _ _ _ ((((mk1).below b5).below b6).below b7).reads (by omega) (by omega) (HLB0.out)).mono ?_
  rintro e w8 ⟨rfl, b8⟩
  have c8 : Below w.heap.size w w8 := blink c7 b8
  have hs8 : w7.heap.size ≤ w8.heap.size := b8.size
  go_wp2_with fail
  go_ret
  exact ⟨rfl, c8⟩
end Go.Proofs.YtbclmafplaipaaaDoor.fnExactReadBoxes
