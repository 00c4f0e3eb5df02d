/-
  The walk of FnExactVouchersText: program and model answer the same at every argument; neither writes into its arguments, and what is answered lies in new memory.
-/
import Derived.Test.YtfngcaoknahonaaDoorTVoucher
import Derived.Test.YtfngcaoknahonaaDoorEVoucher
import Derived.Test.YtfngcaoknahonaaDoorWdVouchersS
import Derived.Test.YtfngcaoknahonaaDoorWpVouchersI
namespace Go.Proofs.YtfngcaoknahonaaDoor.fnExactVouchersText
open Go Go.RowKit
set_option linter.unusedVariables false

set_option maxHeartbeats 16000000 in
set_option maxRecDepth 100000 in
theorem walk (a0 : Option Addr) (len0 cap0 : Nat) (ps0 : List (Int × Int)) (w : World) (hh0 : IsRowVo w a0 len0 cap0 ps0 ∧ FitsVo ps0) (hpt : PowTab w) :
    Calls Tryd.prog 6 #[.slice a0 len0 cap0] w fun e w' => e = .returned (.bool true) ∧ Below w.heap.size w w' := by
  have HPT := Lib.hid hpt
  clear hpt
  obtain ⟨hr0, hf0⟩ := hh0
  have HF0 := Lib.hid hf0
  have HN0 := Lib.hid hr0.len_ok
  clear hf0
  by_cases hm0 : 0 ≤ 1048576 - (len0 : Int)
  rotate_left
  · have t0 : decide (1048576 - (len0 : Int) < 0) = true := decide_eq_true (by omega)
    go_enter Tryd.func6, Tryd.ntmps6
    go_wp2_with fail
    refine (szVoucherS_big a0 len0 cap0 1048576 (by omega) (by omega) (by omega) HN0.out _).mono ?_
    rintro e we ⟨rfl, rfl⟩
    go_wp2_with fail
    go_ret
    exact ⟨rfl, (Below.refl _ _)⟩
  have t0 : decide (1048576 - (len0 : Int) < 0) = false := decide_eq_false (by omega)
  have hlq0 : ps0.length = len0 := hr0.len_eq
  have HX0 : Hid (ps0.length ≤ 1048576) := Lib.hid (by omega)
  have HL0 : Hid (len0 ≤ 1048576) := Lib.hid (by omega)
  have hxb0 : ps0.length ≤ 1048576 := HX0.out
  clear hlq0
  go_enter Tryd.func6, Tryd.ntmps6
  go_wp2_with fail
  refine (szVoucherS_fit a0 len0 cap0 1048576 (by omega) (by omega) _).mono ?_
  rintro e we ⟨rfl, rfl⟩
  go_wp2_with fail
  refine (toVoucherS_any a0 len0 cap0 ps0 _ hr0 HL0.out).mono ?_
  rintro e w1 ⟨rfl, o1, b1⟩
  have c1 : Below w.heap.size w w1 := b1
  have hs1 : w.heap.size ≤ w1.heap.size := b1.size
  go_wp2_with fail
  refine (swVouchers_any _ ps0 _ (o1).reads HF0.out HX0.out).mono ?_
  rintro e w2 ⟨rfl, b2⟩
  have c2 : Below w.heap.size w w2 := blink c1 b2
  have hs2 : w1.heap.size ≤ w2.heap.size := b2.size
  go_wp2_with fail
  refine (toVoucherS_any a0 len0 cap0 ps0 _ (hr0.below c2) HL0.out).mono ?_
  rintro e w3 ⟨rfl, o3, b3⟩
  have c3 : Below w.heap.size w w3 := blink c2 b3
  have hs3 : w2.heap.size ≤ w3.heap.size := b3.size
  go_wp2_with fail
  refine (iwVouchers_any _ ps0 _ (o3).reads HF0.out HX0.out (HPT.out.below c3)).mono ?_
  rintro e w4 ⟨rfl, b4⟩
  have c4 : Below w.heap.size w w4 := blink c3 b4
  have hs4 : w3.heap.size ≤ w4.heap.size := b4.size
  go_wp2_with fail
  refine (toVoucherS_any a0 len0 cap0 ps0 _ (hr0.below c4) HL0.out).mono ?_
  rintro e w5 ⟨rfl, o5, b5⟩
  have c5 : Below w.heap.size w w5 := blink c4 b5
  have hs5 : w4.heap.size ≤ w5.heap.size := b5.size
  go_wp2_with fail
  refine (eqVoucherS_eq _ _ ps0 _ (((o3).below b4).below b5).reads (o5).reads (HX0.out)).mono ?_
  rintro e w6 ⟨rfl, b6⟩
  have c6 : Below w.heap.size w w6 := blink c5 b6
  have hs6 : w5.heap.size ≤ w6.heap.size := b6.size
  go_wp2_with fail
  go_ret
  exact ⟨rfl, c6⟩
end Go.Proofs.YtfngcaoknahonaaDoor.fnExactVouchersText
