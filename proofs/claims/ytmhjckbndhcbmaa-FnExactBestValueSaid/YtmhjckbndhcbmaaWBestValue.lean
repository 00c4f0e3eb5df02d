/-
  The walk of FnExactBestValue: program and model answer the same at every argument, and neither writes into its argument.
-/
import Derived.Test.YtmhjckbndhcbmaaToI
import Derived.Test.YtmhjckbndhcbmaaBest
import Derived.Test.YtmhjckbndhcbmaaBvJ
namespace Go.Proofs.Ytmhjckbndhcbmaa.fnExactBestValue
open Go Go.RowKit
set_option linter.unusedVariables false

set_option maxHeartbeats 2000000 in
theorem walk (a : Option Addr) (len cap : Nat) (z : List Int) (a1 : Int) (w : World) (hr : IsRow .i64 w a len cap z) (w1 : (Lit.int .i64 a1).wf = true) :
    Calls Try.prog 3 #[.slice a len cap, .int .i64 a1] w fun e w' => e = .returned (.bool true) ∧ Below w.heap.size w w' := by
  by_cases hm : len ≤ 1048576
  · have t0 : decide ((1048576 : Int) < (len : Int)) = false := by simp; omega
    have HL := Lib.hid hr.len_le
    have HXL : Hid ((z.take len).length ≤ 1048576) := Lib.hid (by rw [HL.out]; exact hm)
    go_enter Try.func3, Try.ntmps3
    go_wp2_with fail
    refine (toI_any a len cap z _ hr hm).mono ?_
    rintro e w1 ⟨rfl, o1, b1⟩
    go_wp2_with fail
    refine (sbest_any _ (z.take len) _ _ o1.reads HXL.out).mono ?_
    rintro e w2 ⟨rfl, b2⟩
    have c2 := blink b1 b2
    go_wp2_with fail
    refine (toI_any a len cap z _ (hr.below c2) hm).mono ?_
    rintro e w3 ⟨rfl, o3, b3⟩
    have c3 := blink c2 b3
    go_wp2_with fail
    refine (ibest_any _ (z.take len) _ _ o3.reads HXL.out).mono ?_
    rintro e w4 ⟨rfl, b4⟩
    have c4 := blink c3 b4
    go_wp2_with fail
    refine (toI_any a len cap z _ (hr.below c4) hm).mono ?_
    rintro e w5 ⟨rfl, o5, b5⟩
    go_wp2_with fail
    refine (eqI_any _ _ (z.take len) (z.take len) _ ((o3.reads.below b4).below b5) o5.reads HXL.out HXL.out).mono ?_
    rintro e w6 ⟨rfl, b6⟩
    have t6 : eqB (z.take len) (z.take len) = true := eqB_true rfl
    go_wp2_with fail
    go_ret
    exact ⟨rfl, blink (blink c4 b5) b6⟩
  · have t0 : decide ((1048576 : Int) < (len : Int)) = true := by simp; omega
    go_enter Try.func3, Try.ntmps3
    go_wp2_with fail
    go_ret
    exact ⟨rfl, Below.refl _ _⟩
end Go.Proofs.Ytmhjckbndhcbmaa.fnExactBestValue
