/-
  The walk of FnExactStockText: program and model answer the same at every stock, and neither writes into its argument.
-/
import Derived.Test.YtfngcaoknahonaaDoorPairs
import Derived.Test.YtfngcaoknahonaaDoorWdStockS
import Derived.Test.YtfngcaoknahonaaDoorWpStockI
namespace Go.Proofs.YtfngcaoknahonaaDoor.fnExactStockText
open Go Go.RowKit
set_option linter.unusedVariables false

set_option maxHeartbeats 4000000 in
theorem walk (a : Option Addr) (len cap : Nat) (ps : List (Int × Int)) (w : World) (hr2 : IsRowP w a len cap ps ∧ I16 ps) (hpt : PowTab w) :
    Calls Tryd.prog 4 #[.slice a len cap] w fun e w' => e = .returned (.bool true) ∧ Below w.heap.size w w' := by
  obtain ⟨hr, hi16⟩ := hr2
  have HPT := Lib.hid hpt
  clear hpt
  by_cases hm : len ≤ 1048576
  · have t0 : decide ((1048576 : Int) - (len : Int) < 0) = false := by simp; omega
    have HL := Lib.hid hr.len_eq
    have HX : Hid (ps.length ≤ 1048576) := Lib.hid (by rw [HL.out]; exact hm)
    go_enter Tryd.func4, Tryd.ntmps4
    go_wp2_with fail
    refine (szStamp_any a len cap hm _).mono ?_
    rintro e w1 ⟨rfl, rfl⟩
    go_wp2_with fail
    refine (toStampS_any a len cap ps _ hr hm).mono ?_
    rintro e w1 ⟨rfl, o1, b1⟩
    go_wp2_with fail
    refine (swStock_any _ ps _ o1.reads hi16 HX.out).mono ?_
    rintro e w2 ⟨rfl, b2⟩
    have c2 := blink b1 b2
    go_wp2_with fail
    refine (toStampS_any a len cap ps _ (hr.below c2) hm).mono ?_
    rintro e w3 ⟨rfl, o3, b3⟩
    have c3 := blink c2 b3
    go_wp2_with fail
    refine (iwStock_any _ ps _ o3.reads hi16 HX.out (HPT.out.below c3)).mono ?_
    rintro e w4 ⟨rfl, b4⟩
    have c4 := blink c3 b4
    go_wp2_with fail
    refine (toStampS_any a len cap ps _ (hr.below c4) hm).mono ?_
    rintro e w5 ⟨rfl, o5, b5⟩
    go_wp2_with fail
    refine (eqStampS_any _ _ ps ps _ ((o3.reads.below b4).below b5) o5.reads HX.out HX.out).mono ?_
    rintro e w6 ⟨rfl, b6⟩
    rw [eqPs_true rfl]
    go_wp2_with fail
    go_ret
    exact ⟨rfl, blink (blink c4 b5) b6⟩
  · have hb : len ≤ 9223372036854775807 := by
      rcases hr with ⟨_, rfl, _, _⟩ | ⟨x, _, h1, h2, _⟩
      · omega
      · unfold maxLen at h2; omega
    have HB := Lib.hid hb
    clear hb
    go_enter Tryd.func4, Tryd.ntmps4
    go_wp2_with fail
    refine (szStamp_big a len cap hm HB.out _).mono ?_
    rintro e w1 ⟨rfl, rfl⟩
    go_wp2_with fail
    go_ret
    exact ⟨rfl, Below.refl _ _⟩
end Go.Proofs.YtfngcaoknahonaaDoor.fnExactStockText
