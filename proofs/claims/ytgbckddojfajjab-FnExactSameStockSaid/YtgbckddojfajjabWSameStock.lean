/-
  The walk of FnExactSameStock: program and model answer the same at any two stocks, and neither writes into its arguments.
-/
import Derived.Test.YtgbckddojfajjabSame
namespace Go.Proofs.Ytgbckddojfajjab.fnExactSameStock
open Go Go.RowKit
set_option linter.unusedVariables false

theorem len_ok {w : World} {a : Option Addr} {len cap : Nat} {ps : List (Int × Int)} (hr : IsRowP w a len cap ps) : len ≤ 9223372036854775807 := by
  rcases hr with ⟨_, rfl, _, _⟩ | ⟨x, _, h1, h2, _⟩
  · omega
  · unfold maxLen at h2; omega

set_option maxHeartbeats 4000000 in
theorem walk (a : Option Addr) (len cap : Nat) (ps : List (Int × Int)) (c : Option Addr) (len2 cap2 : Nat) (qs : List (Int × Int)) (w : World) (hr2 : IsRowP w a len cap ps ∧ I16 ps) (hs2 : IsRowP w c len2 cap2 qs ∧ I16 qs) :
    Calls Try.prog 4 #[.slice a len cap, .slice c len2 cap2] w fun e w' => e = .returned (.bool true) ∧ Below w.heap.size w w' := by
  obtain ⟨hr, _⟩ := hr2
  obtain ⟨hs, _⟩ := hs2
  have HB1 := Lib.hid (len_ok hr)
  have HB2 := Lib.hid (len_ok hs)
  by_cases hm : len ≤ 1048576
  · by_cases hm2 : (len2 : Int) ≤ 1048576 - len
    · have t0 : decide ((1048576 : Int) - (len : Int) < 0) = false := by simp; omega
      have t1 : decide ((1048576 : Int) - (len : Int) - (len2 : Int) < 0) = false := by simp; omega
      have HX : Hid (ps.length ≤ 1048576) := Lib.hid (by rw [hr.len_eq]; exact hm)
      have HY : Hid (qs.length ≤ 1048576) := Lib.hid (by rw [hs.len_eq]; omega)
      have hm3 : len2 ≤ 1048576 := by omega
      go_enter Try.func4, Try.ntmps4
      go_wp2_with fail
      refine (szStamp_any a len cap hm _).mono ?_
      rintro e w1 ⟨rfl, rfl⟩
      go_wp2_with fail
      refine (szStamp_gen c len2 cap2 _ (by omega) (by omega) hm2 _).mono ?_
      rintro e w1 ⟨rfl, rfl⟩
      go_wp2_with fail
      refine (toStampS_any a len cap ps _ hr hm).mono ?_
      rintro e w1 ⟨rfl, o1, b1⟩
      go_wp2_with fail
      refine (toStampS_any c len2 cap2 qs _ (hs.below b1) hm3).mono ?_
      rintro e w2 ⟨rfl, o2, b2⟩
      have c2 := blink b1 b2
      go_wp2_with fail
      refine (ssame_any _ _ ps qs _ (o1.reads.below b2) o2.reads HX.out HY.out).mono ?_
      rintro e w3 ⟨rfl, b3⟩
      have c3 := blink c2 b3
      go_wp2_with fail
      refine (toStampS_any a len cap ps _ (hr.below c3) hm).mono ?_
      rintro e w4 ⟨rfl, o4, b4⟩
      have c4 := blink c3 b4
      go_wp2_with fail
      refine (toStampS_any c len2 cap2 qs _ (hs.below c4) hm3).mono ?_
      rintro e w5 ⟨rfl, o5, b5⟩
      have c5 := blink c4 b5
      go_wp2_with fail
      refine (isame_any _ _ ps qs _ (o4.reads.below b5) o5.reads HX.out HY.out).mono ?_
      rintro e w6 ⟨rfl, b6⟩
      have c6 := blink c5 b6
      go_wp2_with fail
      refine (toStampS_any a len cap ps _ (hr.below c6) hm).mono ?_
      rintro e w7 ⟨rfl, o7, b7⟩
      have c7 := blink c6 b7
      go_wp2_with fail
      refine (eqStampS_any _ _ ps ps _ (((o4.reads.below b5).below b6).below b7) o7.reads HX.out HX.out).mono ?_
      rintro e w8 ⟨rfl, b8⟩
      rw [eqPs_true rfl]
      have c8 := blink c7 b8
      go_wp2_with fail
      refine (toStampS_any c len2 cap2 qs _ (hs.below c8) hm3).mono ?_
      rintro e w9 ⟨rfl, o9, b9⟩
      have c9 := blink c8 b9
      go_wp2_with fail
      refine (eqStampS_any _ _ qs qs _ ((((o5.reads.below b6).below b7).below b8).below b9) o9.reads HY.out HY.out).mono ?_
      rintro e w10 ⟨rfl, b10⟩
      rw [eqPs_true rfl]
      go_wp2_with fail
      go_ret
      exact ⟨rfl, blink c9 b10⟩
    · have t0 : decide ((1048576 : Int) - (len : Int) < 0) = false := by simp; omega
      go_enter Try.func4, Try.ntmps4
      go_wp2_with fail
      refine (szStamp_any a len cap hm _).mono ?_
      rintro e w1 ⟨rfl, rfl⟩
      go_wp2_with fail
      refine (szStamp_over c len2 cap2 _ (by omega) (by omega) (by omega) HB2.out _).mono ?_
      rintro e w1 ⟨rfl, rfl⟩
      go_wp2_with fail
      go_ret
      exact ⟨rfl, Below.refl _ _⟩
  · go_enter Try.func4, Try.ntmps4
    go_wp2_with fail
    refine (szStamp_big a len cap hm HB1.out _).mono ?_
    rintro e w1 ⟨rfl, rfl⟩
    go_wp2_with fail
    go_ret
    exact ⟨rfl, Below.refl _ _⟩
end Go.Proofs.Ytgbckddojfajjab.fnExactSameStock
