/-
  The model's DutyInAll and RoundingGap.
-/
import Derived.Test.YtlgimedadjpdiaaCuB
namespace Go.Proofs.Ytlgimedadjpdiaa
open Go Go.RowKit
set_option linter.unusedVariables false

theorem sall_any (v u : Value) (cs ls : List Quad) (how : Int) (h : vldF cs ls = true) (hh : isHow how = true) (w : World) (hv : ReadsC w v cs) (hu : ReadsL w u ls) :
    Calls Try.prog 23 #[v, u, .int .i64 how] w fun e w' => e = .returned (.int .i64 (allTo cs ls how cs.length)) ∧ Below w.heap.size w w' := by
  obtain ⟨a, cap, rfl, hc⟩ := hv
  have h1 := (vldC_spec (vldF_spec h).1).1.1
  obtain ⟨c, rfl, hcc⟩ := hc (fun e => by rw [e] at h1; simp at h1)
  exact sall_row c cap cs.length u cs ls how rfl h hh w hu hcc
def allRes (cs ls : List Quad) (how : Int) : Int := if askF cs ls (isHow how) = 0 then allTo cs ls how cs.length else 0
def gapRes (cs ls : List Quad) (how : Int) : Int := if askF cs ls (isHow how) = 0 then dutyTo cs ls how ls.length - allTo cs ls how cs.length else 0

set_option maxHeartbeats 1000000 in
theorem sall2_any (v u : Value) (cs ls : List Quad) (how : Int) (w : World) (hv : ReadsC w v cs) (hu : ReadsL w u ls) (hfc : FitsC cs) (hfl : FitsL ls) (hx : cs.length ≤ 1048576) (hy : ls.length ≤ 1048576) :
    Calls Try.prog 8 #[v, u, .int .i64 how] w fun e w' => e = .returned (.tuple #[.int .i64 (allRes cs ls how), .int .i64 (askF cs ls (isHow how))]) ∧ Below w.heap.size w w' := by
  obtain ⟨c, hc⟩ : ∃ c, askF cs ls (isHow how) = c := ⟨_, rfl⟩
  have HC := Lib.hid hc
  by_cases h0 : c = 0
  · subst h0
    obtain ⟨hvf, hh⟩ := askF_ok hc
    have HR : Hid (allRes cs ls how = allTo cs ls how cs.length) := Lib.hid (if_pos hc)
    have HH := Lib.hid hh
    have HVF := Lib.hid hvf
    rw [hc]
    clear hc hh hvf
    go_enter Try.func8, Try.ntmps8
    go_wp2_with (go_at_call 22; refine (show_any _ _).mono ?_; rintro e w2 ⟨rfl, hw2⟩; subst hw2)
    refine (sask_any _ _ cs ls _ _ hv hu hfc hfl hx hy).mono ?_
    rintro e w2 ⟨rfl, b2⟩
    rw [HC.out]
    go_wp2_with fail
    refine (sall_any _ _ cs ls how HVF.out HH.out _ (hv.below b2) (hu.below b2)).mono ?_
    rintro e w3 ⟨rfl, b3⟩
    have b3 := blink b2 b3
    go_wp2_with fail
    go_ret2
    exact ⟨ret_two ⟨HR.out, rfl⟩, b3⟩
  · have hn : (c != 0) = true := by simpa using h0
    have HR : Hid (allRes cs ls how = 0) := Lib.hid (if_neg (by rw [hc]; exact h0))
    rw [hc]
    clear hc h0
    go_enter Try.func8, Try.ntmps8
    go_wp2_with (go_at_call 22; refine (show_any _ _).mono ?_; rintro e w2 ⟨rfl, hw2⟩; subst hw2)
    refine (sask_any _ _ cs ls _ _ hv hu hfc hfl hx hy).mono ?_
    rintro e w2 ⟨rfl, b2⟩
    rw [HC.out]
    go_wp2_with fail
    go_ret2
    exact ⟨ret_two ⟨HR.out, rfl⟩, b2⟩

set_option maxHeartbeats 1000000 in
theorem sgap_any (v u : Value) (cs ls : List Quad) (how : Int) (w : World) (hv : ReadsC w v cs) (hu : ReadsL w u ls) (hfc : FitsC cs) (hfl : FitsL ls) (hx : cs.length ≤ 1048576) (hy : ls.length ≤ 1048576) :
    Calls Try.prog 19 #[v, u, .int .i64 how] w fun e w' => e = .returned (.tuple #[.int .i64 (gapRes cs ls how), .int .i64 (askF cs ls (isHow how))]) ∧ Below w.heap.size w w' := by
  obtain ⟨c, hc⟩ : ∃ c, askF cs ls (isHow how) = c := ⟨_, rfl⟩
  have HC := Lib.hid hc
  by_cases h0 : c = 0
  · subst h0
    obtain ⟨hvf, hh⟩ := askF_ok hc
    have HR : Hid (gapRes cs ls how = dutyTo cs ls how ls.length - allTo cs ls how cs.length) := Lib.hid (if_pos hc)
    obtain ⟨d0, d1⟩ := dutyTo_in (how := how) (k := ls.length) (vldC_spec (vldF_spec hvf).1).2 (vldF_spec hvf).2.2
    have hl10 := (vldF_spec hvf).2.1
    have hc8 := (vldC_spec (vldF_spec hvf).1).1.2
    obtain ⟨e0, e1⟩ := allTo_in (how := how) (k := cs.length) hvf (Nat.le_refl _)
    have HH := Lib.hid hh
    have HVF := Lib.hid hvf
    obtain ⟨x, hxq⟩ : ∃ x, dutyTo cs ls how ls.length = x := ⟨_, rfl⟩
    obtain ⟨y, hyq⟩ : ∃ y, allTo cs ls how cs.length = y := ⟨_, rfl⟩
    rw [hxq, hyq] at HR
    rw [hxq] at d0 d1
    rw [hyq] at e0 e1
    have HX := Lib.hid hxq
    have HY := Lib.hid hyq
    rw [hc]
    clear hc hh hvf hxq hyq
    go_enter Try.func19, Try.ntmps19
    go_wp2_with (go_at_call 22; refine (show_any _ _).mono ?_; rintro e w2 ⟨rfl, hw2⟩; subst hw2)
    refine (sask_any _ _ cs ls _ _ hv hu hfc hfl hx hy).mono ?_
    rintro e w2 ⟨rfl, b2⟩
    rw [HC.out]
    go_wp2_with fail
    refine (sdutyOf_any _ _ cs ls how HVF.out hfl HH.out _ (hv.below b2) (hu.below b2)).mono ?_
    rintro e w3 ⟨rfl, b3⟩
    have b3 := blink b2 b3
    rw [HX.out]
    go_wp2_with fail
    refine (sall_any _ _ cs ls how HVF.out HH.out _ (hv.below b3) (hu.below b3)).mono ?_
    rintro e w4 ⟨rfl, b4⟩
    have b4 := blink b3 b4
    rw [HY.out]
    go_wp2_with fail
    go_ret2
    exact ⟨ret_two ⟨HR.out, rfl⟩, b4⟩
  · have hn : (c != 0) = true := by simpa using h0
    have HR : Hid (gapRes cs ls how = 0) := Lib.hid (if_neg (by rw [hc]; exact h0))
    rw [hc]
    clear hc h0
    go_enter Try.func19, Try.ntmps19
    go_wp2_with (go_at_call 22; refine (show_any _ _).mono ?_; rintro e w2 ⟨rfl, hw2⟩; subst hw2)
    refine (sask_any _ _ cs ls _ _ hv hu hfc hfl hx hy).mono ?_
    rintro e w2 ⟨rfl, b2⟩
    rw [HC.out]
    go_wp2_with fail
    go_ret2
    exact ⟨ret_two ⟨HR.out, rfl⟩, b2⟩
end Go.Proofs.Ytlgimedadjpdiaa
