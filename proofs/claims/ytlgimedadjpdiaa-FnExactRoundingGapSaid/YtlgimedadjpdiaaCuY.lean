/-
  The program's RoundingGap.
-/
import Derived.Test.YtlgimedadjpdiaaCuQ
namespace Go.Proofs.Ytlgimedadjpdiaa
open Go Go.RowKit
set_option linter.unusedVariables false

set_option maxHeartbeats 1000000 in
theorem igap_any (v u : Value) (cs ls : List Quad) (how : Int) (w : World) (hv : ReadsC w v cs) (hu : ReadsL w u ls) (hfc : FitsC cs) (hfl : FitsL ls) (hx : cs.length ≤ 1048576) (hy : ls.length ≤ 1048576) :
    Calls Try.prog 20 #[v, u, .int .i64 how] w fun e w' => e = .returned (.tuple #[.int .i64 (gapRes cs ls how), .int .i64 (askF cs ls (isHow how))]) ∧ Below w.heap.size w w' := by
  obtain ⟨c, hc⟩ : ∃ c, askF cs ls (isHow how) = c := ⟨_, rfl⟩
  have HD : Hid (Calls Try.prog 40 #[v, u, .int .i64 how] w fun e w' => e = .returned (.tuple #[.int .i64 (dutyRes cs ls how), .int .i64 c]) ∧ Below w.heap.size w w') := Lib.hid (by
    rw [← hc]; exact idutyOf2_any v u cs ls how w hv hu hfc hfl hx hy)
  have HA : Hid (∀ W, Below w.heap.size w W → Calls Try.prog 11 #[v, u, .int .i64 how] W fun e w' => e = .returned (.tuple #[.int .i64 (allRes cs ls how), .int .i64 c]) ∧ Below W.heap.size W w') := Lib.hid (fun W hb => by
    rw [← hc]; exact iall2_any v u cs ls how W (hv.below hb) (hu.below hb) hfc hfl hx hy)
  by_cases h0 : c = 0
  · subst h0
    obtain ⟨hvf, hh⟩ := askF_ok hc
    have h1 : dutyRes cs ls how = dutyTo cs ls how ls.length := if_pos hc
    have h2 : allRes cs ls how = allTo cs ls how cs.length := if_pos hc
    have h3 : gapRes cs ls how = dutyTo cs ls how ls.length - allTo cs ls how cs.length := if_pos hc
    obtain ⟨d0, d1⟩ := dutyTo_in (how := how) (k := ls.length) (vldC_spec (vldF_spec hvf).1).2 (vldF_spec hvf).2.2
    have hl10 := (vldF_spec hvf).2.1
    have hc8 := (vldC_spec (vldF_spec hvf).1).1.2
    obtain ⟨e0, e1⟩ := allTo_in (how := how) (k := cs.length) hvf (Nat.le_refl _)
    obtain ⟨x, hxq⟩ : ∃ x, dutyTo cs ls how ls.length = x := ⟨_, rfl⟩
    obtain ⟨y, hyq⟩ : ∃ y, allTo cs ls how cs.length = y := ⟨_, rfl⟩
    rw [hxq] at h1 h3 d0 d1
    rw [hyq] at h2 h3 e0 e1
    rw [h1] at HD
    rw [h2] at HA
    have HR := Lib.hid h3
    rw [hc]
    clear hc hh hvf hxq hyq h1 h2 h3 hv hu hfc hfl
    go_enter Try.func20, Try.ntmps20
    go_wp2_with fail
    refine (HD.out).mono ?_
    rintro e w2 ⟨rfl, b2⟩
    go_wp2_with fail
    refine (HA.out _ b2).mono ?_
    rintro e w3 ⟨rfl, b3⟩
    have b3 := blink b2 b3
    go_wp2_with fail
    go_ret2
    exact ⟨ret_two ⟨HR.out, rfl⟩, b3⟩
  · have hn : (c != 0) = true := by simpa using h0
    have HR : Hid (gapRes cs ls how = 0) := Lib.hid (if_neg (by rw [hc]; exact h0))
    obtain ⟨x, hxq⟩ : ∃ x, dutyRes cs ls how = x := ⟨_, rfl⟩
    rw [hxq] at HD
    rw [hc]
    clear hc h0 hxq
    go_enter Try.func20, Try.ntmps20
    go_wp2_with fail
    refine (HD.out).mono ?_
    rintro e w2 ⟨rfl, b2⟩
    go_wp2_with fail
    go_ret2
    exact ⟨ret_two ⟨HR.out, rfl⟩, b2⟩
end Go.Proofs.Ytlgimedadjpdiaa
