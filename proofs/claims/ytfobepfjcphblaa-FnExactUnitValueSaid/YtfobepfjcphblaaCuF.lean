/-
  DutyOf, DutyOfLine and WithAllowance on both sides.
-/
import Derived.Test.YtfobepfjcphblaaCuE
namespace Go.Proofs.Ytfobepfjcphblaa
open Go Go.RowKit
set_option linter.unusedVariables false

/-- The code of classes, a form and whether numbers are as told. -/
def askF (cs ls : List (Int × Int × Int × Int)) (fine : Bool) : Int := if vldF cs ls = false then 1 else if fine = false then 2 else 0
theorem askF_1 {cs ls : List (Int × Int × Int × Int)} {fine : Bool} (h : vldF cs ls = false) : askF cs ls fine = 1 := if_pos h
theorem askF_2 {cs ls : List (Int × Int × Int × Int)} (h : vldF cs ls = true) : askF cs ls false = 2 := by unfold askF; rw [if_neg (by rw [h]; simp), if_pos rfl]
theorem askF_0 {cs ls : List (Int × Int × Int × Int)} (h : vldF cs ls = true) : askF cs ls true = 0 := by unfold askF; rw [if_neg (by rw [h]; simp), if_neg (by simp)]

set_option maxHeartbeats 1000000 in
theorem sask_any (v u : Value) (cs ls : List (Int × Int × Int × Int)) (fine : Bool) (w : World) (hv : ReadsC w v cs) (hu : ReadsL w u ls) (hfc : FitsC cs) (hfl : FitsL ls) (hx : cs.length ≤ 1048576) (hy : ls.length ≤ 1048576) :
    Calls Try.prog 62 #[v, u, .bool fine] w fun e w' => e = .returned (.int .i64 (askF cs ls fine)) ∧ Below w.heap.size w w' := by
  by_cases h : vldF cs ls = true
  · have HV := Lib.hid h
    cases fine
    · have HA := Lib.hid (askF_2 h)
      clear h
      go_enter Try.func62, Try.ntmps62
      go_wp2_with fail
      refine (sokF_any _ _ cs ls _ hv hu hfc hfl hx hy).mono ?_
      rintro e w2 ⟨rfl, b2⟩
      rw [HV.out]
      go_wp2_with fail
      go_ret
      exact ⟨ret_int HA.out.symm, b2⟩
    · have HA := Lib.hid (askF_0 h)
      clear h
      go_enter Try.func62, Try.ntmps62
      go_wp2_with fail
      refine (sokF_any _ _ cs ls _ hv hu hfc hfl hx hy).mono ?_
      rintro e w2 ⟨rfl, b2⟩
      rw [HV.out]
      go_wp2_with fail
      go_ret
      exact ⟨ret_int HA.out.symm, b2⟩
  · have h : vldF cs ls = false := by simpa using h
    have HV := Lib.hid h
    have HA := Lib.hid (askF_1 (fine := fine) h)
    clear h
    go_enter Try.func62, Try.ntmps62
    go_wp2_with fail
    refine (sokF_any _ _ cs ls _ hv hu hfc hfl hx hy).mono ?_
    rintro e w2 ⟨rfl, b2⟩
    rw [HV.out]
    go_wp2_with fail
    go_ret
    exact ⟨ret_int HA.out.symm, b2⟩

/-- The way's value of a check. -/
def wayA (c how : Int) : Value := if c = 0 then wayV how else .nilIface
theorem wayA_0 (how : Int) : wayA 0 how = wayV how := if_pos rfl
theorem wayA_1 (how : Int) : wayA 1 how = .nilIface := if_neg (by omega)
theorem wayA_2 (how : Int) : wayA 2 how = .nilIface := if_neg (by omega)

set_option maxHeartbeats 1000000 in
theorem icheck_any (v u : Value) (cs ls : List (Int × Int × Int × Int)) (how : Int) (w : World) (hv : ReadsC w v cs) (hu : ReadsL w u ls) (hfc : FitsC cs) (hfl : FitsL ls) (hx : cs.length ≤ 1048576) (hy : ls.length ≤ 1048576) :
    Calls Try.prog 64 #[v, u, .int .i64 how] w fun e w' => e = .returned (.tuple #[wayA (askF cs ls (isHow how)) how, .int .i64 (askF cs ls (isHow how))]) ∧ Below w.heap.size w w' := by
  by_cases h : vldF cs ls = true
  · have HV := Lib.hid h
    obtain ⟨f, hf⟩ : ∃ f, isHow how = f := ⟨_, rfl⟩
    obtain ⟨V, hV⟩ : ∃ V, wayV how = V := ⟨_, rfl⟩
    have HF := Lib.hid hf
    have HW := Lib.hid hV
    rw [hf]
    cases f
    · rw [askF_2 h, wayA_2]
      clear h hf hV
      go_enter Try.func64, Try.ntmps64
      go_wp2_with fail
      refine (ivldF_any _ _ cs ls _ hv hu hfc hfl hx hy).mono ?_
      rintro e w2 ⟨rfl, b2⟩
      rw [HV.out]
      go_wp2_with fail
      refine (iway_any how _).mono ?_
      rintro e w3 ⟨rfl, rfl⟩
      rw [HF.out, HW.out]
      go_wp2_with fail
      go_ret2
      exact ⟨rfl, b2⟩
    · rw [askF_0 h, wayA_0]
      clear h hf
      rw [hV]
      clear hV
      go_enter Try.func64, Try.ntmps64
      go_wp2_with fail
      refine (ivldF_any _ _ cs ls _ hv hu hfc hfl hx hy).mono ?_
      rintro e w2 ⟨rfl, b2⟩
      rw [HV.out]
      go_wp2_with fail
      refine (iway_any how _).mono ?_
      rintro e w3 ⟨rfl, rfl⟩
      rw [HF.out, HW.out]
      go_wp2_with fail
      go_ret2
      exact ⟨rfl, b2⟩
  · have h : vldF cs ls = false := by simpa using h
    have HV := Lib.hid h
    rw [askF_1 h, wayA_1]
    clear h
    go_enter Try.func64, Try.ntmps64
    go_wp2_with fail
    refine (ivldF_any _ _ cs ls _ hv hu hfc hfl hx hy).mono ?_
    rintro e w2 ⟨rfl, b2⟩
    rw [HV.out]
    go_wp2_with fail
    go_ret2
    exact ⟨rfl, b2⟩

/-! ### DutyOf -/
def dutyRes (cs ls : List (Int × Int × Int × Int)) (how : Int) : Int := if askF cs ls (isHow how) = 0 then dutyTo cs ls how ls.length else 0
theorem askF_ok {cs ls : List (Int × Int × Int × Int)} {fine : Bool} (h : askF cs ls fine = 0) : vldF cs ls = true ∧ fine = true := by
  unfold askF at h
  split at h
  · omega
  · rename_i h1
    split at h
    · omega
    · rename_i h2; exact ⟨by simpa using h1, by simpa using h2⟩
theorem askF_or (cs ls : List (Int × Int × Int × Int)) (fine : Bool) : askF cs ls fine = 0 ∨ askF cs ls fine = 1 ∨ askF cs ls fine = 2 := by
  unfold askF; split
  · exact .inr (.inl rfl)
  · split
    · exact .inr (.inr rfl)
    · exact .inl rfl

set_option maxHeartbeats 1000000 in
theorem sdutyOf2_any (v u : Value) (cs ls : List (Int × Int × Int × Int)) (how : Int) (w : World) (hv : ReadsC w v cs) (hu : ReadsL w u ls) (hfc : FitsC cs) (hfl : FitsL ls) (hx : cs.length ≤ 1048576) (hy : ls.length ≤ 1048576) :
    Calls Try.prog 36 #[v, u, .int .i64 how] w fun e w' => e = .returned (.tuple #[.int .i64 (dutyRes cs ls how), .int .i64 (askF cs ls (isHow how))]) ∧ Below w.heap.size w w' := by
  obtain ⟨c, hc⟩ : ∃ c, askF cs ls (isHow how) = c := ⟨_, rfl⟩
  have HC := Lib.hid hc
  by_cases h0 : c = 0
  · subst h0
    obtain ⟨hvf, hh⟩ := askF_ok hc
    have HR : Hid (dutyRes cs ls how = dutyTo cs ls how ls.length) := Lib.hid (if_pos hc)
    have HH := Lib.hid hh
    rw [hc]
    clear hc hh
    go_enter Try.func36, Try.ntmps36
    go_wp2_with (go_at_call 54; refine (show_any _ _).mono ?_; rintro e w2 ⟨rfl, hw2⟩; subst hw2)
    refine (sask_any _ _ cs ls _ _ hv hu hfc hfl hx hy).mono ?_
    rintro e w2 ⟨rfl, b2⟩
    rw [HC.out]
    go_wp2_with fail
    refine (sdutyOf_any _ _ cs ls how hvf hfl HH.out _ (hv.below b2) (hu.below b2)).mono ?_
    rintro e w3 ⟨rfl, b3⟩
    have b3 := blink b2 b3
    go_wp2_with fail
    go_ret2
    exact ⟨ret_two ⟨HR.out, rfl⟩, b3⟩
  · have hn : (c != 0) = true := by simpa using h0
    have HR : Hid (dutyRes cs ls how = 0) := Lib.hid (if_neg (by rw [hc]; exact h0))
    rw [hc]
    clear hc h0
    go_enter Try.func36, Try.ntmps36
    go_wp2_with (go_at_call 54; refine (show_any _ _).mono ?_; rintro e w2 ⟨rfl, hw2⟩; subst hw2)
    refine (sask_any _ _ cs ls _ _ hv hu hfc hfl hx hy).mono ?_
    rintro e w2 ⟨rfl, b2⟩
    rw [HC.out]
    go_wp2_with fail
    go_ret2
    exact ⟨ret_two ⟨HR.out, rfl⟩, b2⟩

set_option maxHeartbeats 1000000 in
theorem idutyOf2_any (v u : Value) (cs ls : List (Int × Int × Int × Int)) (how : Int) (w : World) (hv : ReadsC w v cs) (hu : ReadsL w u ls) (hfc : FitsC cs) (hfl : FitsL ls) (hx : cs.length ≤ 1048576) (hy : ls.length ≤ 1048576) :
    Calls Try.prog 37 #[v, u, .int .i64 how] w fun e w' => e = .returned (.tuple #[.int .i64 (dutyRes cs ls how), .int .i64 (askF cs ls (isHow how))]) ∧ Below w.heap.size w w' := by
  obtain ⟨c, hc⟩ : ∃ c, askF cs ls (isHow how) = c := ⟨_, rfl⟩
  have HC := Lib.hid hc
  by_cases h0 : c = 0
  · subst h0
    obtain ⟨hvf, hh⟩ := askF_ok hc
    have HR : Hid (dutyRes cs ls how = dutyTo cs ls how ls.length) := Lib.hid (if_pos hc)
    obtain ⟨V, hV⟩ : ∃ V, wayV how = V := ⟨_, rfl⟩
    have HW : Hid (wayA 0 how = V) := Lib.hid (by rw [wayA_0, hV])
    have HDU : Hid (∀ W, Below w.heap.size w W → Calls Try.prog 65 #[v, u, V] W fun e w' => e = .returned (.int .i64 (dutyTo cs ls how ls.length)) ∧ Below W.heap.size W w') := Lib.hid (fun W hb => by rw [← hV]; exact idutyOf_any v u cs ls how hvf hfl hh W (hv.below hb) (hu.below hb))
    rw [hc]
    clear hc hV
    go_enter Try.func37, Try.ntmps37
    go_wp2_with fail
    refine (icheck_any _ _ cs ls how _ hv hu hfc hfl hx hy).mono ?_
    rintro e w2 ⟨rfl, b2⟩
    rw [HC.out, HW.out]
    go_wp2_with fail
    refine (HDU.out _ b2).mono ?_
    rintro e w3 ⟨rfl, b3⟩
    have b3 := blink b2 b3
    go_wp2_with fail
    go_ret2
    exact ⟨ret_two ⟨HR.out, rfl⟩, b3⟩
  · have hn : (c != 0) = true := by simpa using h0
    have HR : Hid (dutyRes cs ls how = 0) := Lib.hid (if_neg (by rw [hc]; exact h0))
    obtain ⟨V, hV⟩ : ∃ V, wayA c how = V := ⟨_, rfl⟩
    have HW := Lib.hid hV
    rw [hc]
    clear hc h0 hV
    go_enter Try.func37, Try.ntmps37
    go_wp2_with fail
    refine (icheck_any _ _ cs ls how _ hv hu hfc hfl hx hy).mono ?_
    rintro e w2 ⟨rfl, b2⟩
    rw [HC.out, HW.out]
    go_wp2_with fail
    go_ret2
    exact ⟨ret_two ⟨HR.out, rfl⟩, b2⟩

/-! ### WithAllowance -/
def fineA (al how : Int) : Bool := decide (0 ≤ al ∧ al ≤ 1000000) && isHow how
def waRes (cs ls : List (Int × Int × Int × Int)) (al how : Int) : Int := if askF cs ls (fineA al how) = 0 then (if worthTo ls ls.length ≤ al then 0 else dutyTo cs ls how ls.length) else 0

set_option maxHeartbeats 1000000 in
theorem sfree_any (v u : Value) (cs ls : List (Int × Int × Int × Int)) (al how : Int) (h : vldF cs ls = true) (hfl : FitsL ls) (hh : isHow how = true) (w : World) (hv : ReadsC w v cs) (hu : ReadsL w u ls) (d : Int) (hd : (if worthTo ls ls.length ≤ al then 0 else dutyTo cs ls how ls.length) = d) :
    Calls Try.prog 67 #[v, u, .int .i64 al, .int .i64 how] w fun e w' => e = .returned (.int .i64 d) ∧ Below w.heap.size w w' := by
  obtain ⟨hvc, h10, hok⟩ := vldF_spec h
  obtain ⟨wt, hwt⟩ : ∃ x, worthTo ls ls.length = x := ⟨_, rfl⟩
  have HWT := Lib.hid hwt
  rw [hwt] at hd
  by_cases hw : wt ≤ al
  · have e1 : decide (wt ≤ al) = true := decide_eq_true hw
    have HD : Hid (d = 0) := Lib.hid (by rw [← hd, if_pos hw])
    clear hd hw hwt
    go_enter Try.func67, Try.ntmps67
    go_wp2_with fail
    refine (sworth_any _ _ ls _ hu hfl h10 hok).mono ?_
    rintro e w3 ⟨rfl, hw⟩
    subst hw
    rw [HWT.out]
    go_wp2_with fail
    go_ret
    exact ⟨ret_int HD.out.symm, Below.refl _ _⟩
  · have e1 : decide (wt ≤ al) = false := decide_eq_false hw
    have HD : Hid (d = dutyTo cs ls how ls.length) := Lib.hid (by rw [← hd, if_neg hw])
    clear hd hw hwt
    go_enter Try.func67, Try.ntmps67
    go_wp2_with fail
    refine (sworth_any _ _ ls _ hu hfl h10 hok).mono ?_
    rintro e w3 ⟨rfl, hw⟩
    subst hw
    rw [HWT.out]
    go_wp2_with fail
    refine (sdutyOf_any _ _ cs ls how h hfl hh _ hv hu).mono ?_
    rintro e w4 ⟨rfl, b4⟩
    go_wp2_with fail
    go_ret
    exact ⟨ret_int HD.out.symm, b4⟩

set_option maxHeartbeats 1000000 in
theorem swa_any (v u : Value) (cs ls : List (Int × Int × Int × Int)) (al how : Int) (w : World) (hv : ReadsC w v cs) (hu : ReadsL w u ls) (hfc : FitsC cs) (hfl : FitsL ls) (hx : cs.length ≤ 1048576) (hy : ls.length ≤ 1048576) :
    Calls Try.prog 38 #[v, u, .int .i64 al, .int .i64 how] w fun e w' => e = .returned (.tuple #[.int .i64 (waRes cs ls al how), .int .i64 (askF cs ls (fineA al how))]) ∧ Below w.heap.size w w' := by
  obtain ⟨c, hc⟩ : ∃ c, askF cs ls (fineA al how) = c := ⟨_, rfl⟩
  have HC := Lib.hid hc
  obtain ⟨g, hg⟩ : ∃ g, isHow how = g := ⟨_, rfl⟩
  have HG := Lib.hid hg
  obtain ⟨r, hr⟩ : ∃ r, waRes cs ls al how = r := ⟨_, rfl⟩
  rw [hc, hr]
  by_cases ha : 0 ≤ al ∧ al ≤ 1000000
  · have d1 := inB_true ha
    have HFA : Hid (fineA al how = g) := Lib.hid (by unfold fineA; rw [decide_eq_true ha, hg]; rfl)
    by_cases h0 : c = 0
    · subst h0
      obtain ⟨hvf, hh⟩ := askF_ok hc
      have hh : isHow how = true := by unfold fineA at hh; rw [Bool.and_eq_true] at hh; exact hh.2
      have HD : Hid ((if worthTo ls ls.length ≤ al then 0 else dutyTo cs ls how ls.length) = r) := Lib.hid (by rw [← hr]; unfold waRes; rw [if_pos hc])
      clear hc hr ha hg
      go_enter Try.func38, Try.ntmps38
      go_wp2_with (first | (go_at_call 66; refine (sdecl_any _ _).mono ?_; rintro e w2 ⟨rfl, hw2⟩; subst hw2) | (go_at_call 54; refine (show_any _ _).mono ?_; rintro e w2 ⟨rfl, hw2⟩; subst hw2; rw [HG.out]))
      refine (sask_any _ _ cs ls _ _ hv hu hfc hfl hx hy).mono ?_
      rintro e w2 ⟨rfl, b2⟩
      rw [← HFA.out, HC.out]
      go_wp2_with fail
      refine (sfree_any _ _ cs ls al how hvf hfl hh _ (hv.below b2) (hu.below b2) r HD.out).mono ?_
      rintro e w3 ⟨rfl, b3⟩
      have b3 := blink b2 b3
      go_wp2_with fail
      go_ret2
      exact ⟨rfl, b3⟩
    · have hn : (c != 0) = true := by simpa using h0
      have HR : Hid (r = 0) := Lib.hid (by rw [← hr]; exact if_neg (by rw [hc]; exact h0))
      clear hc hr ha hg h0
      go_enter Try.func38, Try.ntmps38
      go_wp2_with (first | (go_at_call 66; refine (sdecl_any _ _).mono ?_; rintro e w2 ⟨rfl, hw2⟩; subst hw2) | (go_at_call 54; refine (show_any _ _).mono ?_; rintro e w2 ⟨rfl, hw2⟩; subst hw2; rw [HG.out]))
      refine (sask_any _ _ cs ls _ _ hv hu hfc hfl hx hy).mono ?_
      rintro e w2 ⟨rfl, b2⟩
      rw [← HFA.out, HC.out]
      go_wp2_with fail
      go_ret2
      exact ⟨ret_two ⟨HR.out, rfl⟩, b2⟩
  · have d1 := inB_false ha
    have HFA : Hid (fineA al how = false) := Lib.hid (by unfold fineA; rw [decide_eq_false ha]; rfl)
    have h0 : c ≠ 0 := by
      intro e; rw [e] at hc; have := (askF_ok hc).2; rw [HFA.out] at this; exact absurd this (by simp)
    have hn : (c != 0) = true := by simpa using h0
    have HR : Hid (r = 0) := Lib.hid (by rw [← hr]; exact if_neg (by rw [hc]; exact h0))
    clear hc hr ha hg h0
    go_enter Try.func38, Try.ntmps38
    go_wp2_with (first | (go_at_call 66; refine (sdecl_any _ _).mono ?_; rintro e w2 ⟨rfl, hw2⟩; subst hw2) | (go_at_call 54; refine (show_any _ _).mono ?_; rintro e w2 ⟨rfl, hw2⟩; subst hw2; rw [HG.out]))
    refine (sask_any _ _ cs ls _ _ hv hu hfc hfl hx hy).mono ?_
    rintro e w2 ⟨rfl, b2⟩
    rw [← HFA.out, HC.out]
    go_wp2_with fail
    go_ret2
    exact ⟨ret_two ⟨HR.out, rfl⟩, b2⟩
end Go.Proofs.Ytfobepfjcphblaa
