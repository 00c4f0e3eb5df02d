/-
  DutyOf, DutyOfLine and WithAllowance on both sides.
-/
import Derived.Test.YtlgimedadjpdiaaCuE
namespace Go.Proofs.Ytlgimedadjpdiaa
open Go Go.RowKit
set_option linter.unusedVariables false

/-- The code of classes, a form and whether numbers are as told. -/
def askF (cs ls : List (Int × Int × Int × Int)) (fine : Bool) : Int := if vldF cs ls = false then 1 else if fine = false then 2 else 0
theorem askF_1 {cs ls : List (Int × Int × Int × Int)} {fine : Bool} (h : vldF cs ls = false) : askF cs ls fine = 1 := if_pos h
theorem askF_2 {cs ls : List (Int × Int × Int × Int)} (h : vldF cs ls = true) : askF cs ls false = 2 := by unfold askF; rw [if_neg (by rw [h]; simp), if_pos rfl]
theorem askF_0 {cs ls : List (Int × Int × Int × Int)} (h : vldF cs ls = true) : askF cs ls true = 0 := by unfold askF; rw [if_neg (by rw [h]; simp), if_neg (by simp)]

set_option maxHeartbeats 1000000 in
theorem sask_any (v u : Value) (cs ls : List (Int × Int × Int × Int)) (fine : Bool) (w : World) (hv : ReadsC w v cs) (hu : ReadsL w u ls) (hfc : FitsC cs) (hfl : FitsL ls) (hx : cs.length ≤ 1048576) (hy : ls.length ≤ 1048576) :
    Calls Try.prog 21 #[v, u, .bool fine] w fun e w' => e = .returned (.int .i64 (askF cs ls fine)) ∧ Below w.heap.size w w' := by
  by_cases h : vldF cs ls = true
  · have HV := Lib.hid h
    cases fine
    · have HA := Lib.hid (askF_2 h)
      clear h
      go_enter Try.func21, Try.ntmps21
      go_wp2_with fail
      refine (sokF_any _ _ cs ls _ hv hu hfc hfl hx hy).mono ?_
      rintro e w2 ⟨rfl, b2⟩
      rw [HV.out]
      go_wp2_with fail
      go_ret
      exact ⟨ret_int HA.out.symm, b2⟩
    · have HA := Lib.hid (askF_0 h)
      clear h
      go_enter Try.func21, Try.ntmps21
      go_wp2_with fail
      refine (sokF_any _ _ cs ls _ hv hu hfc hfl hx hy).mono ?_
      rintro e w2 ⟨rfl, b2⟩
      rw [HV.out]
      go_wp2_with fail
      go_ret
      exact ⟨ret_int HA.out.symm, b2⟩
  · have h : vldF cs ls = false := by simpa using h
    have HV := Lib.hid h
    have HA := Lib.hid (askF_1 (fine := fine) h)
    clear h
    go_enter Try.func21, Try.ntmps21
    go_wp2_with fail
    refine (sokF_any _ _ cs ls _ hv hu hfc hfl hx hy).mono ?_
    rintro e w2 ⟨rfl, b2⟩
    rw [HV.out]
    go_wp2_with fail
    go_ret
    exact ⟨ret_int HA.out.symm, b2⟩

/-- The way's value of a check. -/
def wayA (c how : Int) : Value := if c = 0 then wayV how else .nilIface
theorem wayA_0 (how : Int) : wayA 0 how = wayV how := if_pos rfl
theorem wayA_1 (how : Int) : wayA 1 how = .nilIface := if_neg (by omega)
theorem wayA_2 (how : Int) : wayA 2 how = .nilIface := if_neg (by omega)

set_option maxHeartbeats 1000000 in
theorem icheck_any (v u : Value) (cs ls : List (Int × Int × Int × Int)) (how : Int) (w : World) (hv : ReadsC w v cs) (hu : ReadsL w u ls) (hfc : FitsC cs) (hfl : FitsL ls) (hx : cs.length ≤ 1048576) (hy : ls.length ≤ 1048576) :
    Calls Try.prog 26 #[v, u, .int .i64 how] w fun e w' => e = .returned (.tuple #[wayA (askF cs ls (isHow how)) how, .int .i64 (askF cs ls (isHow how))]) ∧ Below w.heap.size w w' := by
  by_cases h : vldF cs ls = true
  · have HV := Lib.hid h
    obtain ⟨f, hf⟩ : ∃ f, isHow how = f := ⟨_, rfl⟩
    obtain ⟨V, hV⟩ : ∃ V, wayV how = V := ⟨_, rfl⟩
    have HF := Lib.hid hf
    have HW := Lib.hid hV
    rw [hf]
    cases f
    · rw [askF_2 h, wayA_2]
      clear h hf hV
      go_enter Try.func26, Try.ntmps26
      go_wp2_with fail
      refine (ivldF_any _ _ cs ls _ hv hu hfc hfl hx hy).mono ?_
      rintro e w2 ⟨rfl, b2⟩
      rw [HV.out]
      go_wp2_with fail
      refine (iway_any how _).mono ?_
      rintro e w3 ⟨rfl, rfl⟩
      rw [HF.out, HW.out]
      go_wp2_with fail
      go_ret2
      exact ⟨rfl, b2⟩
    · rw [askF_0 h, wayA_0]
      clear h hf
      rw [hV]
      clear hV
      go_enter Try.func26, Try.ntmps26
      go_wp2_with fail
      refine (ivldF_any _ _ cs ls _ hv hu hfc hfl hx hy).mono ?_
      rintro e w2 ⟨rfl, b2⟩
      rw [HV.out]
      go_wp2_with fail
      refine (iway_any how _).mono ?_
      rintro e w3 ⟨rfl, rfl⟩
      rw [HF.out, HW.out]
      go_wp2_with fail
      go_ret2
      exact ⟨rfl, b2⟩
  · have h : vldF cs ls = false := by simpa using h
    have HV := Lib.hid h
    rw [askF_1 h, wayA_1]
    clear h
    go_enter Try.func26, Try.ntmps26
    go_wp2_with fail
    refine (ivldF_any _ _ cs ls _ hv hu hfc hfl hx hy).mono ?_
    rintro e w2 ⟨rfl, b2⟩
    rw [HV.out]
    go_wp2_with fail
    go_ret2
    exact ⟨rfl, b2⟩

/-! ### DutyOf -/
def dutyRes (cs ls : List (Int × Int × Int × Int)) (how : Int) : Int := if askF cs ls (isHow how) = 0 then dutyTo cs ls how ls.length else 0
theorem askF_ok {cs ls : List (Int × Int × Int × Int)} {fine : Bool} (h : askF cs ls fine = 0) : vldF cs ls = true ∧ fine = true := by
  unfold askF at h
  split at h
  · omega
  · rename_i h1
    split at h
    · omega
    · rename_i h2; exact ⟨by simpa using h1, by simpa using h2⟩
theorem askF_or (cs ls : List (Int × Int × Int × Int)) (fine : Bool) : askF cs ls fine = 0 ∨ askF cs ls fine = 1 ∨ askF cs ls fine = 2 := by
  unfold askF; split
  · exact .inr (.inl rfl)
  · split
    · exact .inr (.inr rfl)
    · exact .inl rfl

set_option maxHeartbeats 1000000 in
theorem idutyOf2_any (v u : Value) (cs ls : List (Int × Int × Int × Int)) (how : Int) (w : World) (hv : ReadsC w v cs) (hu : ReadsL w u ls) (hfc : FitsC cs) (hfl : FitsL ls) (hx : cs.length ≤ 1048576) (hy : ls.length ≤ 1048576) :
    Calls Try.prog 40 #[v, u, .int .i64 how] w fun e w' => e = .returned (.tuple #[.int .i64 (dutyRes cs ls how), .int .i64 (askF cs ls (isHow how))]) ∧ Below w.heap.size w w' := by
  obtain ⟨c, hc⟩ : ∃ c, askF cs ls (isHow how) = c := ⟨_, rfl⟩
  have HC := Lib.hid hc
  by_cases h0 : c = 0
  · subst h0
    obtain ⟨hvf, hh⟩ := askF_ok hc
    have HR : Hid (dutyRes cs ls how = dutyTo cs ls how ls.length) := Lib.hid (if_pos hc)
    obtain ⟨V, hV⟩ : ∃ V, wayV how = V := ⟨_, rfl⟩
    have HW : Hid (wayA 0 how = V) := Lib.hid (by rw [wayA_0, hV])
    have HDU : Hid (∀ W, Below w.heap.size w W → Calls Try.prog 55 #[v, u, V] W fun e w' => e = .returned (.int .i64 (dutyTo cs ls how ls.length)) ∧ Below W.heap.size W w') := Lib.hid (fun W hb => by rw [← hV]; exact idutyOf_any v u cs ls how hvf hfl hh W (hv.below hb) (hu.below hb))
    rw [hc]
    clear hc hV
    go_enter Try.func40, Try.ntmps40
    go_wp2_with fail
    refine (icheck_any _ _ cs ls how _ hv hu hfc hfl hx hy).mono ?_
    rintro e w2 ⟨rfl, b2⟩
    rw [HC.out, HW.out]
    go_wp2_with fail
    refine (HDU.out _ b2).mono ?_
    rintro e w3 ⟨rfl, b3⟩
    have b3 := blink b2 b3
    go_wp2_with fail
    go_ret2
    exact ⟨ret_two ⟨HR.out, rfl⟩, b3⟩
  · have hn : (c != 0) = true := by simpa using h0
    have HR : Hid (dutyRes cs ls how = 0) := Lib.hid (if_neg (by rw [hc]; exact h0))
    obtain ⟨V, hV⟩ : ∃ V, wayA c how = V := ⟨_, rfl⟩
    have HW := Lib.hid hV
    rw [hc]
    clear hc h0 hV
    go_enter Try.func40, Try.ntmps40
    go_wp2_with fail
    refine (icheck_any _ _ cs ls how _ hv hu hfc hfl hx hy).mono ?_
    rintro e w2 ⟨rfl, b2⟩
    rw [HC.out, HW.out]
    go_wp2_with fail
    go_ret2
    exact ⟨ret_two ⟨HR.out, rfl⟩, b2⟩

/-! ### WithAllowance -/
def fineA (al how : Int) : Bool := decide (0 ≤ al ∧ al ≤ 1000000) && isHow how
def waRes (cs ls : List (Int × Int × Int × Int)) (al how : Int) : Int := if askF cs ls (fineA al how) = 0 then (if worthTo ls ls.length ≤ al then 0 else dutyTo cs ls how ls.length) else 0

end Go.Proofs.Ytlgimedadjpdiaa
