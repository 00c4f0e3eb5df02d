/-
  Contracts of the checks of values and a postage (both sides): each answers 'codeOf'.
-/
import Derived.Test.YtgbckddojfajjaaValid
namespace Go.Proofs.Ytgbckddojfajjaa
open Go Go.RowKit
set_option linter.unusedVariables false

/-- The code of values and of whether the number beside them is as told. -/
def codeOf (xs : List Int) (ok : Bool) : Int := if vldB xs then (if ok then 0 else 2) else 1
theorem codeOf_ok {xs : List Int} {ok : Bool} (h : vldB xs = true) (k : ok = true) : codeOf xs ok = 0 := by simp [codeOf, h, k]
theorem codeOf_range {xs : List Int} {ok : Bool} (h : vldB xs = true) (k : ok = false) : codeOf xs ok = 2 := by simp [codeOf, h, k]
theorem codeOf_invalid {xs : List Int} {ok : Bool} (h : vldB xs = false) : codeOf xs ok = 1 := by simp [codeOf, h]
theorem codeOf_zero {xs : List Int} {ok : Bool} (h : codeOf xs ok = 0) : vldB xs = true ∧ ok = true := by
  cases hv : vldB xs <;> cases ok <;> simp_all [codeOf]
theorem codeOf_cases (xs : List Int) (ok : Bool) : codeOf xs ok = 0 ∨ codeOf xs ok = 1 ∨ codeOf xs ok = 2 := by
  cases hv : vldB xs <;> cases ok <;> simp_all [codeOf]

theorem postage_any (n : Int) (w : World) :
    Calls Try.prog 56 #[.int .i64 n] w fun e w' => e = .returned (.bool (inB n 0 1000)) ∧ w = w' := by
  go_enter Try.func56, Try.ntmps56
  go_wp2_with (go_at_call 53; refine (in_any _ _ _ _).mono ?_; rintro e w2 ⟨rfl, rfl⟩)
  go_ret
  exact ⟨rfl, rfl⟩

theorem ispost_any (n : Int) (w : World) :
    Calls Try.prog 84 #[.int .i64 n] w fun e w' => e = .returned (.bool (inB n 0 1000)) ∧ w = w' := by
  by_cases h1 : 0 ≤ n
  · by_cases h2 : n ≤ 1000
    · have hd : decide (n ≤ 1000) = true := decide_eq_true h2
      go_enter Try.func84, Try.ntmps84
      go_wp2
      go_ret
      exact ⟨(ret_bool (inB_true (by omega))).symm, rfl⟩
    · have hd : decide (n ≤ 1000) = false := decide_eq_false h2
      go_enter Try.func84, Try.ntmps84
      go_wp2
      go_ret
      exact ⟨(ret_bool (inB_false (by omega))).symm, rfl⟩
  · have hd : decide (0 ≤ n) = false := decide_eq_false h1
    go_enter Try.func84, Try.ntmps84
    go_wp2
    go_ret
    exact ⟨(ret_bool (inB_false (by omega))).symm, rfl⟩

theorem asked_any (v : Value) (xs : List Int) (ok : Bool) (w : World) (hv : ReadsI w v xs) (hx : xs.length ≤ 1048576) :
    Calls Try.prog 55 #[v, .bool ok] w fun e w' => e = .returned (.int .i64 (codeOf xs ok)) ∧ Below w.heap.size w w' := by
  cases hvl : vldB xs
  · go_enter Try.func55, Try.ntmps55
    go_wp2_with (go_at_call 54; refine (sl01_any _ xs _ hv hx).mono ?_; rintro e w2 ⟨rfl, hb⟩)
    go_ret
    exact ⟨(ret_int (codeOf_invalid (by assumption))).symm, hb⟩
  · cases ok
    all_goals
      go_enter Try.func55, Try.ntmps55
      go_wp2_with (go_at_call 54; refine (sl01_any _ xs _ hv hx).mono ?_; rintro e w2 ⟨rfl, hb⟩)
      go_ret
      exact ⟨(ret_int (by first | exact codeOf_ok (by assumption) rfl | exact codeOf_range (by assumption) rfl)).symm, hb⟩

theorem check_any (v : Value) (xs : List Int) (n : Int) (w : World) (hv : ReadsI w v xs) (hx : xs.length ≤ 1048576) :
    Calls Try.prog 58 #[v, .int .i64 n] w fun e w' => e = .returned (.int .i64 (codeOf xs (inB n 0 1000))) ∧ w = w' := by
  cases hvl : vldB xs
  · go_enter Try.func58, Try.ntmps58
    go_wp2_with (go_at_call 22; refine (ivalid_any _ xs _ hv hx).mono ?_; rintro e w2 ⟨rfl, rfl⟩)
    go_ret
    exact ⟨(ret_int (codeOf_invalid (by assumption))).symm, rfl⟩
  · cases hok : inB n 0 1000
    all_goals
      go_enter Try.func58, Try.ntmps58
      go_wp2_with (first | (go_at_call 22; refine (ivalid_any _ xs _ hv hx).mono ?_; rintro e w2 ⟨rfl, rfl⟩) | (go_at_call 84; refine (ispost_any _ _).mono ?_; rintro e w3 ⟨rfl, rfl⟩))
      go_ret
      exact ⟨(ret_int (by first | exact codeOf_ok (by assumption) (by first | rfl | assumption) | exact codeOf_range (by assumption) (by first | rfl | assumption))).symm, rfl⟩
end Go.Proofs.Ytgbckddojfajjaa
