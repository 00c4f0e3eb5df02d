/-
  Contracts of the checks of values and a postage (both sides): each answers 'codeOf'.
-/
import Derived.Test.YtmhjckbndhcbmaaValid
namespace Go.Proofs.Ytmhjckbndhcbmaa
open Go Go.RowKit
set_option linter.unusedVariables false

/-- The code of values and of whether the number beside them is as told. -/
def codeOf (xs : List Int) (ok : Bool) : Int := if vldB xs then (if ok then 0 else 2) else 1
theorem codeOf_ok {xs : List Int} {ok : Bool} (h : vldB xs = true) (k : ok = true) : codeOf xs ok = 0 := by simp [codeOf, h, k]
theorem codeOf_range {xs : List Int} {ok : Bool} (h : vldB xs = true) (k : ok = false) : codeOf xs ok = 2 := by simp [codeOf, h, k]
theorem codeOf_invalid {xs : List Int} {ok : Bool} (h : vldB xs = false) : codeOf xs ok = 1 := by simp [codeOf, h]
theorem codeOf_zero {xs : List Int} {ok : Bool} (h : codeOf xs ok = 0) : vldB xs = true ∧ ok = true := by
  cases hv : vldB xs <;> cases ok <;> simp_all [codeOf]
theorem codeOf_cases (xs : List Int) (ok : Bool) : codeOf xs ok = 0 ∨ codeOf xs ok = 1 ∨ codeOf xs ok = 2 := by
  cases hv : vldB xs <;> cases ok <;> simp_all [codeOf]

theorem asked_any (v : Value) (xs : List Int) (ok : Bool) (w : World) (hv : ReadsI w v xs) (hx : xs.length ≤ 1048576) :
    Calls Try.prog 28 #[v, .bool ok] w fun e w' => e = .returned (.int .i64 (codeOf xs ok)) ∧ Below w.heap.size w w' := by
  cases hvl : vldB xs
  · go_enter Try.func28, Try.ntmps28
    go_wp2_with (go_at_call 63; refine (sl01_any _ xs _ hv hx).mono ?_; rintro e w2 ⟨rfl, hb⟩)
    go_ret
    exact ⟨(ret_int (codeOf_invalid (by assumption))).symm, hb⟩
  · cases ok
    all_goals
      go_enter Try.func28, Try.ntmps28
      go_wp2_with (go_at_call 63; refine (sl01_any _ xs _ hv hx).mono ?_; rintro e w2 ⟨rfl, hb⟩)
      go_ret
      exact ⟨(ret_int (by first | exact codeOf_ok (by assumption) rfl | exact codeOf_range (by assumption) rfl)).symm, hb⟩

end Go.Proofs.Ytmhjckbndhcbmaa
