/-
  strings.TrimSuffix at a line feed.
-/
import Derived.Test.YtbclmafplaipaaaDoorRdP
import Derived.Test.YtbclmafplaipaaaDoorJn
import Derived.Test.YtbclmafplaipaaaDoorLayTrm
import Derived.Shelf.Strings.Prefix
namespace Go.Proofs.YtbclmafplaipaaaDoor
open Go Go.RowKit
set_option linter.unusedVariables false

def trimS (text : List UInt8) : List UInt8 := if text.getLast? = some 10 then text.dropLast else text
theorem trimS_eq (l : List UInt8) : Lib.trimSuffix l [10] = trimS l := by
  unfold Lib.trimSuffix Lib.hasSuffix trimS
  rcases List.eq_nil_or_concat l with rfl | ⟨L, b, rfl⟩
  · rfl
  · by_cases h : b = 10
    · subst h
      have e : ([10] : List UInt8).isSuffixOf (L.concat 10) = true := by
        rw [List.isSuffixOf_iff_suffix]
        exact ⟨L, by simp⟩
      rw [if_pos e, if_pos (by simp)]
      simp
    · have e : ([10] : List UInt8).isSuffixOf (L.concat b) = false := by
        cases he : ([10] : List UInt8).isSuffixOf (L.concat b) with
        | false => rfl
        | true =>
          rw [List.isSuffixOf_iff_suffix] at he
          obtain ⟨t, ht⟩ := he
          exfalso
          rw [List.concat_eq_append] at ht
          have := List.append_inj' ht rfl
          simp at this
          exact h this.2.symm
      rw [if_neg (by rw [e]; simp), if_neg (by simp [h])]
theorem itrim_any (l : List UInt8) (hl : l.length ≤ 1048576) (w : World) :
    Calls Tryd.prog 70 #[.string (str l), .string ⟨#[10]⟩] w fun e w' => e = .returned (.string (str (trimS l))) ∧ w = w' := by
  have k := Go.Proofs.Any.strings_TrimSuffix layTrm (str l) ⟨#[10]⟩ w (by rw [str_size]; omega)
  refine Calls.mono (f := 70) k ?_
  rintro e w' ⟨he, hw⟩
  rw [data_str] at he
  refine ⟨?_, hw.symm⟩
  rw [he]
  have h : Lib.trimSuffix l (⟨#[10]⟩ : ByteArray).data.toList = trimS l := trimS_eq l
  rw [h]
  rfl
theorem trimS_len (l : List UInt8) : (trimS l).length ≤ l.length := by unfold trimS; split <;> simp
end Go.Proofs.YtbclmafplaipaaaDoor
