/-
  Texts: lists of bytes as strings; decimal numerals.
-/
import Derived.Test.YtbclmafplaipaaaDoorBase
import Derived.Laws.Concat
import Derived.Laws.BytesArg
import Derived.Lib.ItoaNum
namespace Go.Proofs.YtbclmafplaipaaaDoor
open Go Go.RowKit
set_option linter.unusedVariables false

/-- A list of bytes as a string. -/
def str (l : List UInt8) : ByteArray := ⟨l.toArray⟩
theorem str_size (l : List UInt8) : (str l).size = l.length := by simp [str, ByteArray.size]
theorem str_app (a b : List UInt8) : str a ++ str b = str (a ++ b) := by
  apply ByteArray.ext
  apply Array.toList_inj.1
  simp [str]
theorem add_str {P : Program} (a b : List UInt8) (wx : World) (h : a.length + b.length ≤ 9223372036854775807) : (Op.stringOp .add (str a) (str b)).run P wx = .ok (.string (str (a ++ b))) wx := by
  rw [run_string_add_sum wx _ _ (by rw [str_size, str_size]; omega), str_app]
theorem nums_str (x : Int) : strOfNums [x] = str [UInt8.ofNat x.toNat] := rfl

/-- The decimal numeral of a number. -/
def dec (n : Nat) : List UInt8 := Lib.decDigits n
theorem dec_small {n : Nat} (h : n < 10) : dec n = [UInt8.ofNat (48 + n)] := by unfold dec; rw [Lib.decDigits, dif_pos h]
theorem dec_big {n : Nat} (h : ¬ n < 10) : dec n = dec (n / 10) ++ [UInt8.ofNat (48 + n % 10)] := by unfold dec; rw [Lib.decDigits, dif_neg h]
theorem dec_len (n : Nat) : (dec n).length ≤ n + 1 := by
  induction n using Nat.strongRecOn with
  | ind n ih =>
    by_cases h : n < 10
    · rw [dec_small h]; simp
    · have h1 := ih (n / 10) (by omega)
      rw [dec_big h, List.length_append]
      simp only [List.length_cons, List.length_nil]
      omega
theorem dec_itoa (n : Nat) : Lib.itoa (n : Int) = dec n := by
  unfold Lib.itoa dec
  rw [if_neg (by omega)]
  rfl
end Go.Proofs.YtbclmafplaipaaaDoor
