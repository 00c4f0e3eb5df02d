/-
  Texts of bags: the plain text, one digit of the model's.
-/
import Derived.Test.YtadhoodddedjjabBgW
import Derived.Laws.BytesArg
namespace Go.Proofs.Ytadhoodddedjjab
open Go Go.RowKit
set_option linter.unusedVariables false

/-- The digits of the first q numbers of a row. -/
def digK (xs : List Int) : Nat → List Int
  | 0 => []
  | q + 1 => digK xs q ++ [48 + xs.getD q 0]
/-- The text of the first k rows. -/
def txtK (R : List (List Int)) : Nat → List Int
  | 0 => []
  | k + 1 => (txtK R k ++ if 0 < k then [47] else []) ++ digK (R.getD k []) (R.getD k []).length
def txtM (R : List (List Int)) : ByteArray := if vldM R = true then strOfNums (txtK R R.length) else ⟨#[]⟩
theorem digK_len (xs : List Int) (q : Nat) : (digK xs q).length = q := by
  induction q with
  | zero => rfl
  | succ q ih => simp [digK, ih]
theorem txtK_len {R : List (List Int)} {k : Nat} (h : RowsOk R k) : (txtK R k).length ≤ 7 * k := by
  induction k with
  | zero => simp [txtK]
  | succ k ih =>
    have h1 := ih (fun r hr => h r (by omega))
    have h2 := (h k (by omega)).1
    rw [txtK, List.length_append, List.length_append, digK_len]
    have h3 : (if 0 < k then [47] else [] : List Int).length ≤ 1 := by split <;> simp
    omega
theorem strOfNums_app (a b : List Int) : strOfNums a ++ strOfNums b = strOfNums (a ++ b) := by
  apply ByteArray.ext
  apply Array.toList_inj.1
  simp [strOfNums]
theorem slash_str : (⟨#[47]⟩ : ByteArray) = strOfNums [47] := rfl
theorem none_str : (⟨#[]⟩ : ByteArray) = strOfNums [] := rfl

set_option maxHeartbeats 1000000 in
theorem dec_any (x : Int) (h0 : 0 ≤ x) (h9 : x ≤ 9) (w : World) :
    Calls Try.prog 63 #[.int .i64 x] w fun e w' => e = .returned (.string (strOfNums [48 + x])) ∧ Below w.heap.size w w' := by
  have t1 : decide (x < 10) = true := decide_eq_true (by omega)
  have t2 : Int.tmod x 10 = x := Int.tmod_eq_of_lt h0 (by omega)
  have hconv := run_convert_bytes_arg (P := Try.prog) (w.alloc (.cells #[.int .u8 (48 + x)] 5)) 79 5 Try.underlying79 Try.underlying5 w.heap.size 0 1 1 [48 + x] rfl (fun i hi => by
    obtain rfl : i = 0 := by omega
    exact cell_of_row _ w.heap.size 0 _ 5 (0, 0) (heap_alloc_new w _)) 9 Try.underlying9
  go_enter Try.func63, Try.ntmps63
  go_wp2_with fail
  go_ret
  exact ⟨rfl, (Below.refl _ _).alloc (Nat.le_refl _) _⟩
end Go.Proofs.Ytadhoodddedjjab
