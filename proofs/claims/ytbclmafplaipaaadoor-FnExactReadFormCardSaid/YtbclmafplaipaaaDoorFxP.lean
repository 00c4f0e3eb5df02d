/-
  The text of a form: plain.
-/
import Derived.Test.YtbclmafplaipaaaDoorCuP
import Derived.Test.YtbclmafplaipaaaDoorTs
namespace Go.Proofs.YtbclmafplaipaaaDoor
open Go Go.RowKit
set_option linter.unusedVariables false

/-- The line of a text that tells a line. -/
def lineT (l : Int × Int × Int × Int) : List UInt8 := dec l.1.toNat ++ [58] ++ dec l.2.1.toNat ++ [120] ++ dec l.2.2.1.toNat ++ [47] ++ dec l.2.2.2.toNat ++ [10]
def formK (ls : List (Int × Int × Int × Int)) : Nat → List UInt8
  | 0 => []
  | k + 1 => formK ls k ++ lineT (ls.getD k (0, 0, 0, 0))
def formT (cs ls : List (Int × Int × Int × Int)) : List UInt8 := if vldF cs ls = true then formK ls ls.length else []
theorem formT_ok {cs ls : List (Int × Int × Int × Int)} (h : vldF cs ls = true) : formT cs ls = formK ls ls.length := if_pos h
theorem formT_no {cs ls : List (Int × Int × Int × Int)} (h : vldF cs ls = false) : formT cs ls = [] := if_neg (by rw [h]; simp)
theorem lineT_len {n : Nat} {l : Int × Int × Int × Int} (h : okL n l) (hn : n ≤ 8) : (lineT l).length ≤ 3000000 := by
  unfold okL at h
  have h1 := dec_len l.1.toNat
  have h2 := dec_len l.2.1.toNat
  have h3 := dec_len l.2.2.1.toNat
  have h4 := dec_len l.2.2.2.toNat
  unfold lineT
  simp only [List.length_append, List.length_cons, List.length_nil]
  omega
theorem formK_len {n : Nat} {ls : List (Int × Int × Int × Int)} {k : Nat} (h : OkLTo n ls k) (hn : n ≤ 8) : (formK ls k).length ≤ 3000000 * k := by
  induction k with
  | zero => simp [formK]
  | succ k ih =>
    have h1 := ih (fun i hi => h i (by omega))
    have h2 := lineT_len (h k (by omega)) hn
    rw [formK, List.length_append]
    omega
theorem lineN_len {n0 n1 n2 n3 : Nat} (h0 : n0 ≤ 8) (h1 : n1 ≤ 1000) (h2 : n2 ≤ 1000000) (h3 : n3 ≤ 1000000) : (lineT ((n0 : Int), (n1 : Int), (n2 : Int), (n3 : Int))).length ≤ 3000000 := by
  have h1' := dec_len n0
  have h2' := dec_len n1
  have h3' := dec_len n2
  have h4' := dec_len n3
  unfold lineT
  simp only [List.length_append, List.length_cons, List.length_nil, Int.toNat_natCast]
  omega
end Go.Proofs.YtbclmafplaipaaaDoor
