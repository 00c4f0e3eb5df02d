/-
  Lists of boxes as arguments of laws: what the laws' own helpers tell.
-/
import Derived.Test.YtgdekplkadnmpaaTripTo
namespace Go.Proofs.Ytgdekplkadnmpaa
open Go Go.RowKit
set_option linter.unusedVariables false

abbrev FitsB (ps : List (Int × Int × Int)) : Prop := All8 ps
theorem IsRowB.len_ok {w : World} {a : Option Addr} {len cap : Nat} {ps : List (Int × Int × Int)} (h : IsRowB w a len cap ps) : len ≤ 9223372036854775807 := by
  rcases h with ⟨_, rfl, _, _⟩ | ⟨x, _, h1, h2, _⟩
  · omega
  · unfold maxLen at h2; omega
theorem szBoxS_fit (a : Option Addr) (len cap : Nat) (l : Int) (h0 : 0 ≤ l - len) (h1 : l ≤ 1048576) (w : World) :
    Calls Try.prog 4 #[.slice a len cap, .int .i64 l] w fun e w' => e = .returned (.int .i64 (l - len)) ∧ w = w' := by
  have t1 : decide (l - (len : Int) < 0) = false := by simp; omega
  go_enter Try.func4, Try.ntmps4
  go_wp2
  go_ret
  exact ⟨rfl, rfl⟩
theorem szBoxS_big (a : Option Addr) (len cap : Nat) (l : Int) (hl : 0 ≤ l) (h0 : l - len < 0) (h1 : l ≤ 1048576) (hb : len ≤ 9223372036854775807) (w : World) :
    Calls Try.prog 4 #[.slice a len cap, .int .i64 l] w fun e w' => e = .returned (.int .i64 (-1)) ∧ w = w' := by
  have t1 : decide (l - (len : Int) < 0) = true := by simp; omega
  go_enter Try.func4, Try.ntmps4
  go_wp2
  go_ret
  exact ⟨rfl, rfl⟩
theorem eqBoxS_eq (v u : Value) (xs : List (Int × Int × Int)) (w : World) (hv : ReadsB w v xs) (hu : ReadsB w u xs) (hx : xs.length ≤ 1048576) :
    Calls Try.prog 9 #[v, u] w fun e w' => e = .returned (.bool true) ∧ Below w.heap.size w w' := eqBoxS_any v u xs w hv hu hx
end Go.Proofs.Ytgdekplkadnmpaa
