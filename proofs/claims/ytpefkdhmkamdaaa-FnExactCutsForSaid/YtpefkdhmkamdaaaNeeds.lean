/-
  How much paper a turn needs, on both sides.
-/
import Derived.Test.YtpefkdhmkamdaaaAsc
import Derived.Test.YtpefkdhmkamdaaaFolds
namespace Go.Proofs.Ytpefkdhmkamdaaa
open Go Go.RowKit
set_option linter.unusedVariables false

theorem ret_need {a b a' b' : Int} (h : a = a') (g : b = b') : Ending.returned (.tuple #[.int .i64 a, .int .i64 b]) = .returned (.tuple #[.int .i64 a', .int .i64 b']) := by rw [h, g]

set_option maxHeartbeats 1000000 in
theorem iaround_any (t : Tri) (h : OkT t) (w : World) :
    Calls Try.prog 31 #[.agg #[.int .i8 t.1, .int .i8 t.2.1, .int .i8 t.2.2]] w fun e w' => e = .returned (.tuple #[.int .i64 (needW t), .int .i64 (needL t)]) ∧ Below w.heap.size w w' := by
  obtain ⟨a, b, c⟩ := t
  obtain ⟨a1, a2, b1, b2, c1, c2⟩ := h
  simp only at a1 a2 b1 b2 c1 c2
  have HW : Hid (needW (a, b, c) = 2 * (b + c) + 2 ∧ needL (a, b, c) = a + c) := Lib.hid ⟨rfl, rfl⟩
  go_enter Try.func31, Try.ntmps31
  go_wp2_with fail
  go_quiet (fail)
  go_wp2_with fail
  go_ret2
  exact ⟨ret_need HW.out.1.symm HW.out.2.symm, below_drewN ((Below.refl _ _).alloc (Nat.le_refl _) _) _⟩

set_option maxHeartbeats 1000000 in
theorem sneeds_any (t : Tri) (h : OkT t) (w : World) :
    Calls Try.prog 27 #[.agg #[.int .i8 t.1, .int .i8 t.2.1, .int .i8 t.2.2]] w fun e w' => e = .returned (.tuple #[.int .i64 (needW t), .int .i64 (needL t)]) ∧ Below w.heap.size w w' := by
  obtain ⟨a, b, c⟩ := t
  obtain ⟨a1, a2, b1, b2, c1, c2⟩ := h
  simp only at a1 a2 b1 b2 c1 c2
  have HW : Hid (needW (a, b, c) = 2 * (b + c) + 2 ∧ needL (a, b, c) = a + c) := Lib.hid ⟨rfl, rfl⟩
  go_enter Try.func27, Try.ntmps27
  go_wp2_with fail
  go_quiet (fail)
  go_wp2_with fail
  go_ret2
  exact ⟨ret_need HW.out.1.symm HW.out.2.symm, below_drewN ((Below.refl _ _).alloc (Nat.le_refl _) _) _⟩
end Go.Proofs.Ytpefkdhmkamdaaa
