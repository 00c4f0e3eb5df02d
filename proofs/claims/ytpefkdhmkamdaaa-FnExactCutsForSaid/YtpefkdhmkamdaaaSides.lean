/-
  '==' and '!=' at the arrays of three sides.
-/
import Derived.Test.YtpefkdhmkamdaaaBase
import Derived.Test.YtpefkdhmkamdaaaProg
import Derived.ChangeKeysEq
import Derived.Laws.StructEq
import Derived.KernelRfl
namespace Go.Proofs.Ytpefkdhmkamdaaa
open Go Go.RowKit
set_option linter.unusedVariables false

theorem eq_sides (a b c x y z : Int) (w : World) :
    (Op.equalIn 10000 55 (.agg #[.int .i8 a, .int .i8 b, .int .i8 c]) (.agg #[.int .i8 x, .int .i8 y, .int .i8 z])).run Try.prog w = .ok (a == x && (b == y && c == z)) w := by
  have hu : Try.prog.underlying 55 = some (.array 3 22) := by kernel_rfl
  have hi : (Try.prog.info? 22).isSome = true := by kernel_rfl
  obtain ⟨i, hi⟩ := Option.isSome_iff_exists.1 hi
  have hc : Try.prog.cellsOf 22 = 1 := by kernel_rfl
  have hp : Try.prog.plainKey 22 = true := by kernel_rfl
  have hu8 : Try.prog.underlying 22 = some (.int .i8) := by kernel_rfl
  have q : ∀ (p r s : Int) (w : World), (part 22 #[.int .i8 p, .int .i8 r, .int .i8 s] (0 * 1)).run Try.prog w = .ok (.int .i8 p) w ∧ (part 22 #[.int .i8 p, .int .i8 r, .int .i8 s] (1 * 1)).run Try.prog w = .ok (.int .i8 r) w ∧ (part 22 #[.int .i8 p, .int .i8 r, .int .i8 s] (2 * 1)).run Try.prog w = .ok (.int .i8 s) w := fun p r s w =>
    ⟨run_part_plain _ hp rfl, run_part_plain _ hp rfl, run_part_plain _ hp rfl⟩
  have e8 : ∀ (p r : Int) (w : World), (Op.equalIn 9999 22 (.int .i8 p) (.int .i8 r)).run Try.prog w = .ok (p == r) w := fun p r w => run_equalIn_int w 9998 _ _ _ p r hu8
  rw [run_equalIn_array w 9999 _ _ hu hi, hc]
  simp only [show List.range 3 = [0, 1, 2] from rfl, Op.eqItems, Sem.run_bind, (q _ _ _ _).1, e8, Result.andThen_ok]
  have q1 := fun (p r s : Int) (w : World) => (q p r s w).2.1
  have q2 := fun (p r s : Int) (w : World) => (q p r s w).2.2
  simp only [Nat.mul_one] at q1 q2
  by_cases h1 : a = x <;> by_cases h2 : b = y <;> by_cases h3 : c = z <;> simp [q1, q2, e8, h1, h2, h3]
theorem guard_sides : Try.prog.eqGuardType Try.prog.depth 55 = false := by kernel_rfl
end Go.Proofs.Ytpefkdhmkamdaaa
