/-
  Contracts of both VolumeOf and of both FitsInside.
-/
import Derived.Test.YtgdekplkadnmpaaSameB
import Derived.Deep.RegionWith
namespace Go.Proofs.Ytgdekplkadnmpaa
open Go Go.RowKit
set_option linter.unusedVariables false

def volRes (a b c : Int) : Int := if okB a b c = true then a * b * c else 0
def volCode (a b c : Int) : Int := if okB a b c = true then 0 else 1
theorem vol_ok {a b c : Int} (h : okB a b c = true) : volRes a b c = a * b * c ∧ volCode a b c = 0 := by unfold volRes volCode; rw [if_pos h, if_pos h]; exact ⟨rfl, rfl⟩
theorem vol_no {a b c : Int} (h : okB a b c = false) : volRes a b c = 0 ∧ volCode a b c = 1 := by
  unfold volRes volCode; rw [if_neg (by rw [h]; simp), if_neg (by rw [h]; simp)]; exact ⟨rfl, rfl⟩
theorem ret_two {a b a' b' : Int} (h : a' = a ∧ b' = b) : Ending.returned (.tuple #[.int .i64 a, .int .i64 b]) = .returned (.tuple #[.int .i64 a', .int .i64 b']) := by rw [h.1, h.2]
theorem mul_in {a b A B : Int} (h0 : 0 ≤ a) (h1 : a ≤ A) (h2 : 0 ≤ b) (h3 : b ≤ B) : 0 ≤ a * b ∧ a * b ≤ A * B :=
  ⟨Int.mul_nonneg h0 h2, Int.mul_le_mul h1 h3 h2 (by omega)⟩

end Go.Proofs.Ytgdekplkadnmpaa
