/-
  codeIn: the code of the refusal that is in an error, and 0 of none (where notValid alone refuses).
-/
import Derived.Test.YtocogipejchneaaDoorAtA
namespace Go.Proofs.YtocogipejchneaaDoor
open Go Go.RowKit Go.Extern.Stop Go.Stop Go.Extern
set_option linter.unusedVariables false

set_option maxHeartbeats 1000000 in
theorem code_nil (w : World) : Calls Tryd.prog 17 #[.nilIface] w fun e w' => e = .returned (.int .i64 0) ∧ Below w.heap.size w w' := by
  go_enter Tryd.func17, Tryd.ntmps17
  go_wp2_with (go_at_call 24; refine (as_nil _ _).mono ?_; rintro e w2 ⟨rfl, hw2⟩; subst hw2)
  go_ret
  exact ⟨rfl, by repeat (first | exact Below.refl _ _ | refine Below.alloc ?_ (by first | (simp; done) | (simp; omega) | omega) _)⟩
set_option maxHeartbeats 2000000 in
theorem code_A (w : World) : Calls Tryd.prog 17 #[.iface 49 (.agg #[])] w fun e w' => e = .returned (.int .i64 1) ∧ Below w.heap.size w w' := by
  have hA := as1_A ⟨w.heap.size, 0, none⟩ .nilIface (w.alloc (.cells #[.nilIface] 43)) (by simp) (by simp)
  have mR := as_mRefA
  go_enter Tryd.func17, Tryd.ntmps17
  go_wp2_with (first | (go_at_call 24; refine hA.mono ?_; rintro e w2 ⟨rfl, hc, hs, hb⟩) | (go_at_call 81; refine (refusedA _).mono ?_; rintro e w3 ⟨rfl, b3⟩))
  go_ret
  have h2 := hb w.heap.size (Nat.le_refl _)
  have h1 : Below w.heap.size w (w.alloc (.cells #[.nilIface] 43)) := Below.alloc (Below.refl _ _) (Nat.le_refl _) _
  have h12 := h1.trans h2
  exact ⟨rfl, h12.trans (b3.mono h12.size)⟩
end Go.Proofs.YtocogipejchneaaDoor
