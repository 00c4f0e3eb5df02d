/-
  codeIn: the code of the refusal that is in an error, and 0 of none.
-/
import Derived.Test.YtgimpmdiilmkoaaDoorAt
namespace Go.Proofs.YtgimpmdiilmkoaaDoor
open Go Go.RowKit Go.Extern.Stop Go.Stop Go.Extern
set_option linter.unusedVariables false

def errV (c : Int) : Value := if c = 1 then .iface 128 (.agg #[]) else if c = 2 then .iface 90 (.agg #[]) else if c = 3 then .iface 118 (.agg #[]) else .nilIface
theorem errV_0 : errV 0 = .nilIface := by simp [errV]
theorem errV_1 : errV 1 = .iface 128 (.agg #[]) := by simp [errV]
theorem errV_2 : errV 2 = .iface 90 (.agg #[]) := by simp [errV]
theorem errV_3 : errV 3 = .iface 118 (.agg #[]) := by simp [errV]
set_option maxHeartbeats 1000000 in
theorem code_nil (w : World) : Calls Tryd.prog 57 #[.nilIface] w fun e w' => e = .returned (.int .i64 0) ∧ Below w.heap.size w w' := by
  go_enter Tryd.func57, Tryd.ntmps57
  go_wp2_with (go_at_call 92; refine (as_nil _ _).mono ?_; rintro e w2 ⟨rfl, hw2⟩; subst hw2)
  go_ret
  exact ⟨rfl, by repeat (first | exact Below.refl _ _ | refine Below.alloc ?_ (by first | (simp; done) | (simp; omega) | omega) _)⟩
set_option maxHeartbeats 2000000 in
theorem code_A (w : World) : Calls Tryd.prog 57 #[.iface 128 (.agg #[])] w fun e w' => e = .returned (.int .i64 1) ∧ Below w.heap.size w w' := by
  have hA := as1_A ⟨w.heap.size, 0, none⟩ .nilIface (w.alloc (.cells #[.nilIface] 132)) (by simp) (by simp)
  have mR := as_mRefA
  go_enter Tryd.func57, Tryd.ntmps57
  go_wp2_with (first | (go_at_call 92; refine hA.mono ?_; rintro e w2 ⟨rfl, hc, hs, hb⟩) | (go_at_call 177; refine (refusedA _).mono ?_; rintro e w3 ⟨rfl, b3⟩))
  go_ret
  have h2 := hb w.heap.size (Nat.le_refl _)
  have h1 : Below w.heap.size w (w.alloc (.cells #[.nilIface] 132)) := Below.alloc (Below.refl _ _) (Nat.le_refl _) _
  have h12 := h1.trans h2
  exact ⟨rfl, h12.trans (b3.mono h12.size)⟩
set_option maxHeartbeats 2000000 in
theorem code_B (w : World) : Calls Tryd.prog 57 #[.iface 90 (.agg #[])] w fun e w' => e = .returned (.int .i64 2) ∧ Below w.heap.size w w' := by
  have hA := as1_B ⟨w.heap.size, 0, none⟩ .nilIface (w.alloc (.cells #[.nilIface] 132)) (by simp) (by simp)
  have mR := as_mRefB
  go_enter Tryd.func57, Tryd.ntmps57
  go_wp2_with (first | (go_at_call 92; refine hA.mono ?_; rintro e w2 ⟨rfl, hc, hs, hb⟩) | (go_at_call 173; refine (refusedB _).mono ?_; rintro e w3 ⟨rfl, b3⟩))
  go_ret
  have h2 := hb w.heap.size (Nat.le_refl _)
  have h1 : Below w.heap.size w (w.alloc (.cells #[.nilIface] 132)) := Below.alloc (Below.refl _ _) (Nat.le_refl _) _
  have h12 := h1.trans h2
  exact ⟨rfl, h12.trans (b3.mono h12.size)⟩
set_option maxHeartbeats 2000000 in
theorem code_C (w : World) : Calls Tryd.prog 57 #[.iface 118 (.agg #[])] w fun e w' => e = .returned (.int .i64 3) ∧ Below w.heap.size w w' := by
  have hA := as1_C ⟨w.heap.size, 0, none⟩ .nilIface (w.alloc (.cells #[.nilIface] 132)) (by simp) (by simp)
  have mR := as_mRefC
  go_enter Tryd.func57, Tryd.ntmps57
  go_wp2_with (first | (go_at_call 92; refine hA.mono ?_; rintro e w2 ⟨rfl, hc, hs, hb⟩) | (go_at_call 175; refine (refusedC _).mono ?_; rintro e w3 ⟨rfl, b3⟩))
  go_ret
  have h2 := hb w.heap.size (Nat.le_refl _)
  have h1 : Below w.heap.size w (w.alloc (.cells #[.nilIface] 132)) := Below.alloc (Below.refl _ _) (Nat.le_refl _) _
  have h12 := h1.trans h2
  exact ⟨rfl, h12.trans (b3.mono h12.size)⟩
theorem code_any (c : Int) (hc : c = 0 ∨ c = 1 ∨ c = 2 ∨ c = 3) (w : World) : Calls Tryd.prog 57 #[errV c] w fun e w' => e = .returned (.int .i64 c) ∧ Below w.heap.size w w' := by
  rcases hc with rfl | rfl | rfl | rfl
  · rw [errV_0]; exact code_nil w
  · rw [errV_1]; exact code_A w
  · rw [errV_2]; exact code_B w
  · rw [errV_3]; exact code_C w
end Go.Proofs.YtgimpmdiilmkoaaDoor