/-
  The program's StepFor.
-/
import Derived.Test.YtnjhkmoinlikiaaDoorStep
namespace Go.Proofs.YtnjhkmoinlikiaaDoor
open Go Go.RowKit
set_option linter.unusedVariables false

theorem one_reads {W : World} {b : Nat} (hb : W.heap.size = b) (n : Int) (T : TypeId) : ReadsI (W.alloc (.cells #[.int .i64 n] T)) (.slice (some ⟨b, 0, none⟩) 1 1) [n] := by
  subst hb
  refine ⟨_, _, rfl, fun _ => ⟨_, rfl, fun i hi => ?_⟩⟩
  have e : i = 0 := by simp at hi; exact hi
  subst e
  rw [cell_of_row _ W.heap.size 0 _ T (0, 0) (heap_alloc_new W _)]
  simp [List.getD]
theorem errOf_0 (a0 a1 a2 : Addr) : errOf a0 a1 a2 0 = .nilIface := rfl
theorem errOf_1 (a0 a1 a2 : Addr) : errOf a0 a1 a2 1 = .iface 61 (.pointer (some a0)) := rfl
theorem errOf_2 (a0 a1 a2 : Addr) : errOf a0 a1 a2 2 = .iface 61 (.pointer (some a1)) := rfl
theorem errOf_3 (a0 a1 a2 : Addr) : errOf a0 a1 a2 3 = .iface 61 (.pointer (some a2)) := rfl
/-- The pointer of a code's error. -/
def ptrOf (a0 a1 a2 : Addr) (c : Int) : Addr := if c = 1 then a0 else if c = 2 then a1 else a2
theorem errOf_ptr {a0 a1 a2 : Addr} {c : Int} (h : c ≠ 0) : errOf a0 a1 a2 c = .iface 61 (.pointer (some (ptrOf a0 a1 a2 c))) := by
  unfold errOf ptrOf; rw [if_neg h]; split <;> (try rfl); split <;> rfl
end Go.Proofs.YtnjhkmoinlikiaaDoor
