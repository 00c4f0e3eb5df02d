/-
  The model's l04Visit at any slice whose capacity is its length.
-/
import Derived.Test.YteecpijfikgjnaaVsS
namespace Go.Proofs.Yteecpijfikgjnaa
open Go Go.RowKit
set_option linter.unusedVariables false

set_option maxHeartbeats 600000 in
set_option maxRecDepth 100000 in
theorem svis_nil (u : Value) (a : Option Addr) (cap : Nat) (ns : List Int) (w : World) (hu : ReadsI w u ns) (hn : ns.length ≤ 1048576) (hns : ns.Pairwise (· < ·)) :
    Calls Try.prog 15 #[u, .slice a 0 cap] w fun e w' => e = .returned (.bool (visB ns [])) ∧ Below w.heap.size w w' := by
  obtain ⟨ua, ucap, rfl, hua⟩ := hu
  obtain ⟨m, hmn⟩ : ∃ m, ns.length = m := ⟨_, rfl⟩
  rw [hmn] at hn ⊢
  clear hua
  by_cases he : m = 0
  · have HR : Hid (visB ns [] = true) := Lib.hid (visB_true hns (visTo.zero _ _) (by rw [hmn, he]; rfl))
    subst he
    clear hns hmn
    go_enter Try.func15, Try.ntmps15
    go_wp2_with fail
    refine wp_loop_rounds 1 ?_
    rw [rounds_succ]
    go_wp2_with fail
    go_ret
    exact ⟨ret_bool HR.out.symm, Below.refl _ _⟩
  · have HR : Hid (visB ns [] = false) := Lib.hid (visB_len hns (by rw [hmn]; exact fun e => he e.symm))
    have te : ((0 : Int) == (m : Int)) = false := by simp; omega
    clear hns hmn
    go_enter Try.func15, Try.ntmps15
    go_wp2_with fail
    refine wp_loop_rounds 1 ?_
    rw [rounds_succ]
    go_wp2_with fail
    go_ret
    exact ⟨ret_bool HR.out.symm, Below.refl _ _⟩

theorem svis_any (u : Value) (a : Option Addr) (n : Nat) (ns xs : List Int) (w : World) (hu : ReadsI w u ns) (hn : ns.length ≤ 1048576) (hns : ns.Pairwise (· < ·)) (hv : ReadsI w (.slice a n n) xs) (hx : xs.length ≤ 1048576) :
    Calls Try.prog 15 #[u, .slice a n n] w fun e w' => e = .returned (.bool (visB ns xs)) ∧ Below w.heap.size w w' := by
  obtain ⟨a', cap', e, h⟩ := hv
  injection e with e1 e2 e3
  subst e1 e2 e3
  by_cases h0 : xs = []
  · subst h0
    exact svis_nil u a _ ns w hu hn hns
  · obtain ⟨b, rfl, hc⟩ := h h0
    exact svis_row u b xs.length xs.length ns xs rfl hx (Nat.le_refl _) hx w hu hn hns hc
end Go.Proofs.Yteecpijfikgjnaa
