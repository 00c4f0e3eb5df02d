/-
  An argument that is a slice of slices of int64, opened.
-/
import Derived.Test.YtadhoodddedjjabMatI
import Derived.Deep.Matrix
import Derived.OpenShut
import Derived.ChangeOld
namespace Go.Proofs.Ytadhoodddedjjab
open Go Go.RowKit Go.ChangeShapes Go.WideShapes
set_option linter.unusedVariables false

theorem openM {H : Type} {enc : TypeId × Value → H} {w : World} {base n : Nat} {held : Bool} {a : Option Addr} {len cap : Nat} {y : DataW H × List MemPlace}
    (h : DataW.trod enc Try.prog w base (fun _ => true) held n 22 [.slice a len cap] = some y) : ∃ R, IsRows w a len cap R := by
  rcases Go.Deep.open_int_rows Try.underlying22 Try.underlying52 Try.underlying2 (by kernel_rfl) (by kernel_rfl) h with ⟨hcs, _⟩ | ⟨x, m, c2, A, L, C, Z, hcs, _, hl, hm, _, hrow⟩
  · simp only [List.cons.injEq, Value.slice.injEq, and_true] at hcs
    obtain ⟨rfl, rfl, rfl⟩ := hcs
    exact ⟨[], .inl ⟨rfl, rfl, rfl, rfl⟩⟩
  · simp only [List.cons.injEq, Value.slice.injEq, and_true] at hcs
    obtain ⟨rfl, rfl, rfl⟩ := hcs
    refine ⟨(List.range len).map fun r => (Z r).take (L r), .inr ⟨x, rfl, hl, hm, by simp, fun j hj => ⟨A j, L j, C j, Z j, (hrow j (by omega)).1, ?_, by simp [List.getD, hj]⟩⟩⟩
    obtain ⟨_, h1, h2, h3, h4, h5, h6⟩ := hrow j (by omega)
    cases e : A j with
    | none =>
      have h0 := h5 e
      refine .inl ⟨rfl, by omega, h0, List.eq_nil_of_length_eq_zero (by omega)⟩
    | some a' =>
      obtain ⟨_, h7⟩ := h6 a' e
      exact .inr ⟨a', rfl, h1, h2, h3, fun i hi => h7 i (by omega), h4⟩
end Go.Proofs.Ytadhoodddedjjab
