/-
  An array by value, read at an index that is a number of its own.
-/
import Derived.Laws.Rows
import Derived.Test.YtamnojhkfknnoaaBlock
namespace Go.Proofs.Ytamnojhkfknnoaa
open Go Go.RowKit
set_option linter.unusedVariables false

theorem run_index_arr {P : Program} (ty e : TypeId) (n : Nat) (cs : Array Value) (k : IntKind) (i : Nat) (v : Value) (w : World) (hu : P.underlying ty = some (.array n e)) (hi : i < n)
    (hv : cs[i]? = some v) (d : TypeDesc) (he : P.underlying e = some d) (hd : (match d with | .struct _ | .array _ _ => true | _ => false) = false) (hs : (P.info? e).map (·.size) = some 1) :
    (Instr.index ty (.agg cs) (.int k (i : Int))).run P w = .ok v w := by
  have h0 : 0 ≤ (i : Int) ∧ (i : Int) < (n : Int) := by omega
  have hagg : (isAgg e).run P w = .ok false w := by
    unfold isAgg
    rw [Sem.run_bind, run_underlying he w]
    cases d <;> simp_all
  cases hq : P.info? e with
  | none => simp [hq] at hs
  | some q =>
    have h1 : q.size = 1 := by simpa [hq] using hs
    simp [Instr.index, asIntOf, run_underlying hu, h0, show ¬ n ≤ i by omega, part, hagg, sizeOf, typeInfo, hq, h1, hv, Sem.run_bind]

theorem wpList_index_arr {P : Program} {ops : Array Oper} {rest : List Oper} {o : Oper} {a : Act} {w : World} {Q : Exit → Act → World → Prop} (hgd : o.guard = none) (ty e : TypeId) (x y : Operand) (ho : o.op = .index ty x y)
    (n : Nat) (cs : Array Value) (k : IntKind) (i : Nat) (v : Value) (hx : a.eval x = .agg cs) (hy : a.eval y = .int k (i : Int)) (hu : P.underlying ty = some (.array n e)) (hi : i < n)
    (hv : cs[i]? = some v) (d : TypeDesc) (he : P.underlying e = some d) (hd : (match d with | .struct _ | .array _ _ => true | _ => false) = false) (hs : (P.info? e).map (·.size) = some 1)
    (h : wpList P ops Q rest (a.put o.dst v) w) : wpList P ops Q (o :: rest) a w :=
  wpList_plain hgd fun K hK => by
    unfold Oper.wp execOp
    simp only [ho, hx, hy, Sem.run_bind, Sem.run_pure, Result.andThen_ok, run_index_arr ty e n cs k i v w hu hi hv d he hd hs]
    exact hK _ _ h
end Go.Proofs.Ytamnojhkfknnoaa
