/-
  slices.Grow at nil, and slices.Concat of two views, at scans.
-/
import Derived.Test.YtamnojhkfknnoaaRScan
import Derived.Test.YtamnojhkfknnoaaBlk
import Derived.Laws.AppendOwnNone
namespace Go.Proofs.Ytamnojhkfknnoaa
open Go Go.RowKit
set_option linter.unusedVariables false

theorem run_append_zeros {P : Program} {w : World} (t k ty e : TypeId) (i : TypeInfo) (z : Value) (n : Nat) (ht : P.underlying t = some (.slice e)) (hk : P.underlying k = some (.int .i64)) (hi : P.info? e = some i) (hz : i.zero = some z) (hs : 0 < i.size)
    (h0 : 0 < n) (h63 : n ≤ 100000) (hb : i.bytes ≤ 1000) :
    (Builtin.append_ #[t, k] ty #[.slice none 0 0, .int .i64 n]).run P w =
      .ok (.slice (some ⟨w.heap.size, 0, none⟩) n (grownCap w n 0 e)) (w.drew.alloc (.cells (Builtin.zeroCells z.cells n ++ Builtin.zeroCells z.cells (grownCap w n 0 e - n)) e)) := by
  have hn : n ≠ 0 := by omega
  have hns : n * i.size ≠ 0 := Nat.mul_ne_zero hn (by omega)
  have hb2 : n * i.bytes ≤ 100000000 := Nat.mul_le_mul h63 hb
  have hw : IntKind.i64.wrap (n : Int) = (n : Int) := IntWalk.i64_in _ (by omega)
  have h48 : ¬ (281474976710656 < Builtin.nextslicecap n 0 * i.bytes) := by rw [nextslicecap_zero h0]; omega
  have h48' : ¬ ((281474976710656 : Int) < (n : Int) * (i.bytes : Int)) := by
    have : (n : Int) * (i.bytes : Int) = ((n * i.bytes : Nat) : Int) := by simp
    rw [this]; omega
  have hneg : ¬ ((n : Int) < 0) := by omega
  have h63' : ¬ (9223372036854775807 < (n : Int)) := by omega
  simp [Builtin.append_, run_underlying ht, run_underlying hk, sizeOf, typeInfo, zeroValue, hi, hz, Builtin.firstCells, hn, hns, hw, h48, h48', hneg, h63', Question.forced, newRow, grownCap, asInt, asIntOf]

theorem wpList_append_zeros {P : Program} {ops : Array Oper} {rest : List Oper} {o : Oper} {a : Act} {w : World} {Q : Exit → Act → World → Prop} (hgd : o.guard = none) (s x : Operand) (t k : TypeId)
    (ho : o.op = .call { callee := .builtin .append, args := #[s, x], argTypes := #[t, k] })
    (e : TypeId) (i : TypeInfo) (z : Value) (n : Nat) (ht : P.underlying t = some (.slice e)) (hk : P.underlying k = some (.int .i64)) (hi : P.info? e = some i) (hz : i.zero = some z) (hs : 0 < i.size)
    (h0 : 0 < n) (h63 : n ≤ 100000) (hb : i.bytes ≤ 1000) (hes : a.eval s = .slice none 0 0) (hex : a.eval x = .int .i64 n)
    (h : wpList P ops Q rest (a.put o.dst (.slice (some ⟨w.heap.size, 0, none⟩) n (grownCap w n 0 e))) (w.drew.alloc (.cells (Builtin.zeroCells z.cells n ++ Builtin.zeroCells z.cells (grownCap w n 0 e - n)) e))) : wpList P ops Q (o :: rest) a w := by
  refine wpList_plain hgd fun K hK => ?_
  have hr := run_append_zeros (P := P) (w := w) t k o.type e i z n ht hk hi hz hs h0 h63 hb
  unfold Oper.wp execOp
  simp only [ho, resolve, invoke, builtin, Sem.run_bind, Sem.run_pure, Result.andThen_ok, List.map_toArray, List.map_cons, List.map_nil, hes, hex, hr]
  exact hK _ _ h

theorem infoC_Sc : (Try.prog.info? 49).map (fun i => (i.zero, i.size, i.bytes)) = some (some (.agg #[.int .i8 0, .int .i16 0]), 2, 4) := by kernel_rfl

/-- A slice, wherever it points, whose elements can be read. -/
def ViewSc (w : World) (u : Value) (xs : List (Int × Int)) : Prop := ∃ (ad : Addr) (c : Nat), u = .slice (some ad) xs.length c ∧ ∀ j v, (flatSc xs)[j]? = some v → w.cell? (ad.add j) = some v
theorem ViewSc.below {w w' : World} {u : Value} {xs : List (Int × Int)} (h : ViewSc w u xs) (hb : Below w.heap.size w w') : ViewSc w' u xs := by
  obtain ⟨ad, c, rfl, hc⟩ := h
  exact ⟨ad, c, rfl, fun j v hj => (hb.cell (World.block_lt_of_cell? w _ (hc j v hj))).trans (hc j v hj)⟩
theorem flatV_ones (ps : List (Int × Int)) : ∀ u ∈ flatSc ps, u.oneCell' = true := by
  intro u hu
  obtain ⟨p, _, hm⟩ := List.mem_flatMap.1 (show u ∈ ps.flatMap encSc from hu)
  simp [encSc] at hm
  rcases hm with rfl | rfl <;> rfl
/-- An append of a view to a row of the call's own. -/
theorem wpList_append_view {ops : Array Oper} {rest : List Oper} {o : Oper} {a : Act} {w : World} {Q : Exit → Act → World → Prop} (hgd : o.guard = none) (s x : Operand)
    (ho : o.op = .call { callee := .builtin .append, args := #[s, x], argTypes := #[37, 37] }) (B : Nat) (v u : Value) (zs ys : List (Int × Int)) (hes : a.eval s = v) (hex : a.eval x = u)
    (hown : OwnSc 49 B w v zs) (hview : ViewSc w u ys) (hz : zs.length ≤ 100000) (hy : ys.length ≤ 100000) (hB : B ≤ w.heap.size)
    (h : ∀ v' w', OwnSc 49 B w' v' (zs ++ ys) → w.grownBy w' v.ownBlock → wpList Try.prog ops Q rest (a.put o.dst v') w') : wpList Try.prog ops Q (o :: rest) a w := by
  obtain ⟨i0, hi, hz0, hz1, hz2⟩ := info_parts infoC_Sc
  obtain ⟨ad, c, rfl, hc⟩ := hview
  exact wpList_append_own w hgd _ _ 37 ho B 49 i0 (.agg #[.int .i8 0, .int .i16 0]) 2 4 Try.underlying37 hi hz0 hz1 hz2 rfl (by decide) v zs.length (flatSc zs) hes hown ad ys.length c (flatSc ys) hex (flatSc_length ys) hc (flatV_ones ys) (by unfold maxLen; omega) (by omega) hB (fun v' w' h1 h2 _ => h v' w' (by unfold OwnSc; rw [List.length_append, flatSc_append]; exact h1) h2)

end Go.Proofs.Ytamnojhkfknnoaa
