/-
  An append of a view to an empty row that has no room: what lay there stays.
-/
import Derived.Test.YtlempmahkeilpaaFcP
import Derived.Test.YtlempmahkeilpaaRel
namespace Go.Proofs.Ytlempmahkeilpaa
open Go Go.RowKit
set_option linter.unusedVariables false

theorem run_append_none {w : World} (ty : TypeId) (B : Nat) (ad : Addr) (c : Nat) : (Builtin.append_ #[49, 49] ty #[.slice (some ⟨B, 0, none⟩) 0 0, .slice (some ad) 0 c]).run Try.prog w = .ok (.slice (some ⟨B, 0, none⟩) 0 0) w := by
  obtain ⟨i0, hi, hz0, hz1, hz2⟩ := info_parts infoC_Sc
  have hu := Try.underlying49
  have hf := run_firstCells_some (P := Try.prog) w 2 0 ad 0 c [] (by simp) (by simp)
  simp [Builtin.append_, run_underlying hu, sizeOf, typeInfo, hi, hz1, Builtin.lenOf, hf, storeCells]

/-- Behind it what lay there is as it was, and the answer is a row of the call's own. -/
theorem wp_append_empty {o : Oper} {a : Act} {W : World} {K : Act → World → Prop} {Q : Exit → Act → World → Prop} (s x : Operand)
    (ho : o.op = .call { callee := .builtin .append, args := #[s, x], argTypes := #[49, 49] }) (base B : Nat) (u : Value) (ys : List (Int × Int)) (hes : a.eval s = .slice (some ⟨B, 0, none⟩) 0 0) (hex : a.eval x = u)
    (hview : ViewSc W u ys) (hy : ys.length ≤ 1000) (hB : base ≤ B) (hblk : BlkA W B 37 #[])
    (h : ∀ v' W', OwnSc 37 base W' v' ys → Below W.heap.size W W' → K (a.put o.dst v') W') : o.wp Try.prog a W K Q := by
  obtain ⟨i0, hi, hz0, hz1, hz2⟩ := info_parts infoC_Sc
  obtain ⟨ad, c, rfl, hc⟩ := hview
  by_cases h0 : ys = []
  · subst h0
    have hr := run_append_none (w := W) o.type B ad c
    unfold Oper.wp execOp
    simp only [ho, resolve, invoke, builtin, Sem.run_bind, Sem.run_pure, Result.andThen_ok, List.map_toArray, List.map_cons, List.map_nil, hes, hex, List.length_nil, hr]
    exact h _ _ ⟨by simp [flatSc, flatE], .inr ⟨B, 0, #[], rfl, hB, hblk, Nat.le_refl _, Nat.zero_le _, rfl, by simp [flatSc, flatE]⟩⟩ (Below.refl _ _)
  · have hp : 0 < ys.length := List.length_pos_iff.2 h0
    have hfit : Builtin.nextslicecap (0 + ys.length) 0 * i0.bytes ≤ 281474976710656 := by rw [Nat.zero_add, nextslicecap_zero hp, hz2]; omega
    have hr := run_append_grow (P := Try.prog) (w := W) 49 o.type 37 i0 (.agg #[.int .i8 0, .int .i16 0]) Try.underlying49 hi hz0 ⟨B, 0, none⟩ 0 0 [] (by simp) (by simp) ad ys.length c (flatSc ys) (by rw [hz1]; exact flatSc_length ys) hc (by omega) (by omega) hfit
    unfold Oper.wp execOp
    simp only [ho, resolve, invoke, builtin, Sem.run_bind, Sem.run_pure, Result.andThen_ok, List.map_toArray, List.map_cons, List.map_nil, hes, hex, hr]
    have hcg := grownCap_ge W (0 + ys.length) 0 37
    have hcm := grownCap_le_maxLen W (0 + ys.length) 0 37 (by unfold maxLen; omega)
    obtain ⟨cp, hcp⟩ : ∃ cp, grownCap W (0 + ys.length) 0 37 = cp := ⟨_, rfl⟩
    rw [hcp] at hcg hcm ⊢
    rw [Nat.zero_add] at hcg ⊢
    have hBw : base ≤ W.heap.size := Nat.le_trans hB (Nat.le_of_lt (BlkA.lt hblk))
    refine h _ _ ⟨flatSc_length ys, .inr ⟨W.heap.size, cp, _, rfl, hBw, heap_alloc_new W.drew _, hcg, hcm, ?_, ?_⟩⟩ ((Below.refl _ _).drew.alloc (Nat.le_refl _) _)
    · have hz4 : (Value.agg #[Value.int .i8 0, .int .i16 0]).cells.size = 2 := rfl
      simp [Builtin.zeroCells, flatSc_length, hz4]; omega
    · simp [flatSc_length]
end Go.Proofs.Ytlempmahkeilpaa
