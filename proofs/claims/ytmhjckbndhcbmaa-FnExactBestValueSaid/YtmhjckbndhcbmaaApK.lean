/-
  An append of one number to a row of the call's own: rows that read as told stay as they were.
-/
import Derived.Test.YtmhjckbndhcbmaaToJ
import Derived.Test.YtmhjckbndhcbmaaRelI
import Derived.Test.YtmhjckbndhcbmaaBlk
import Derived.OwnWalkIn
namespace Go.Proofs.Ytmhjckbndhcbmaa
open Go Go.RowKit
set_option linter.unusedVariables false

/-- What an operation keeps: what lay before, and rows that read so. -/
def KpI (base : Nat) (L : List (List Int)) (W W' : World) : Prop := Below base W W' ∧ ∀ v zs, zs ∈ L → OwnI base W v zs → OwnI base W' v zs
theorem kpI_below {base : Nat} {L : List (List Int)} {W W' : World} (h : Below W.heap.size W W') (hb : base ≤ W.heap.size) : KpI base L W W' := ⟨h.mono hb, fun v zs _ ho => ho.below h⟩
theorem ownI_one {base : Nat} {W : World} (y : Int) (hb : base ≤ W.heap.size) : OwnI base (W.alloc (.cells #[.int .i64 y] 2)) (.slice (some ⟨W.heap.size, 0, none⟩) 1 1) [y] :=
  ⟨rfl, .inr ⟨W.heap.size, 1, #[.int .i64 y], rfl, hb, heap_alloc_new W _, Nat.le_refl _, by unfold maxLen; omega, rfl, rfl⟩⟩
theorem ownI_some {base : Nat} {W : World} {v : Value} {xs : List Int} (h : OwnI base W v xs) (h1 : 1 ≤ xs.length) : ∃ g cap, v = .slice (some ⟨g, 0, none⟩) xs.length cap ∧ base ≤ g ∧ Cells W g xs := by
  rcases h.2 with ⟨_, h0⟩ | ⟨g, cap, cur, rfl, hb, hg, q1, q2, q3, q4⟩
  · omega
  · refine ⟨g, cap, rfl, hb, fun i hi => ?_⟩
    rw [World.ownsRow.cellAt h i (by omega)]
    simp [List.getD, hi]
theorem set_two (l : List Value) (n : Nat) (x : Value) (h : n < l.length) : l.take n ++ [x] ++ l.drop (n + 1) = l.set n x := by
  rw [List.set_eq_take_append_cons_drop, if_pos h, List.append_assoc]; rfl

theorem run_append_keep (base : Nat) (v u : Value) (xs : List Int) (x : Int) (W : World) (ty : TypeId) (hv : OwnI base W v xs) (hu : OwnI base W u [x]) (h1 : 1 ≤ xs.length) (h2 : xs.length ≤ 100000) (hb : base ≤ W.heap.size) :
    ∃ v' W', (Builtin.append_ #[22, 22] ty #[v, u]).run Try.prog W = .ok v' W' ∧ OwnI base W' v' (xs ++ [x]) ∧ Below base W W' ∧ ∀ v2 zs, zs.set xs.length x = zs → OwnI base W v2 zs → OwnI base W' v2 zs := by
  obtain ⟨i0, hi, hz0, hz1, hz2⟩ := info_parts info_i64
  obtain ⟨B, c, rfl, hB, hcB⟩ := ownI_some hu (by simp)
  have hnews : ∀ j w, ([Value.int .i64 x] : List Value)[j]? = some w → W.cell? ((⟨B, 0, none⟩ : Addr).add j) = some w := by
    intro j w hj
    rcases j with _ | j
    · simp at hj; subst hj
      have := hcB 0 (by simp)
      simpa [Addr.add] using this
    · simp at hj
  have hvo := hv
  rcases hv.2 with ⟨_, h0⟩ | ⟨g, cap, cur, rfl, hbg, hg, hnc, hcm, hcs, htake⟩
  · omega
  by_cases hroom : xs.length + 1 ≤ cap
  · have hcur : xs.length < cur.toList.length := by
      have h := Array.length_toList (xs := cur)
      omega
    have hr := run_append_room (P := Try.prog) W 22 ty 2 i0 Try.underlying22 hi g xs.length cap cur hg ⟨B, 0, none⟩ 1 c [.int .i64 x] (by rw [hz1]; rfl) hnews (by intro w hw; simp at hw; subst hw; rfl) hroom (by rw [hz1, hcs]; show xs.length * 1 + 1 ≤ cap * 1; omega)
    rw [hz1] at hr
    simp only [Nat.mul_one, List.length_cons, List.length_nil, Nat.zero_add] at hr
    rw [set_two _ _ _ hcur] at hr
    have hgr : W.grownBy (W.setRow g (cur.toList.set xs.length (.int .i64 x)).toArray) (some g) := ⟨rfl, rfl, rfl, by simp [World.setRow], fun k _ hk => setRow_other W g k _ (fun e => hk (by simp [e]))⟩
    have hnew := setRow_heap W g cur (cur.toList.set xs.length (.int .i64 x)).toArray 2 (0, 0) hg
    have hkeep : ∀ v2 zs, zs.set xs.length x = zs → OwnI base W v2 zs → OwnI base (W.setRow g (cur.toList.set xs.length (.int .i64 x)).toArray) v2 zs := by
      intro v2 zs hzs ho
      rcases ho.2 with h | ⟨g2, cap2, cur2, rfl, hb2, hg2, q1, q2, q3, q4⟩
      · exact ⟨ho.1, .inl h⟩
      · by_cases e : g2 = g
        · subst e
          rw [hg] at hg2
          injection hg2 with hg2
          injection hg2 with hg2
          subst hg2
          refine ⟨ho.1, .inr ⟨g2, cap2, _, rfl, hb2, hnew, q1, q2, by simpa using q3, ?_⟩⟩
          rw [List.toList_toArray, List.take_set, q4, ← List.map_set, hzs]
        · exact ⟨ho.1, .inr ⟨g2, cap2, cur2, rfl, hb2, by rw [setRow_other W g g2 _ e]; exact hg2, q1, q2, q3, q4⟩⟩
    refine ⟨_, _, hr, ?_, (Below.refl base W).grown hgr hb (fun k e => by cases e; exact hbg), hkeep⟩
    refine ⟨by simp, .inr ⟨g, cap, _, by simp, hbg, hnew, by simpa using hroom, hcm, by simpa using hcs, ?_⟩⟩
    rw [List.toList_toArray, List.take_set]
    have e1 : cur.toList.take ((xs ++ [x]).length * 1) = xs.map (Value.int .i64) ++ [cur.toList[xs.length]] := by
      rw [show (xs ++ [x]).length * 1 = xs.length + 1 by simp, List.take_add_one, List.getElem?_eq_getElem hcur]
      have h3 := htake
      rw [Nat.mul_one] at h3
      rw [h3]; rfl
    rw [e1, List.map_append, List.set_append_right _ _ (by simp)]
    simp
  · have holds : ∀ j w, (xs.map (Value.int .i64))[j]? = some w → W.cell? ((⟨g, 0, none⟩ : Addr).add j) = some w := hvo.cells (g := g) rfl
    have hr := run_append_grow (P := Try.prog) (w := W) 22 ty 2 i0 (.int .i64 0) Try.underlying22 hi hz0 ⟨g, 0, none⟩ xs.length cap (xs.map (Value.int .i64)) (by simp [hz1]) holds ⟨B, 0, none⟩ 1 c [.int .i64 x] (by rw [hz1]; rfl) hnews (by omega) (by omega) (growslice_fits (by omega) (by rw [hz2]; omega))
    obtain ⟨v', W', hr2, ho2, hg2, _⟩ := run_append_own (P := Try.prog) W base 22 ty 2 i0 (.int .i64 0) 1 8 Try.underlying22 hi hz0 hz1 hz2 rfl (by decide) _ xs.length (xs.map (Value.int .i64)) hvo ⟨B, 0, none⟩ 1 c [.int .i64 x] rfl hnews (by intro w hw; simp at hw; subst hw; rfl) (by unfold maxLen; omega) (by omega) hb
    have e := hr.symm.trans hr2
    injection e with e1 e2
    subst e1
    refine ⟨_, _, hr2, ?_, (Below.refl base W).grown hg2 hb (fun k e => by simp [Value.ownBlock] at e; omega), fun v2 zs _ ho => ?_⟩
    · unfold OwnI; rw [List.map_append, List.length_append]; exact ho2
    · rw [← e2]
      exact ho.below ((Below.refl _ _).drew.alloc (Nat.le_refl _) _)

theorem wpIn_append_keep {F : Fence} {n : Nat} {o : Oper} {a : Act} {W : World} {K : Act → World → Prop} {Q : Exit → Act → World → Prop} (s y : Operand)
    (ho : o.op = .call { callee := .builtin .append, args := #[s, y], argTypes := #[22, 22] }) (base : Nat) (v u : Value) (xs : List Int) (x : Int) (hes : a.eval s = v) (hex : a.eval y = u)
    (hv : OwnI base W v xs) (hu : OwnI base W u [x]) (h1 : 1 ≤ xs.length) (h2 : xs.length ≤ 100000) (hb : base ≤ W.heap.size)
    (h : ∀ v' W', OwnI base W' v' (xs ++ [x]) → Below base W W' → (∀ v2 zs, zs.set xs.length x = zs → OwnI base W v2 zs → OwnI base W' v2 zs) → K (a.put o.dst v') W') : o.wpIn F n Try.prog a W K Q := by
  obtain ⟨v', W', hrun, r1, r2, r3⟩ := run_append_keep base v u xs x W o.type hv hu h1 h2 hb
  unfold Oper.wpIn
  refine ⟨?_, ?_⟩
  · simp [Oper.about, ho, resolve, Target.leads, Sem.run_pure]
  · rw [Oper.semAt_plain F _ _ (by rw [ho]; intro c hc'; cases hc')]
    simp [execOp, ho, resolve, invoke, builtin, hes, hex, hrun, Result.andThen]
    exact h _ _ r1 r2 r3
end Go.Proofs.Ytmhjckbndhcbmaa
