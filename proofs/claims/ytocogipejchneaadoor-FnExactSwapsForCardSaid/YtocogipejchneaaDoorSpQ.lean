/-
  Rings of those whose parcels are swapped (plain): the program's way to tell what is right.
-/
import Derived.Test.YtocogipejchneaaDoorSpP
import Derived.Test.YtocogipejchneaaDoorBgP
import Derived.Lib.SlicesCompact
namespace Go.Proofs.YtocogipejchneaaDoor
open Go Go.RowKit
set_option linter.unusedVariables false

theorem cmp_len (zs : List Int) : (Lib.compact zs).length ≤ zs.length := by
  unfold Lib.compact Lib.compactUpTo
  rw [List.length_map]
  exact Nat.le_trans (List.length_filter_le _ _) (by simp)
theorem get_bang (zs : List Int) (j : Nat) : zs.toArray[j]! = zs.getD j 0 := by
  simp [List.getD, getElem!_def]
  cases zs[j]? <;> rfl
theorem range_bang (zs : List Int) : (List.range zs.length).map (zs.toArray[·]!) = zs := by
  apply List.ext_getElem?
  intro i
  rw [List.getElem?_map]
  by_cases h : i < zs.length
  · rw [List.getElem?_range h, Option.map_some, get_bang, List.getElem?_eq_getElem h]
    simp [List.getD, h]
  · rw [List.getElem?_eq_none (by simp; omega), List.getElem?_eq_none (by omega)]
    rfl
theorem cmp_all {zs : List Int} (h : ∀ j, j < zs.length → Lib.keeps zs.toArray j = true) : Lib.compact zs = zs := by
  unfold Lib.compact Lib.compactUpTo
  rw [List.filter_eq_self.2 (fun a ha => h a (List.mem_range.1 ha))]
  exact range_bang zs
theorem cmp_kept {zs : List Int} (h : (Lib.compact zs).length = zs.length) : ∀ j, j < zs.length → Lib.keeps zs.toArray j = true := by
  unfold Lib.compact Lib.compactUpTo at h
  rw [List.length_map] at h
  have e := (List.filter_sublist (p := Lib.keeps zs.toArray) (l := List.range zs.length)).eq_of_length (by rw [h]; simp)
  intro j hj
  exact List.filter_eq_self.1 e j (List.mem_range.2 hj)
theorem keeps_ne {zs : List Int} {j : Nat} (h : Lib.keeps zs.toArray j = true) (hj : 0 < j) : zs.getD j 0 ≠ zs.getD (j - 1) 0 := by
  unfold Lib.keeps at h
  rcases of_decide_eq_true h with h | h
  · omega
  · rw [get_bang, get_bang] at h; exact h
theorem cmp_asc {zs : List Int} (hp : zs.Pairwise (· ≤ ·)) (h : (Lib.compact zs).length = zs.length) : Lib.compact zs = zs ∧ zs.Pairwise (· < ·) := by
  have hk := cmp_kept h
  refine ⟨cmp_all hk, ?_⟩
  rw [List.pairwise_iff_getElem] at hp ⊢
  intro i j hi hj hij
  have h1 := keeps_ne (hk j hj) (by omega)
  have e1 : zs.getD j 0 = zs[j] := by simp [List.getD, hj]
  have e2 : zs.getD (j - 1) 0 = zs[j - 1] := by simp [List.getD, show j - 1 < zs.length by omega]
  rw [e1, e2] at h1
  have h2 : zs[j - 1] ≤ zs[j] := hp (j - 1) j (by omega) hj (by omega)
  by_cases e : i = j - 1
  · subst e; omega
  · have h3 : zs[i] ≤ zs[j - 1] := hp i (j - 1) hi (by omega) (by omega)
    omega
theorem cmp_same {zs : List Int} (h : zs.Pairwise (· < ·)) : Lib.compact zs = zs := cmp_all (fun j hj => by
  unfold Lib.keeps
  rw [get_bang, get_bang]
  refine decide_eq_true ?_
  by_cases e : j = 0
  · exact .inl e
  · refine .inr ?_
    rw [List.pairwise_iff_getElem] at h
    have := h (j - 1) j (by omega) hj (by omega)
    simp [List.getD, hj, show j - 1 < zs.length by omega]
    omega)
theorem asc_nodup {zs : List Int} (hp : zs.Pairwise (· ≤ ·)) (hn : zs.Nodup) : zs.Pairwise (· < ·) := by
  rw [List.pairwise_iff_getElem] at hp ⊢
  intro i j hi hj hij
  have h1 := hp i j hi hj hij
  have h2 : zs[i] ≠ zs[j] := fun e => by have := (List.getElem_inj hn).1 e; omega
  omega
theorem not_take {W : List Int} (h : W.Nodup) {i : Nat} (hi : i < W.length) : W.getD i 0 ∉ W.take i := fun hm => by
  obtain ⟨j, hj, e⟩ := List.getElem_of_mem hm
  rw [List.length_take] at hj
  rw [List.getElem_take] at e
  have e2 : W.getD i 0 = W[i] := by simp [List.getD, hi]
  rw [e2] at e
  have := (List.getElem_inj h).1 e
  omega
/-- What the program asks. -/
theorem swB_prog {W G : List Int} : swB W G = true ↔ W.length ≤ 9 ∧ betwM W 0 100 = true ∧ (Lib.compact (sortI W)).length = W.length ∧ visB (Lib.compact (sortI W)) G = true := by
  have hsp := sortI_pair W
  have hsl := sortI_len W
  constructor
  · intro h
    obtain ⟨⟨h1, h2⟩, h3⟩ := swB_spec h
    obtain ⟨n1, n2, n3⟩ := sw_nodup h
    have hS : (sortI W).Pairwise (· < ·) := asc_nodup hsp ((sortI_perm W).nodup_iff.2 n1)
    have hc := cmp_same hS
    refine ⟨h2, betwM_true (fun i hi => (h3 i hi).1), by rw [hc, hsl], ?_⟩
    rw [hc]
    refine visB_true hS (fun i hi => ⟨(sortI_perm W).mem_iff.2 (h3 i (by omega)).2.2.2, (h3 i (by omega)).2.2.1⟩) (by rw [hsl]; omega)
  · rintro ⟨h1, h2, h3, h4⟩
    obtain ⟨hc, hS⟩ := cmp_asc hsp (by rw [h3, hsl])
    rw [hc] at h4
    obtain ⟨g1, g2⟩ := (visB_iff hS).1 h4
    have hn : W.Nodup := (sortI_perm W).nodup_iff.1 (nodup_asc hS)
    have hb := betwM_spec h2
    refine swB_true (by rw [hsl] at g2; omega) h1 (fun i hi => ⟨hb i hi, not_take hn hi, (g1 i (by rw [hsl] at g2; omega)).2, (sortI_perm W).mem_iff.1 (g1 i (by rw [hsl] at g2; omega)).1⟩)
theorem swB_no {W G : List Int} (h : ¬ (W.length ≤ 9 ∧ betwM W 0 100 = true ∧ (Lib.compact (sortI W)).length = W.length ∧ visB (Lib.compact (sortI W)) G = true)) : swB W G = false := by
  cases e : swB W G with
  | false => rfl
  | true => exact absurd (swB_prog.1 e) h
end Go.Proofs.YtocogipejchneaaDoor
