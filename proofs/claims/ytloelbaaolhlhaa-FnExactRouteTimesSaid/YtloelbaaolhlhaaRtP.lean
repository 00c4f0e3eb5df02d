/-
  The hours of a route (plain): the lanes between two stations, and the hours station by station.
-/
import Derived.Test.YtloelbaaolhlhaaArC
import Derived.Test.YtloelbaaolhlhaaNtC
namespace Go.Proofs.Ytloelbaaolhlhaa
open Go Go.RowKit
set_option linter.unusedVariables false

/-- The model's: least, most, and whether there is a lane, among the first k. -/
def nxTo (ps : List Lan) (f t : Int) : Nat → Int × Int × Bool
  | 0 => (0, 0, false)
  | k + 1 => if (ps.getD k (0, 0, 0, 0)).1 = f ∧ (ps.getD k (0, 0, 0, 0)).2.1 = t then
      (if (nxTo ps f t k).2.2 = false ∨ (ps.getD k (0, 0, 0, 0)).2.2.1 < (nxTo ps f t k).1 then (ps.getD k (0, 0, 0, 0)).2.2.1 else (nxTo ps f t k).1, max (nxTo ps f t k).2.1 (ps.getD k (0, 0, 0, 0)).2.2.2, true) else nxTo ps f t k
/-- The program's: over the lanes whose most counts the stay, too. -/
def tkTo (hs : List Lan) (f t : Int) : Nat → Int × Int
  | 0 => (301, 0)
  | k + 1 => if (hs.getD k (0, 0, 0, 0)).1 = f ∧ (hs.getD k (0, 0, 0, 0)).2.1 = t then (min (tkTo hs f t k).1 (hs.getD k (0, 0, 0, 0)).2.2.1, max (tkTo hs f t k).2 (hs.getD k (0, 0, 0, 0)).2.2.2) else tkTo hs f t k
theorem nx_no {ps : List Lan} {f t : Int} {k : Nat} (h : ¬ ((ps.getD k (0, 0, 0, 0)).1 = f ∧ (ps.getD k (0, 0, 0, 0)).2.1 = t)) : nxTo ps f t (k + 1) = nxTo ps f t k := if_neg h
theorem nx_yes {ps : List Lan} {f t : Int} {k : Nat} (h : (ps.getD k (0, 0, 0, 0)).1 = f ∧ (ps.getD k (0, 0, 0, 0)).2.1 = t) : nxTo ps f t (k + 1) = (if (nxTo ps f t k).2.2 = false ∨ (ps.getD k (0, 0, 0, 0)).2.2.1 < (nxTo ps f t k).1 then (ps.getD k (0, 0, 0, 0)).2.2.1 else (nxTo ps f t k).1, max (nxTo ps f t k).2.1 (ps.getD k (0, 0, 0, 0)).2.2.2, true) := if_pos h
theorem tk_no {hs : List Lan} {f t : Int} {k : Nat} (h : ¬ ((hs.getD k (0, 0, 0, 0)).1 = f ∧ (hs.getD k (0, 0, 0, 0)).2.1 = t)) : tkTo hs f t (k + 1) = tkTo hs f t k := if_neg h
theorem tk_yes {hs : List Lan} {f t : Int} {k : Nat} (h : (hs.getD k (0, 0, 0, 0)).1 = f ∧ (hs.getD k (0, 0, 0, 0)).2.1 = t) : tkTo hs f t (k + 1) = (min (tkTo hs f t k).1 (hs.getD k (0, 0, 0, 0)).2.2.1, max (tkTo hs f t k).2 (hs.getD k (0, 0, 0, 0)).2.2.2) := if_pos h
theorem lan_bd {st sy : Int} {ps : List Lan} (h : okNet st sy ps) {k : Nat} (hk : k < ps.length) : 1 ≤ (ps.getD k (0, 0, 0, 0)).2.2.1 ∧ (ps.getD k (0, 0, 0, 0)).2.2.1 ≤ 40 ∧ 0 ≤ (ps.getD k (0, 0, 0, 0)).2.2.2 ∧ (ps.getD k (0, 0, 0, 0)).2.2.2 ≤ 40 := by
  have h2 := h.2.2.2 k hk
  unfold okLa at h2
  omega
/-- What both say to each other. -/
theorem nx_tk {st sy : Int} {ps : List Lan} (h : okNet st sy ps) (f t : Int) : ∀ k, k ≤ ps.length →
    (((nxTo ps f t k).2.2 = false ∧ tkTo (hopsL sy ps) f t k = (301, 0) ∧ (nxTo ps f t k).1 = 0 ∧ (nxTo ps f t k).2.1 = 0) ∨ ((nxTo ps f t k).2.2 = true ∧ tkTo (hopsL sy ps) f t k = ((nxTo ps f t k).1, (nxTo ps f t k).2.1 + sy) ∧ 1 ≤ (nxTo ps f t k).1 ∧ (nxTo ps f t k).1 ≤ 40 ∧ 0 ≤ (nxTo ps f t k).2.1 ∧ (nxTo ps f t k).2.1 ≤ 40))
  | 0, _ => .inl ⟨rfl, rfl, rfl, rfl⟩
  | k + 1, hk => by
    have ih := nx_tk h f t k (by omega)
    have hb := lan_bd h (k := k) (by omega)
    have hg := hopsL_get sy ps k (by omega)
    have hsy := h.2.1
    by_cases hm : (ps.getD k (0, 0, 0, 0)).1 = f ∧ (ps.getD k (0, 0, 0, 0)).2.1 = t
    · have hm2 : ((hopsL sy ps).getD k (0, 0, 0, 0)).1 = f ∧ ((hopsL sy ps).getD k (0, 0, 0, 0)).2.1 = t := by rw [hg]; exact hm
      right
      rw [nx_yes hm, tk_yes hm2, hg]
      obtain ⟨q, hq⟩ : ∃ q, ps.getD k (0, 0, 0, 0) = q := ⟨_, rfl⟩
      rw [hq] at hb ⊢
      obtain ⟨y0, y1, y2, y3⟩ := q
      simp only at hb ⊢
      rcases ih with ⟨i1, i2, i3, i4⟩ | ⟨i1, i2, i3, i4, i5, i6⟩
      · rw [i1, i2, i3, i4]
        simp only [true_or, if_true, Prod.mk.injEq, true_and]
        omega
      · rw [i1, i2]
        obtain ⟨z, hz⟩ : ∃ z, nxTo ps f t k = z := ⟨_, rfl⟩
        rw [hz] at i3 i4 i5 i6 ⊢
        obtain ⟨z0, z1, z2⟩ := z
        simp only [Bool.true_eq_false, false_or, Prod.mk.injEq, true_and] at i3 i4 i5 i6 ⊢
        split <;> omega
    · have hm2 : ¬ (((hopsL sy ps).getD k (0, 0, 0, 0)).1 = f ∧ ((hopsL sy ps).getD k (0, 0, 0, 0)).2.1 = t) := by rw [hg]; exact hm
      rw [nx_no hm, tk_no hm2]
      exact ih
def nx (ps : List Lan) (f t : Int) : Int × Int × Bool := nxTo ps f t ps.length
/-- The hours at the k-th station. -/
def rtS (sy : Int) (ps : List Lan) (rt : List Int) (hr : Int) : Nat → Int × Int
  | 0 => (hr, hr)
  | k + 1 => ((rtS sy ps rt hr k).1 + (nx ps (rt.getD k 0) (rt.getD (k + 1) 0)).1, (rtS sy ps rt hr k).2 + ((nx ps (rt.getD k 0) (rt.getD (k + 1) 0)).2.1 + sy))
/-- From the k-th station the next one can be reached. -/
def rtG (sy : Int) (ps : List Lan) (rt : List Int) (hr : Int) (k : Nat) : Prop := (nx ps (rt.getD k 0) (rt.getD (k + 1) 0)).2.2 = true ∧ (rtS sy ps rt hr (k + 1)).1 ≤ 300
instance (sy : Int) (ps : List Lan) (rt : List Int) (hr : Int) (k : Nat) : Decidable (rtG sy ps rt hr k) := inferInstanceAs (Decidable (_ ∧ _))
def rtOk (sy : Int) (ps : List Lan) (rt : List Int) (hr : Int) (n : Nat) : Prop := ∀ j, j + 1 < n → rtG sy ps rt hr j
instance (sy : Int) (ps : List Lan) (rt : List Int) (hr : Int) (n : Nat) : Decidable (rtOk sy ps rt hr n) := decidable_of_iff (∀ j, j < n → j + 1 < n → rtG sy ps rt hr j) ⟨fun h j hj => h j (by omega) hj, fun h j _ hj => h j hj⟩
def rtL (sy : Int) (ps : List Lan) (rt : List Int) (hr : Int) (k : Nat) : List (Int × Int) := (List.range k).map (rtS sy ps rt hr)
theorem rtL_len (sy : Int) (ps : List Lan) (rt : List Int) (hr : Int) (k : Nat) : (rtL sy ps rt hr k).length = k := by simp [rtL]
theorem rtL_succ (sy : Int) (ps : List Lan) (rt : List Int) (hr : Int) (k : Nat) : rtL sy ps rt hr (k + 1) = rtL sy ps rt hr k ++ [rtS sy ps rt hr k] := by unfold rtL; rw [List.range_succ, List.map_append]; rfl
theorem rtOk.one (sy : Int) (ps : List Lan) (rt : List Int) (hr : Int) {n : Nat} (h : n ≤ 1) : rtOk sy ps rt hr n := fun j hj => by omega
theorem rtOk.succ {sy : Int} {ps : List Lan} {rt : List Int} {hr : Int} {n : Nat} (h : rtOk sy ps rt hr (n + 1)) (hg : rtG sy ps rt hr n) : rtOk sy ps rt hr (n + 2) := fun j hj => by
  by_cases e : j = n
  · subst e; exact hg
  · exact h j (by omega)
theorem nx_bd {st sy : Int} {ps : List Lan} (h : okNet st sy ps) (f t : Int) : 0 ≤ (nx ps f t).1 ∧ (nx ps f t).1 ≤ 40 ∧ 0 ≤ (nx ps f t).2.1 ∧ (nx ps f t).2.1 ≤ 40 := by
  have := nx_tk h f t ps.length (Nat.le_refl _)
  unfold nx
  omega
theorem rtS_bd {st sy : Int} {ps : List Lan} (h : okNet st sy ps) {rt : List Int} {hr : Int} (hh : 0 ≤ hr ∧ hr ≤ 300) : ∀ k : Nat, 0 ≤ (rtS sy ps rt hr k).1 ∧ (rtS sy ps rt hr k).1 ≤ 300 + 40 * (k : Int) ∧ 0 ≤ (rtS sy ps rt hr k).2 ∧ (rtS sy ps rt hr k).2 ≤ 300 + 80 * (k : Int)
  | 0 => by simp [rtS]; omega
  | k + 1 => by
    have ih := rtS_bd h hh (rt := rt) k
    have hb := nx_bd h (rt.getD k 0) (rt.getD (k + 1) 0)
    have hsy := h.2.1
    rw [rtS]
    simp only
    omega
def rtA (st sy : Int) (ps : List Lan) (rt : List Int) (hr : Int) : Int := chkC st sy ps [] rt [hr]
def rtC (st sy : Int) (ps : List Lan) (rt : List Int) (hr : Int) : Int := if rtA st sy ps rt hr = 0 then (if rtOk sy ps rt hr rt.length then 0 else 6) else rtA st sy ps rt hr
def rtR (st sy : Int) (ps : List Lan) (rt : List Int) (hr : Int) : List (Int × Int) := if rtC st sy ps rt hr = 0 then rtL sy ps rt hr rt.length else []
theorem hr_one (x : Int) : betwB [x] 0 300 = inB x 0 300 := by
  unfold betwB inB
  rw [Bool.eq_iff_iff, decide_eq_true_iff, decide_eq_true_iff]
  unfold betw
  constructor
  · intro h; exact h 0 (by simp)
  · intro h i hi
    match i, hi with
    | 0, _ => exact h
theorem rtA_is (st sy : Int) (ps : List Lan) (rt : List Int) (hr : Int) : rtA st sy ps rt hr = if askC st sy ps (inB hr 0 300 && betwB rt 0 (st - 1)) = 0 then (if rt.length ≤ 12 then 0 else 3) else askC st sy ps (inB hr 0 300 && betwB rt 0 (st - 1)) := by
  unfold rtA chkC askC
  rw [hr_one]
  have hs : scsB st [] = true := by unfold scsB; exact decide_eq_true (OkScTo.zero st [])
  rw [hs]
  cases vldN st sy ps <;> cases inB hr 0 300 <;> cases betwB rt 0 (st - 1) <;> simp
theorem rtA_ok {st sy : Int} {ps : List Lan} {rt : List Int} {hr : Int} (h : rtA st sy ps rt hr = 0) : okNet st sy ps ∧ betw rt 0 (st - 1) rt.length ∧ (0 ≤ hr ∧ hr ≤ 300) ∧ rt.length ≤ 12 := by
  unfold rtA chkC at h
  rw [hr_one] at h
  split at h
  · rename_i hv
    split at h
    · rename_i h2
      split at h
      · rename_i h3
        exact ⟨vldN_spec hv, betwB_spec h2.1, of_decide_eq_true h2.2.1, h3.2⟩
      · cases h
    · cases h
  · cases h
theorem rtR_len (st sy : Int) (ps : List Lan) (rt : List Int) (hr : Int) : (rtR st sy ps rt hr).length ≤ 1048575 := by
  unfold rtR
  split
  · rename_i h
    unfold rtC at h
    split at h
    · rename_i h2
      rw [rtL_len]
      have := (rtA_ok h2).2.2.2
      omega
    · exact absurd h (by assumption)
  · simp
end Go.Proofs.Ytloelbaaolhlhaa
