/-
  Shifts of bags: plain functions; slices of slices whose rows are all told where they lie.
-/
import Derived.Test.YtbclmafplaipaaaDoorBgP
import Derived.Test.YtbclmafplaipaaaDoorMatD
namespace Go.Proofs.YtbclmafplaipaaaDoor
open Go Go.RowKit
set_option linter.unusedVariables false

/-- A slice value is nil, or leads to the head of a block that reads as xs. -/
def RowAt (w : World) (u : Value) (xs : List Int) : Prop := (u = .slice none 0 0 ∧ xs = []) ∨ ∃ b cap, u = .slice (some ⟨b, 0, none⟩) xs.length cap ∧ xs.length ≤ cap ∧ cap ≤ maxLen ∧ b < w.heap.size ∧ Cells w b xs
theorem RowAt.below {w w' : World} {u : Value} {xs : List Int} (h : RowAt w u xs) (hb : Below w.heap.size w w') : RowAt w' u xs := by
  rcases h with h | ⟨b, cap, rfl, h1, h2, h3, h4⟩
  · exact .inl h
  · exact .inr ⟨b, cap, rfl, h1, h2, Nat.lt_of_lt_of_le h3 hb.size, h4.below hb⟩
theorem RowAt.reads {w : World} {u : Value} {xs : List Int} (h : RowAt w u xs) : ReadsI w u xs := by
  rcases h with ⟨rfl, rfl⟩ | ⟨b, cap, rfl, h1, h2, h3, h4⟩
  · exact ⟨none, 0, rfl, fun h => absurd rfl h⟩
  · exact ⟨_, cap, rfl, fun _ => ⟨b, rfl, h4⟩⟩
theorem OwnI.solid {B : Nat} {w : World} {u : Value} {xs : List Int} (h : OwnI B w u xs) : RowAt w u xs := by
  rcases h.cases with ⟨rfl, rfl⟩ | ⟨g, cap, rfl, _, hg, h1, h2, hc, _⟩
  · exact .inl ⟨rfl, rfl⟩
  · exact .inr ⟨g, cap, rfl, h1, h2, hg, hc⟩
/-- .. all rows of a slice of slices. -/
def ReadsS (w : World) (v : Value) (R : List (List Int)) : Prop := ∃ b cap, v = .slice (some ⟨b, 0, none⟩) R.length cap ∧ R.length ≤ cap ∧ cap ≤ maxLen ∧ b < w.heap.size ∧ ∀ j, j < R.length → ∃ u, w.cell? ⟨b, j, none⟩ = some u ∧ RowAt w u (R.getD j [])
theorem ReadsS.below {w w' : World} {v : Value} {R : List (List Int)} (h : ReadsS w v R) (hb : Below w.heap.size w w') : ReadsS w' v R := by
  obtain ⟨b, cap, rfl, h1, h2, h3, hc⟩ := h
  refine ⟨b, cap, rfl, h1, h2, Nat.lt_of_lt_of_le h3 hb.size, fun j hj => ?_⟩
  obtain ⟨u, c0, r0⟩ := hc j hj
  exact ⟨u, by rw [hb.cell (p := ⟨b, j, none⟩) (World.block_lt_of_cell? w _ c0)]; exact c0, r0.below hb⟩
theorem ReadsS.reads {w : World} {v : Value} {R : List (List Int)} (h : ReadsS w v R) : ReadsM w v R := by
  obtain ⟨b, cap, rfl, h1, h2, h3, hc⟩ := h
  refine ⟨_, cap, rfl, fun _ => ⟨b, rfl, fun j hj => ?_⟩⟩
  obtain ⟨u, c0, r0⟩ := hc j hj
  exact ⟨u, c0, r0.reads⟩
theorem OwnMX.solid {lo hi : Nat} {w : World} {v : Value} {R : List (List Int)} (h : OwnMX lo hi w v R) (h0 : R ≠ []) : ReadsS w v R := by
  obtain ⟨us, h1, h2, h3, h4⟩ := h
  have hus : us.length = R.length := by simpa using h1.1
  rcases h1.2 with ⟨rfl, hz⟩ | ⟨g, cap, cur, rfl, hb, hg, hn, hm, _, _⟩
  · exact absurd (List.eq_nil_of_length_eq_zero hz) h0
  · refine ⟨g, cap, rfl, hn, hm, (Array.getElem?_eq_some_iff.1 hg).1, fun j hj => ⟨us.getD j nilS, ?_, (h2 j hj).solid⟩⟩
    rw [World.ownsRow.cellAt h1 j (by omega)]
    simp [List.getD, show j < us.length by omega]
theorem OwnMD.solid {lo hi : Nat} {w : World} {v : Value} {R : List (List Int)} (h : OwnMD lo hi w v R) (h0 : R ≠ []) : ReadsS w v R := h.toX.solid h0

/-- The error of a shift. -/
def shC (R : List (List Int)) (f t : Int) : Int :=
  if ¬ (0 ≤ f ∧ f < R.length) ∨ ¬ (0 ≤ t ∧ t < R.length) ∨ f = t then 2 else if (R.getD f.toNat []).length = 0 then 6 else if (R.getD t.toNat []).length = 6 then 3 else 0
theorem shC_2 {R : List (List Int)} {f t : Int} (h : ¬ (0 ≤ f ∧ f < R.length) ∨ ¬ (0 ≤ t ∧ t < R.length) ∨ f = t) : shC R f t = 2 := if_pos h
theorem shC_6 {R : List (List Int)} {f t : Nat} (hf : f < R.length) (ht : t < R.length) (hn : f ≠ t) (h : (R.getD f []).length = 0) : shC R f t = 6 := by
  rw [shC, if_neg (by omega), if_pos (by simpa using h)]
theorem shC_3 {R : List (List Int)} {f t : Nat} (hf : f < R.length) (ht : t < R.length) (hn : f ≠ t) (h : (R.getD f []).length ≠ 0) (h2 : (R.getD t []).length = 6) : shC R f t = 3 := by
  rw [shC, if_neg (by omega), if_neg (by simpa using h), if_pos (by simpa using h2)]
theorem shC_0 {R : List (List Int)} {f t : Nat} (hf : f < R.length) (ht : t < R.length) (hn : f ≠ t) (h : (R.getD f []).length ≠ 0) (h2 : (R.getD t []).length ≠ 6) : shC R f t = 0 := by
  rw [shC, if_neg (by omega), if_neg (by simpa using h), if_neg (by simpa using h2)]
theorem shC_zero {R : List (List Int)} {f t : Int} (h : shC R f t = 0) : ∃ f' t' : Nat, f = f' ∧ t = t' ∧ f' < R.length ∧ t' < R.length ∧ f' ≠ t' ∧ (R.getD f' []).length ≠ 0 ∧ (R.getD t' []).length ≠ 6 := by
  unfold shC at h
  split at h
  · simp at h
  · split at h
    · simp at h
    · split at h
      · simp at h
      · rename_i a b c
        refine ⟨f.toNat, t.toNat, by omega, by omega, by omega, by omega, by omega, b, c⟩
/-- The bags behind a shift. -/
def shM (R : List (List Int)) (f t : Int) : List (List Int) :=
  (R.set t.toNat (R.getD t.toNat [] ++ [(R.getD f.toNat []).getD ((R.getD f.toNat []).length - 1) 0])).set f.toNat ((R.getD f.toNat []).take ((R.getD f.toNat []).length - 1))
theorem shM_len (R : List (List Int)) (f t : Int) : (shM R f t).length = R.length := by simp [shM]
theorem shM_get (R : List (List Int)) (f t j : Nat) (hf : f < R.length) (ht : t < R.length) (hn : f ≠ t) (hj : j < R.length) : (shM R f t).getD j [] =
    if j = f then (R.getD f []).take ((R.getD f []).length - 1) else if j = t then R.getD t [] ++ [(R.getD f []).getD ((R.getD f []).length - 1) 0] else R.getD j [] := by
  simp only [shM, Int.toNat_natCast, List.getD]
  by_cases e : j = f
  · subst e; simp [hf]
  · rw [if_neg e]
    by_cases e2 : j = t
    · subst e2; simp [hn, ht]
    · rw [if_neg e2, List.getElem?_set_ne (Ne.symm e), List.getElem?_set_ne (Ne.symm e2)]
theorem shM_ok {R : List (List Int)} {f t : Int} (h : vldM R = true) (hc : shC R f t = 0) : vldM (shM R f t) = true := by
  obtain ⟨g1, g4, hok⟩ := vldM_spec h
  obtain ⟨f', t', rfl, rfl, hf, ht, hn, h0, h6⟩ := shC_zero hc
  have okf := hok f' hf
  have okt := hok t' ht
  refine vldM_true (by rw [shM_len]; exact g1) (by rw [shM_len]; exact g4) fun r hr => ?_
  rw [shM_len] at hr ⊢
  rw [shM_get _ _ _ _ hf ht hn hr]
  have hokr := hok r hr
  generalize R.getD r [] = zs at hokr ⊢
  generalize R.getD f' [] = xs at okf h0 ⊢
  generalize R.getD t' [] = ys at okt h6 ⊢
  split
  · refine ⟨by rw [List.length_take]; have := okf.1; omega, fun c hc => ?_⟩
    rw [List.length_take] at hc
    have hc' : c < xs.length - 1 ∧ c < xs.length := by omega
    have := okf.2 c hc'.2
    have e : (List.take (xs.length - 1) xs).getD c 0 = xs.getD c 0 := by simp [List.getD, hc'.1, hc'.2]
    rw [e]; exact this
  · split
    · refine ⟨by rw [List.length_append, List.length_singleton]; have := okt.1; omega, fun c hc => ?_⟩
      rw [List.length_append, List.length_singleton] at hc
      by_cases e : c < ys.length
      · have e2 : (ys ++ [xs.getD (xs.length - 1) 0]).getD c 0 = ys.getD c 0 := by simp [List.getD, List.getElem?_append_left e]
        rw [e2]; exact okt.2 c e
      · have e3 : c = ys.length := by omega
        have e2 : (ys ++ [xs.getD (xs.length - 1) 0]).getD c 0 = xs.getD (xs.length - 1) 0 := by rw [e3]; simp [List.getD]
        rw [e2]; exact okf.2 _ (by omega)
    · exact hokr

/-- The bags behind the first k shifts. -/
def stK (R : List (List Int)) (ss : List (Int × Int)) : Nat → List (List Int)
  | 0 => R
  | k + 1 => shM (stK R ss k) (ss.getD k (0, 0)).1 (ss.getD k (0, 0)).2
/-- The first error of the first k shifts. -/
def codeK (R : List (List Int)) (ss : List (Int × Int)) : Nat → Int
  | 0 => 0
  | k + 1 => if codeK R ss k ≠ 0 then codeK R ss k else shC (stK R ss k) (ss.getD k (0, 0)).1 (ss.getD k (0, 0)).2
theorem codeK_stays {R : List (List Int)} {ss : List (Int × Int)} {k : Nat} (h : codeK R ss k ≠ 0) (d : Nat) : codeK R ss (k + d) = codeK R ss k := by
  induction d with
  | zero => rfl
  | succ d ih => rw [← Nat.add_assoc, codeK, if_pos (by rw [ih]; exact h), ih]
theorem codeK_next {R : List (List Int)} {ss : List (Int × Int)} {k : Nat} (h : codeK R ss k = 0) : codeK R ss (k + 1) = shC (stK R ss k) (ss.getD k (0, 0)).1 (ss.getD k (0, 0)).2 := by rw [codeK, if_neg (by simp [h])]
theorem stK_ok {R : List (List Int)} {ss : List (Int × Int)} (h : vldM R = true) (k : Nat) (hc : codeK R ss k = 0) : vldM (stK R ss k) = true := by
  induction k with
  | zero => exact h
  | succ k ih =>
    have h0 : codeK R ss k = 0 := by
      by_cases e : codeK R ss k = 0
      · exact e
      · have := codeK_stays e 1; rw [this] at hc; exact absurd hc e
    rw [codeK_next h0] at hc
    exact shM_ok (ih h0) hc
theorem vldM_tot {R : List (List Int)} (h : vldM R = true) : R.length ≤ 4 ∧ (∀ j, j < R.length → (R.getD j []).length ≤ 6) ∧ tot R ≤ 24 := by
  obtain ⟨g1, g4, hok⟩ := vldM_spec h
  refine ⟨g4, fun j hj => (hok j hj).1, ?_⟩
  have hb : ∀ k, k ≤ R.length → tot (R.take k) ≤ 6 * k := by
    intro k
    induction k with
    | zero => intro _; simp [tot]
    | succ k ih =>
      intro hk
      rw [tot_take_succ R k (by omega)]
      have := ih (by omega)
      have := (hok k (by omega)).1
      omega
  have := hb R.length (Nat.le_refl _)
  rw [List.take_of_length_le (Nat.le_refl _)] at this
  omega
/-! ### answers -/
def sh1C (R : List (List Int)) (f t : Int) : Int := if vldM R = false then 1 else shC R f t
def sh1R (R : List (List Int)) (f t : Int) : List (List Int) := if sh1C R f t = 0 then shM R f t else []
def shAC (R : List (List Int)) (ss : List (Int × Int)) : Int := if vldM R = false then 1 else if 100 < ss.length then 3 else codeK R ss ss.length
def shAR (R : List (List Int)) (ss : List (Int × Int)) : List (List Int) := if shAC R ss = 0 then stK R ss ss.length else []
theorem sh1_ok {R : List (List Int)} {f t : Int} (h : sh1C R f t = 0) : vldM R = true ∧ shC R f t = 0 := by
  unfold sh1C at h
  split at h
  · simp at h
  · rename_i g; exact ⟨by simpa using g, h⟩
theorem shA_ok {R : List (List Int)} {ss : List (Int × Int)} (h : shAC R ss = 0) : vldM R = true ∧ codeK R ss ss.length = 0 := by
  unfold shAC at h
  split at h
  · simp at h
  · split at h
    · simp at h
    · rename_i g _; exact ⟨by simpa using g, h⟩
theorem sh1R_bd (R : List (List Int)) (f t : Int) : (sh1R R f t).length ≤ 4 ∧ (∀ j, j < (sh1R R f t).length → ((sh1R R f t).getD j []).length ≤ 6) ∧ tot (sh1R R f t) ≤ 24 := by
  unfold sh1R
  split
  · rename_i h
    obtain ⟨a, b⟩ := sh1_ok h
    exact vldM_tot (shM_ok a b)
  · simp [tot]
theorem shAR_bd (R : List (List Int)) (ss : List (Int × Int)) : (shAR R ss).length ≤ 4 ∧ (∀ j, j < (shAR R ss).length → ((shAR R ss).getD j []).length ≤ 6) ∧ tot (shAR R ss) ≤ 24 := by
  unfold shAR
  split
  · rename_i h
    obtain ⟨a, b⟩ := shA_ok h
    exact vldM_tot (stK_ok a _ b)
  · simp [tot]
end Go.Proofs.YtbclmafplaipaaaDoor
