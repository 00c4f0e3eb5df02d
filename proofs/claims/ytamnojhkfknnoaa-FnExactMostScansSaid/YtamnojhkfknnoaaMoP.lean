/-
  The most scans that are right (plain): the program keeps the best list from each scan, the model the lengths and walks once.
-/
import Derived.Test.YtamnojhkfknnoaaBase
namespace Go.Proofs.Ytamnojhkfknnoaa
open Go Go.RowKit
set_option linter.unusedVariables false

/-- slices.Compare of numbers. -/
def cmpL : List Int → List Int → Int
  | [], [] => 0
  | [], _ :: _ => -1
  | _ :: _, [] => 1
  | a :: x, b :: y => if a < b then -1 else if b < a then 1 else cmpL x y
def betL (x y : List Int) : Bool := if x.length ≠ y.length then decide (x.length > y.length) else decide (cmpL x y < 0)

section
variable (G : Nat → Nat → Bool)
def LK (l : Nat → Nat) (i : Nat) : Nat → Nat
  | 0 => 1
  | j + 1 => if G i (i + 1 + j) = true then max (LK l i j) (l (i + 1 + j) + 1) else LK l i j
def RK (b : Nat → List Int) (i : Nat) : Nat → List Int
  | 0 => [(i : Int)]
  | j + 1 => if (G i (i + 1 + j) && betL ((i : Int) :: b (i + 1 + j)) (RK b i j)) = true then (i : Int) :: b (i + 1 + j) else RK b i j
def Lf (n : Nat) : Nat → Nat → Nat
  | 0, _ => 0
  | f + 1, i => LK G (Lf n f) i (n - (i + 1))
def bfF (n : Nat) : Nat → Nat → List Int
  | 0, _ => []
  | f + 1, i => RK G (bfF n f) i (n - (i + 1))
def lo (n i : Nat) : Nat := Lf G n n i
def bl (n i : Nat) : List Int := bfF G n n i
def BK (n : Nat) : Nat → List Int
  | 0 => []
  | m + 1 => if betL (bl G n (n - 1 - m)) (BK n m) = true then bl G n (n - 1 - m) else BK n m
def gr (l : Nat → Nat) : Nat → Nat → Int → Nat → List Int
  | 0, _, _, _ => []
  | f + 1, i, last, need => if need = 0 then [] else if l i = need ∧ (last < 0 ∨ G last.toNat i = true) then (i : Int) :: gr l f (i + 1) (i : Int) (need - 1) else gr l f (i + 1) last need
end
def NK (l : Nat → Nat) : Nat → Nat
  | 0 => 0
  | j + 1 => max (NK l j) (l j)

section
variable {G : Nat → Nat → Bool}
theorem LK_congr {l l' : Nat → Nat} {i : Nat} : ∀ {m : Nat}, (∀ j, j < m → l (i + 1 + j) = l' (i + 1 + j)) → LK G l i m = LK G l' i m
  | 0, _ => rfl
  | m + 1, h => by
    unfold LK
    rw [h m (by omega), LK_congr (m := m) (fun j hj => h j (by omega))]
theorem RK_congr {l l' : Nat → List Int} {i : Nat} : ∀ {m : Nat}, (∀ j, j < m → l (i + 1 + j) = l' (i + 1 + j)) → RK G l i m = RK G l' i m
  | 0, _ => rfl
  | m + 1, h => by
    unfold RK
    rw [h m (by omega), RK_congr (m := m) (fun j hj => h j (by omega))]
theorem Lf_stable {n : Nat} : ∀ {f f' i : Nat}, i < n → n - i ≤ f → n - i ≤ f' → Lf G n f i = Lf G n f' i
  | 0, _, _, h, h1, _ => by omega
  | _ + 1, 0, _, h, _, h2 => by omega
  | f + 1, f' + 1, i, h, h1, h2 => by
    unfold Lf
    exact LK_congr fun j hj => Lf_stable (by omega) (by omega) (by omega)
theorem bf_stable {n : Nat} : ∀ {f f' i : Nat}, i < n → n - i ≤ f → n - i ≤ f' → bfF G n f i = bfF G n f' i
  | 0, _, _, h, h1, _ => by omega
  | _ + 1, 0, _, h, _, h2 => by omega
  | f + 1, f' + 1, i, h, h1, h2 => by
    unfold bfF
    exact RK_congr fun j hj => bf_stable (by omega) (by omega) (by omega)
theorem lo_eq {n i : Nat} (h : i < n) : lo G n i = LK G (lo G n) i (n - (i + 1)) := by
  obtain ⟨f, rfl⟩ : ∃ f, n = f + 1 := ⟨n - 1, by omega⟩
  unfold lo
  rw [show Lf G (f + 1) (f + 1) i = LK G (Lf G (f + 1) f) i (f + 1 - (i + 1)) from rfl]
  exact LK_congr fun j hj => Lf_stable (by omega) (by omega) (by omega)
theorem bl_eq {n i : Nat} (h : i < n) : bl G n i = RK G (bl G n) i (n - (i + 1)) := by
  obtain ⟨f, rfl⟩ : ∃ f, n = f + 1 := ⟨n - 1, by omega⟩
  unfold bl
  rw [show bfF G (f + 1) (f + 1) i = RK G (bfF G (f + 1) f) i (f + 1 - (i + 1)) from rfl]
  exact RK_congr fun j hj => bf_stable (by omega) (by omega) (by omega)

/-- What the rounds of one scan make. -/
theorem RK_spec {l : Nat → Nat} {b : Nat → List Int} {i : Nat} : ∀ (m : Nat), (∀ j, j < m → (b (i + 1 + j)).length = l (i + 1 + j) ∧ ∃ t, b (i + 1 + j) = ((i + 1 + j : Nat) : Int) :: t) →
    (RK G b i m).length = LK G l i m ∧ (∀ j, j < m → G i (i + 1 + j) = true → l (i + 1 + j) + 1 ≤ LK G l i m) ∧
    ((RK G b i m = [(i : Int)] ∧ LK G l i m = 1) ∨ ∃ j0, j0 < m ∧ RK G b i m = (i : Int) :: b (i + 1 + j0) ∧ G i (i + 1 + j0) = true ∧ l (i + 1 + j0) + 1 = LK G l i m ∧ ∀ j, j < j0 → ¬ (G i (i + 1 + j) = true ∧ l (i + 1 + j) + 1 = LK G l i m))
  | 0, _ => ⟨rfl, fun j hj => by omega, .inl ⟨rfl, rfl⟩⟩
  | m + 1, h => by
    obtain ⟨h1, h2, h3⟩ := RK_spec m (fun j hj => h j (by omega))
    obtain ⟨hl, t, ht⟩ := h m (by omega)
    have hpos : 1 ≤ l (i + 1 + m) := by rw [← hl, ht]; simp
    unfold RK LK
    cases hg : G i (i + 1 + m)
    · simp only [Bool.false_and, Bool.false_eq_true, if_false]
      refine ⟨h1, fun j hj hG => ?_, ?_⟩
      · by_cases e : j = m
        · subst e; rw [hg] at hG; cases hG
        · exact h2 j (by omega) hG
      · rcases h3 with h3 | ⟨j0, a, b', c⟩
        · exact .inl h3
        · exact .inr ⟨j0, by omega, b', c⟩
    · simp only [Bool.true_and, if_true]
      have hlen : ((i : Int) :: b (i + 1 + m)).length = l (i + 1 + m) + 1 := by simp [hl]
      rcases Nat.lt_trichotomy (LK G l i m) (l (i + 1 + m) + 1) with hc | hc | hc
      · have hb : betL ((i : Int) :: b (i + 1 + m)) (RK G b i m) = true := by
          unfold betL; rw [hlen, h1, if_pos (by omega)]; simpa using hc
        rw [hb, if_pos rfl, Nat.max_eq_right (by omega)]
        refine ⟨hlen, fun j hj hG => ?_, .inr ⟨m, by omega, rfl, hg, rfl, fun j hj hh => ?_⟩⟩
        · by_cases e : j = m
          · subst e; exact Nat.le_refl _
          · have := h2 j (by omega) hG; omega
        · have := h2 j (by omega) hh.1; omega
      · have hb : betL ((i : Int) :: b (i + 1 + m)) (RK G b i m) = false := by
          unfold betL; rw [hlen, h1, if_neg (by omega)]
          rcases h3 with ⟨_, h3⟩ | ⟨j0, ha, hb', hc', _⟩
          · omega
          · obtain ⟨_, t0, ht0⟩ := h j0 (by omega)
            rw [hb', ht, ht0]
            simp only [cmpL, Int.lt_irrefl, if_false]
            rw [if_neg (by omega), if_pos (by omega)]; rfl
        rw [hb, if_neg (by simp), Nat.max_eq_left (by omega)]
        refine ⟨h1, fun j hj hG => ?_, ?_⟩
        · by_cases e : j = m
          · subst e; omega
          · exact h2 j (by omega) hG
        · rcases h3 with h3 | ⟨j0, a, b', c⟩
          · exact .inl h3
          · exact .inr ⟨j0, by omega, b', c⟩
      · have hb : betL ((i : Int) :: b (i + 1 + m)) (RK G b i m) = false := by
          unfold betL; rw [hlen, h1, if_pos (by omega)]; simp; omega
        rw [hb, if_neg (by simp), Nat.max_eq_left (by omega)]
        refine ⟨h1, fun j hj hG => ?_, ?_⟩
        · by_cases e : j = m
          · subst e; omega
          · exact h2 j (by omega) hG
        · rcases h3 with h3 | ⟨j0, a, b', c⟩
          · exact .inl h3
          · exact .inr ⟨j0, by omega, b', c⟩

theorem bl_spec {n : Nat} : ∀ (d i : Nat), n - i ≤ d → i < n → (bl G n i).length = lo G n i ∧ ∃ t, bl G n i = (i : Int) :: t ∧
    ((t = [] ∧ lo G n i = 1) ∨ ∃ k, i < k ∧ k < n ∧ t = bl G n k ∧ G i k = true ∧ lo G n k + 1 = lo G n i ∧ ∀ k', i < k' → k' < k → ¬ (G i k' = true ∧ lo G n k' + 1 = lo G n i))
  | 0, i, h, hi => by omega
  | d + 1, i, h, hi => by
    have := RK_spec (G := G) (l := lo G n) (b := bl G n) (i := i) (n - (i + 1)) (fun j hj => by
      obtain ⟨a, t, b, _⟩ := bl_spec (n := n) d (i + 1 + j) (by omega) (by omega)
      exact ⟨a, t, b⟩)
    rw [← lo_eq hi, ← bl_eq hi] at this
    obtain ⟨h1, _, h3⟩ := this
    refine ⟨h1, ?_⟩
    rcases h3 with ⟨a, b⟩ | ⟨j0, a, b, c, e, f⟩
    · exact ⟨[], a, .inl ⟨rfl, b⟩⟩
    · refine ⟨_, b, .inr ⟨i + 1 + j0, by omega, by omega, rfl, c, e, fun k' h1 h2 => ?_⟩⟩
      obtain ⟨j, rfl⟩ : ∃ j, k' = i + 1 + j := ⟨k' - (i + 1), by omega⟩
      exact f j (by omega)
theorem bl_head {n i : Nat} (h : i < n) : (bl G n i).length = lo G n i ∧ ∃ t, bl G n i = (i : Int) :: t := by
  obtain ⟨a, t, b, _⟩ := bl_spec (G := G) (n := n) _ i (Nat.le_refl _) h
  exact ⟨a, t, b⟩
theorem lo_pos {n i : Nat} (h : i < n) : 1 ≤ lo G n i := by
  obtain ⟨a, t, b, _⟩ := bl_spec (G := G) (n := n) _ i (Nat.le_refl _) h
  rw [← a, b]; simp

theorem gr_tail {n : Nat} : ∀ (f j i : Nat) (t : List Int), f = n - j → i < j → i < n → (∀ k', i < k' → k' < j → ¬ (G i k' = true ∧ lo G n k' + 1 = lo G n i)) → bl G n i = (i : Int) :: t → gr G (lo G n) f j (i : Int) (lo G n i - 1) = t
  | 0, j, i, t, hf, hij, hi, hno, hb => by
    obtain ⟨_, t', hb', h⟩ := bl_spec (G := G) (n := n) _ i (Nat.le_refl _) hi
    obtain rfl : t = t' := by have := hb.symm.trans hb'; simpa using this
    rcases h with ⟨h, _⟩ | ⟨k, h1, h2, h3, h4, h5, h6⟩
    · rw [h]; rfl
    · exact absurd ⟨h4, h5⟩ (hno k h1 (by omega))
  | f + 1, j, i, t, hf, hij, hi, hno, hb => by
    obtain ⟨_, t', hb', h⟩ := bl_spec (G := G) (n := n) _ i (Nat.le_refl _) hi
    obtain rfl : t = t' := by have := hb.symm.trans hb'; simpa using this
    unfold gr
    rcases h with ⟨h, h'⟩ | ⟨k, h1, h2, h3, h4, h5, h6⟩
    · rw [h', if_pos rfl, h]
    · have hkp : 1 ≤ lo G n k := lo_pos h2
      have hjk : j ≤ k := by
        rcases Nat.lt_or_ge k j with hh | hh
        · exact absurd ⟨h4, h5⟩ (hno k h1 hh)
        · exact hh
      have hf1 : f = n - (j + 1) := by clear h3 h4 h5 h6 hno hb; omega
      have hn0 : ¬ lo G n i - 1 = 0 := by omega
      rw [if_neg hn0]
      clear hf
      by_cases hc : G i j = true ∧ lo G n j + 1 = lo G n i
      · have hjk' : j = k := by
          rcases Nat.lt_or_ge j k with hh | hh
          · exact absurd hc (h6 j hij hh)
          · omega
        subst hjk'
        rw [if_pos ⟨by omega, .inr (by simpa using hc.1)⟩]
        obtain ⟨_, t2, hb2, _⟩ := bl_spec (G := G) (n := n) _ j (Nat.le_refl _) h2
        have := gr_tail (n := n) f (j + 1) j t2 hf1 (Nat.lt_succ_self _) h2 (fun k' a b => by omega) hb2
        rw [show lo G n i - 1 - 1 = lo G n j - 1 by omega, this, h3, hb2]
      · rw [if_neg (by
          rintro ⟨a, b⟩
          refine hc ⟨?_, by omega⟩
          rcases b with b | b
          · omega
          · simpa using b)]
        exact gr_tail (n := n) f (j + 1) i t hf1 (by omega) hi (fun k' a b => by
          by_cases e : k' = j
          · subst e; exact hc
          · exact hno k' a (by omega)) hb

theorem BK_spec {n : Nat} : ∀ (m : Nat), 0 < m → m ≤ n → ∃ i0, n - m ≤ i0 ∧ i0 < n ∧ BK G n m = bl G n i0 ∧ (∀ k, n - m ≤ k → k < n → lo G n k ≤ lo G n i0) ∧ ∀ k, n - m ≤ k → k < i0 → lo G n k < lo G n i0
  | 0, h, _ => by omega
  | m + 1, _, hm => by
    have hi : n - 1 - m < n := by omega
    obtain ⟨hl, t, ht⟩ := bl_head (G := G) hi
    have hp := lo_pos (G := G) hi
    unfold BK
    by_cases h0 : m = 0
    · subst h0
      have hb : betL (bl G n (n - 1 - 0)) (BK G n 0) = true := by
        unfold betL BK; rw [if_pos (by rw [hl]; show lo G n (n - 1 - 0) ≠ 0; omega), hl]; exact decide_eq_true (show 0 < lo G n (n - 1 - 0) by omega)
      rw [hb, if_pos rfl]
      refine ⟨n - 1 - 0, by omega, by omega, rfl, fun k h1 h2 => ?_, fun k h1 h2 => by omega⟩
      obtain rfl : k = n - 1 - 0 := by omega
      exact Nat.le_refl _
    · obtain ⟨i0, a1, a2, a3, a4, a5⟩ := BK_spec (n := n) m (by omega) (by omega)
      obtain ⟨hl0, t0, ht0⟩ := bl_head (G := G) a2
      have hstay : lo G n (n - 1 - m) < lo G n i0 → betL (bl G n (n - 1 - m)) (BK G n m) = false := fun h => by
        unfold betL; rw [a3, hl, hl0, if_pos (by omega)]; simp; omega
      have hgo : lo G n i0 ≤ lo G n (n - 1 - m) → betL (bl G n (n - 1 - m)) (BK G n m) = true := fun h => by
        unfold betL; rw [a3, hl, hl0]
        by_cases e : lo G n (n - 1 - m) = lo G n i0
        · have hlt : cmpL (((n - 1 - m : Nat) : Int) :: t) ((i0 : Int) :: t0) = -1 := by
            unfold cmpL; exact if_pos (by omega)
          rw [if_neg (by omega), ht, ht0]
          exact decide_eq_true (by rw [hlt]; omega)
        · rw [if_pos e]; simp; omega
      by_cases hc : lo G n i0 ≤ lo G n (n - 1 - m)
      · rw [hgo hc, if_pos rfl]
        refine ⟨n - 1 - m, by omega, by omega, rfl, fun k h1 h2 => ?_, fun k h1 h2 => by omega⟩
        by_cases e : k = n - 1 - m
        · subst e; exact Nat.le_refl _
        · have := a4 k (by omega) h2; omega
      · rw [hstay (by omega), if_neg (by simp)]
        refine ⟨i0, by omega, a2, a3, fun k h1 h2 => ?_, fun k h1 h2 => ?_⟩
        · by_cases e : k = n - 1 - m
          · subst e; omega
          · exact a4 k (by omega) h2
        · by_cases e : k = n - 1 - m
          · subst e; omega
          · exact a5 k (by omega) h2

theorem NK_ge {l : Nat → Nat} : ∀ {m i : Nat}, i < m → l i ≤ NK l m
  | 0, _, h => by omega
  | m + 1, i, h => by
    unfold NK
    by_cases e : i = m
    · subst e; exact Nat.le_max_right _ _
    · exact Nat.le_trans (NK_ge (by omega)) (Nat.le_max_left _ _)
theorem NK_le {l : Nat → Nat} {b : Nat} : ∀ {m : Nat}, (∀ i, i < m → l i ≤ b) → NK l m ≤ b
  | 0, _ => Nat.zero_le _
  | m + 1, h => by
    unfold NK
    exact Nat.max_le.2 ⟨NK_le fun i hi => h i (by omega), h m (by omega)⟩

theorem gr_skip {l : Nat → Nat} {need n : Nat} : ∀ (f j i0 : Nat), f = n - j → j ≤ i0 → i0 < n → 0 < need → (∀ k, j ≤ k → k < i0 → l k ≠ need) → gr G l f j (-1) need = gr G l (n - i0) i0 (-1) need
  | 0, j, i0, hf, h1, h2, _, _ => by omega
  | f + 1, j, i0, hf, h1, h2, hp, h3 => by
    by_cases e : j = i0
    · subst e; rw [← hf]
    · rw [gr, if_neg (by omega), if_neg (by intro h; exact h3 j (Nat.le_refl _) (by omega) h.1)]
      exact gr_skip f (j + 1) i0 (by omega) (by omega) h2 hp (fun k a b => h3 k (by omega) b)

theorem LK_le {l : Nat → Nat} {i b : Nat} : ∀ {m : Nat}, (∀ j, j < m → l (i + 1 + j) ≤ b) → LK G l i m ≤ b + 1
  | 0, _ => by unfold LK; omega
  | m + 1, h => by
    have h1 := LK_le (m := m) (fun j hj => h j (by omega))
    have h2 := h m (by omega)
    unfold LK
    split
    · exact Nat.max_le.2 ⟨h1, by omega⟩
    · exact h1
theorem Lf_le {n : Nat} : ∀ (f i : Nat), Lf G n f i ≤ f
  | 0, _ => Nat.le_refl _
  | f + 1, i => by unfold Lf; exact LK_le fun j _ => Lf_le f _
theorem lo_le (n i : Nat) : lo G n i ≤ n := Lf_le n i
theorem LK_yes {l : Nat → Nat} {i j : Nat} (h : G i (i + 1 + j) = true) : LK G l i (j + 1) = max (LK G l i j) (l (i + 1 + j) + 1) := by
  rw [LK, if_pos h]
theorem LK_no {l : Nat → Nat} {i j : Nat} (h : G i (i + 1 + j) = false) : LK G l i (j + 1) = LK G l i j := by
  rw [LK, if_neg (by simp [h])]

/-- Program and model give the same scans. -/
theorem most_same (G : Nat → Nat → Bool) (n : Nat) : BK G n n = gr G (lo G n) n 0 (-1) (NK (lo G n) n) := by
  by_cases h0 : n = 0
  · subst h0; rfl
  · obtain ⟨i0, a1, a2, a3, a4, a5⟩ := BK_spec (G := G) (n := n) n (by omega) (Nat.le_refl _)
    have hN : NK (lo G n) n = lo G n i0 := Nat.le_antisymm (NK_le fun i hi => a4 i (by omega) hi) (NK_ge a2)
    have hp := lo_pos (G := G) a2
    rw [a3, hN, gr_skip n 0 i0 (by omega) (by omega) a2 (by omega) (fun k h1 h2 => Nat.ne_of_lt (a5 k (by omega) h2))]
    obtain ⟨_, t, ht⟩ := bl_head (G := G) a2
    obtain ⟨f, hf⟩ : ∃ f, n - i0 = f + 1 := ⟨n - i0 - 1, by omega⟩
    rw [hf, gr, if_neg (by omega), if_pos ⟨rfl, .inl (by omega)⟩, gr_tail (n := n) f (i0 + 1) i0 t (by omega) (by omega) a2 (fun k' a b => by omega) ht, ht]
end
end Go.Proofs.Ytamnojhkfknnoaa
