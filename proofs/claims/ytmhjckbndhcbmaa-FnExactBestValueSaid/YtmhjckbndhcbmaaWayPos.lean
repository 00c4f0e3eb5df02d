/-
  Plain facts: ways are counted without overflow, and there is one just where the amount can be paid.
-/
import Derived.Test.YtmhjckbndhcbmaaPayPlain
namespace Go.Proofs.Ytmhjckbndhcbmaa
open Go Go.RowKit
set_option linter.unusedVariables false

/-- The new number of ways, unwrapped. -/
def newW (v : Nat) (ws : List Int) (b : Nat) : Int := if h : 1 ≤ v ∧ v ≤ b then ws.getD b 0 + newW v ws (b - v) else ws.getD b 0
termination_by b
decreasing_by omega
theorem newW_lt {v : Nat} {ws : List Int} {b : Nat} (h : b < v) : newW v ws b = ws.getD b 0 := by rw [newW, dif_neg (by omega)]
theorem newW_ge {v : Nat} {ws : List Int} {b : Nat} (h1 : 1 ≤ v) (h : v ≤ b) : newW v ws b = ws.getD b 0 + newW v ws (b - v) := by rw [newW, dif_pos ⟨h1, h⟩]

theorem newW_bound (v most : Nat) (ws : List Int) (M : Int) (hv : 1 ≤ v) (h : ∀ b, b ≤ most → 0 ≤ ws.getD b 0 ∧ ws.getD b 0 ≤ M) (b : Nat) (hb : b ≤ most) :
    0 ≤ newW v ws b ∧ newW v ws b ≤ (((b / v : Nat) : Int) + 1) * M := by
  induction b using Nat.strongRecOn with
  | ind b ih =>
    have h0 := h b hb
    by_cases hl : v ≤ b
    · rw [newW_ge hv hl]
      have i := ih (b - v) (by omega) (by omega)
      have e : b / v = (b - v) / v + 1 := Nat.div_eq_sub_div (by omega) hl
      rw [e]
      have e2 : ((((b - v) / v + 1 : Nat) : Int) + 1) * M = ((((b - v) / v : Nat) : Int) + 1) * M + M := by
        rw [Int.add_mul _ 1 M, Int.one_mul]; simp
      omega
    · rw [newW_lt (by omega)]
      have e : b / v = 0 := Nat.div_eq_of_lt (by omega)
      rw [e]
      simp
      exact h0

theorem wayK_get (v most : Nat) (ws : List Int) (hl : ws.length = most + 1) (hv : 1 ≤ v) (hN : ∀ b, b ≤ most → 0 ≤ newW v ws b ∧ newW v ws b ≤ 4611686018427387904) (j : Nat) (hj : v + j ≤ most + 1 ∨ j = 0) :
    ∀ b, b ≤ most → (wayK v ws j).getD b 0 = if v ≤ b ∧ b < v + j then newW v ws b else ws.getD b 0 := by
  induction j with
  | zero => intro b hb; rw [wayK, if_neg (by omega)]
  | succ j ih =>
    intro b hb
    have ih' := ih (by omega)
    rw [wayK]
    have hlen := wayK_length v ws j
    by_cases e : b = v + j
    · subst e
      rw [if_pos (by omega)]
      have h1 := ih' (v + j) hb
      have h2 := ih' j (by omega)
      rw [if_neg (by omega)] at h1
      have h3 : (wayK v ws j).getD j 0 = newW v ws j := by
        rw [h2]
        split
        · rfl
        · rw [newW_lt (by omega)]
      have h4 := newW_ge (ws := ws) hv (show v ≤ v + j by omega)
      have e2 : v + j - v = j := by omega
      rw [e2] at h4
      have h5 := hN (v + j) hb
      rw [List.getD, List.getElem?_set_self (by omega), Option.getD_some, h1, h3, ← h4]
      exact IntWalk.wrap64_in _ ⟨by omega, by omega⟩
    · rw [List.getD, List.getElem?_set_ne (by omega)]
      have h1 := ih' b hb
      rw [List.getD] at h1
      rw [h1]
      by_cases hc : v ≤ b ∧ b < v + j
      · rw [if_pos hc, if_pos (by omega)]
      · rw [if_neg hc, if_neg (by omega)]

/-- A bound on all ways behind i values. -/
def Mw : Nat → Int
  | 0 => 1
  | 1 => 1
  | i + 2 => (((1500 / (i + 2) : Nat) : Int) + 1) * Mw (i + 1)
theorem rise_ge {xs : List Int} (h : Rise xs xs.length) (i : Nat) (hi : i < xs.length) : (i : Int) + 1 ≤ xs.getD i 0 := by
  induction i with
  | zero => have := (rise_bounds h hi).1; simpa using this
  | succ i ih =>
    have h1 := h (i + 1) hi
    have h2 := ih (by omega)
    simp only [prevOf, Nat.succ_ne_zero, if_false, Nat.add_sub_cancel] at h1
    omega
theorem rise_mem {xs : List Int} (h : Rise xs xs.length) : ∀ v ∈ xs, 1 ≤ v := by
  intro v hv
  obtain ⟨i, hi, rfl⟩ := List.getElem_of_mem hv
  have := (rise_bounds h hi).1
  simpa [List.getD, hi] using this

theorem wayStart_get (most b : Nat) (hb : b ≤ most) : (wayStart most).getD b 0 = if b = 0 then 1 else 0 := by
  unfold wayStart
  by_cases h : b = 0
  · subst h; simp [List.getD]
  · rw [List.getD, List.getElem?_set_ne (by omega), if_neg h]
    simp only [List.getElem?_replicate]
    rw [if_pos (by omega)]; rfl

theorem first_newW (v most b : Nat) (hv : 1 ≤ v) (hb : b ≤ most) : newW v (wayStart most) b ≤ 1 := by
  induction b using Nat.strongRecOn with
  | ind b ih =>
    have h0 := wayStart_get most b hb
    by_cases hl : v ≤ b
    · rw [newW_ge hv hl, h0, if_neg (by omega)]
      have := ih (b - v) (by omega) (by omega)
      omega
    · rw [newW_lt (by omega), h0]; split <;> omega

theorem Mw_le (i : Nat) (hi : i ≤ 8) : Mw i ≤ 4611686018427387904 ∧ 1 ≤ Mw i := by
  have h : i = 0 ∨ i = 1 ∨ i = 2 ∨ i = 3 ∨ i = 4 ∨ i = 5 ∨ i = 6 ∨ i = 7 ∨ i = 8 := by omega
  rcases h with rfl | rfl | rfl | rfl | rfl | rfl | rfl | rfl | rfl <;> simp [Mw]

theorem way_inv (most : Nat) (hm : most ≤ 1500) (xs : List Int) (hr : Rise xs xs.length) (h8 : xs.length ≤ 8) (i : Nat) (hi : i ≤ xs.length) :
    ∀ b, b ≤ most → 0 ≤ (wayAll most (xs.take i)).getD b 0 ∧ (wayAll most (xs.take i)).getD b 0 ≤ Mw i ∧ (0 < (wayAll most (xs.take i)).getD b 0 ↔ ∃ k, Pays (xs.take i) b k) := by
  induction i with
  | zero =>
    intro b hb
    have h0 := wayStart_get most b hb
    have e : wayAll most (xs.take 0) = wayStart most := rfl
    rw [e, h0]
    by_cases hz : b = 0
    · subst hz
      rw [if_pos rfl]
      exact ⟨by omega, by simp [Mw], fun _ => ⟨0, .zero⟩, fun _ => by omega⟩
    · rw [if_neg hz]
      refine ⟨by omega, by simp [Mw], fun h => by omega, fun ⟨k, hk⟩ => ?_⟩
      rcases hk.pos with ⟨h, _⟩ | ⟨v, hv, _⟩
      · exact absurd h hz
      · simp at hv
  | succ i ih =>
    have ih' := ih (by omega)
    have hb1 := rise_bounds hr (by omega : i < xs.length)
    have hge := rise_ge hr i (by omega)
    obtain ⟨v, hv⟩ : ∃ v : Nat, xs.getD i 0 = (v : Int) := ⟨(xs.getD i 0).toNat, by omega⟩
    have hv1 : 1 ≤ v := by omega
    have hvi : i + 1 ≤ v := by omega
    have ht := wayAll_take most xs i (by omega)
    rw [ht, hv]
    have htk : xs.take (i + 1) = xs.take i ++ [(v : Int)] := by
      rw [List.take_succ_eq_append_getElem (by omega)]
      simp only [List.getD, List.getElem?_eq_getElem (show i < xs.length by omega), Option.getD_some] at hv
      rw [hv]
    obtain ⟨ws, hws⟩ : ∃ ws, wayAll most (xs.take i) = ws := ⟨_, rfl⟩
    rw [hws] at ih' ⊢
    have hlen : ws.length = most + 1 := by rw [← hws]; exact wayAll_length _ _
    have hMi := Mw_le i (by omega)
    have hMs := Mw_le (i + 1) (by omega)
    have hN : ∀ b, b ≤ most → 0 ≤ newW v ws b ∧ newW v ws b ≤ Mw (i + 1) := by
      intro b hb
      have h1 := newW_bound v most ws (Mw i) hv1 (fun b hb => ⟨(ih' b hb).1, (ih' b hb).2.1⟩) b hb
      refine ⟨h1.1, ?_⟩
      match i, hws, hMi, h1, hvi with
      | 0, hws, _, _, _ =>
        have e : ws = wayStart most := by rw [← hws]; rfl
        rw [e]
        have := first_newW v most b hv1 hb
        simp [Mw]; exact this
      | i + 1, _, hMi, h1, hvi =>
        have hd : b / v ≤ 1500 / (i + 2) := Nat.div_le_div (by omega) (by omega) (by omega)
        have hd2 : (((b / v : Nat) : Int) + 1) ≤ (((1500 / (i + 2) : Nat) : Int) + 1) := by omega
        have h2 := Int.mul_le_mul_of_nonneg_right hd2 (by omega : 0 ≤ Mw (i + 1))
        exact Int.le_trans h1.2 h2
    have hN2 : ∀ b, b ≤ most → 0 ≤ newW v ws b ∧ newW v ws b ≤ 4611686018427387904 := fun b hb => ⟨(hN b hb).1, Int.le_trans (hN b hb).2 hMs.1⟩
    have hget : ∀ b, b ≤ most → (wayV most ws (v : Int)).getD b 0 = newW v ws b := by
      intro b hb
      unfold wayV
      rw [Int.toNat_natCast, wayK_get v most ws hlen hv1 hN2 (most + 1 - v) (by omega) b hb]
      by_cases hc : v ≤ b
      · rw [if_pos (by omega)]
      · rw [if_neg (by omega), newW_lt (by omega)]
    have hpos : ∀ b, b ≤ most → (0 < newW v ws b ↔ ∃ k, Pays (xs.take i ++ [(v : Int)]) b k) := by
      intro b
      induction b using Nat.strongRecOn with
      | ind b ihb =>
        intro hb
        have hw := ih' b hb
        constructor
        · intro h
          by_cases hl : v ≤ b
          · rw [newW_ge hv1 hl] at h
            by_cases h0 : 0 < ws.getD b 0
            · obtain ⟨k, hk⟩ := hw.2.2.1 h0
              exact ⟨k, hk.mono (fun u hu => by simp [hu])⟩
            · have h1 : 0 < newW v ws (b - v) := by omega
              obtain ⟨k, hk⟩ := (ihb (b - v) (by omega) (by omega)).1 h1
              exact ⟨k + 1, Pays.add (v := (v : Int)) (by simp) (by simpa using hl) (by simpa using hk)⟩
          · rw [newW_lt (by omega)] at h
            obtain ⟨k, hk⟩ := hw.2.2.1 h
            exact ⟨k, hk.mono (fun u hu => by simp [hu])⟩
        · rintro ⟨k, hk⟩
          rcases hk.last with hk | ⟨k', rfl, hle, hk⟩
          · have h0 := hw.2.2.2 ⟨k, hk⟩
            by_cases hl : v ≤ b
            · rw [newW_ge hv1 hl]
              have := (hN2 (b - v) (by omega)).1
              omega
            · rw [newW_lt (by omega)]; exact h0
          · have hl : v ≤ b := by simpa using hle
            rw [newW_ge hv1 hl]
            have := (ihb (b - v) (by omega) (by omega)).2 ⟨k', by simpa using hk⟩
            have := hw.1
            omega
    intro b hb
    rw [hget b hb, htk]
    exact ⟨(hN b hb).1, (hN b hb).2, hpos b hb⟩

/-- There is a way just where the amount can be paid. -/
theorem ways_pos (most : Nat) (hm : most ≤ 1500) (xs : List Int) (hr : Rise xs xs.length) (h8 : xs.length ≤ 8) (b : Nat) (hb : b ≤ most) :
    (0 < (wayAll most xs).getD b 0 ↔ 0 ≤ fewV xs b) ∧ 0 ≤ (wayAll most xs).getD b 0 := by
  have h := way_inv most hm xs hr h8 xs.length (Nat.le_refl _) b hb
  rw [List.take_length] at h
  have f := fewV_few xs (rise_mem hr) b
  refine ⟨⟨fun h0 => ?_, fun h0 => ?_⟩, h.1⟩
  · obtain ⟨k, hk⟩ := h.2.2.1 h0
    rcases f with ⟨_, f⟩ | ⟨f, _⟩
    · exact absurd hk (f k)
    · exact f
  · rcases f with ⟨f, _⟩ | ⟨_, f, _⟩
    · omega
    · exact h.2.2.2 ⟨_, f⟩
end Go.Proofs.Ytmhjckbndhcbmaa
