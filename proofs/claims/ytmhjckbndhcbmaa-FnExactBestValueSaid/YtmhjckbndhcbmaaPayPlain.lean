/-
  Plain facts: what can be paid, with how many stamps; the fewest stamps; that ways are counted.
-/
import Derived.Test.YtmhjckbndhcbmaaWayPlain
namespace Go.Proofs.Ytmhjckbndhcbmaa
open Go Go.RowKit
set_option linter.unusedVariables false

/-- The amount a is paid by k stamps. -/
inductive Pays (xs : List Int) : Nat → Nat → Prop
  | zero : Pays xs 0 0
  | step (v : Int) (a k : Nat) (hv : v ∈ xs) (h : Pays xs a k) : Pays xs (a + v.toNat) (k + 1)

theorem Pays.pos {xs : List Int} {a k : Nat} (h : Pays xs a k) : a = 0 ∧ k = 0 ∨ ∃ v ∈ xs, ∃ k', v.toNat ≤ a ∧ k = k' + 1 ∧ Pays xs (a - v.toNat) k' := by
  cases h with
  | zero => exact .inl ⟨rfl, rfl⟩
  | step v a k hv h => exact .inr ⟨v, hv, k, by omega, rfl, by simpa using h⟩
theorem Pays.add {xs : List Int} {a k : Nat} {v : Int} (hv : v ∈ xs) (hle : v.toNat ≤ a) (h : Pays xs (a - v.toNat) k) : Pays xs a (k + 1) := by
  have h1 := Pays.step v _ _ hv h
  have e : a - v.toNat + v.toNat = a := by omega
  rwa [e] at h1
theorem Pays.mono {xs ys : List Int} (hs : ∀ v ∈ xs, v ∈ ys) {a k : Nat} (h : Pays xs a k) : Pays ys a k := by
  induction h with
  | zero => exact .zero
  | step v a k hv h ih => exact .step v a k (hs v hv) ih

/-- One more value: either it is not used, or it can be used first. -/
theorem Pays.last {xs : List Int} {v : Int} {a k : Nat} (h : Pays (xs ++ [v]) a k) : Pays xs a k ∨ ∃ k', k = k' + 1 ∧ v.toNat ≤ a ∧ Pays (xs ++ [v]) (a - v.toNat) k' := by
  induction h with
  | zero => exact .inl .zero
  | step u a k hu h ih =>
    rcases List.mem_append.1 hu with hu' | hu'
    · rcases ih with ih | ⟨k', rfl, hle, ih⟩
      · exact .inl (.step u a k hu' ih)
      · refine .inr ⟨k' + 1, rfl, by omega, ?_⟩
        have h1 := Pays.step u _ _ hu ih
        have e : a - v.toNat + u.toNat = a + u.toNat - v.toNat := by omega
        rwa [e] at h1
    · simp at hu'
      subst hu'
      exact .inr ⟨k, rfl, by omega, by simpa using h⟩

/-! ### The fewest stamps -/
def fewCand (tab : List Int) (a : Nat) (v : Int) : Option Int := if v.toNat ≤ a ∧ 0 ≤ tab.getD (a - v.toNat) 0 then some (tab.getD (a - v.toNat) 0 + 1) else none
def fewPick (tab : List Int) (a : Nat) (cur v : Int) : Int := match fewCand tab a v with | none => cur | some x => if cur < 0 ∨ x < cur then x else cur
def fewAt (xs tab : List Int) (a : Nat) : Int := if a = 0 then 0 else xs.foldl (fewPick tab a) (-1)
def fewTab (xs : List Int) : Nat → List Int
  | 0 => []
  | n + 1 => fewTab xs n ++ [fewAt xs (fewTab xs n) n]
def fewV (xs : List Int) (a : Nat) : Int := fewAt xs (fewTab xs a) a
theorem fewTab_length (xs : List Int) (n : Nat) : (fewTab xs n).length = n := by
  induction n with
  | zero => rfl
  | succ n ih => simp [fewTab, ih]
theorem fewTab_get (xs : List Int) (n a : Nat) (h : a < n) : (fewTab xs n).getD a 0 = fewV xs a := by
  induction n with
  | zero => omega
  | succ n ih =>
    rw [fewTab]
    by_cases e : a = n
    · subst e
      simp [List.getD, fewTab_length, fewV]
    · rw [List.getD, List.getElem?_append_left (by rw [fewTab_length]; omega)]
      exact ih (by omega)
theorem fewCand_pos {tab : List Int} {a : Nat} {v x : Int} (h : fewCand tab a v = some x) : v.toNat ≤ a ∧ 0 ≤ tab.getD (a - v.toNat) 0 ∧ x = tab.getD (a - v.toNat) 0 + 1 := by
  unfold fewCand at h
  split at h
  · rename_i hc; simp at h; exact ⟨hc.1, hc.2, h.symm⟩
  · cases h
theorem few_fold (tab : List Int) (a : Nat) (L : List Int) (c : Int) :
    (L.foldl (fewPick tab a) c = c ∨ ∃ v ∈ L, fewCand tab a v = some (L.foldl (fewPick tab a) c)) ∧
    (0 ≤ c → 0 ≤ L.foldl (fewPick tab a) c ∧ L.foldl (fewPick tab a) c ≤ c) ∧
    (∀ v ∈ L, ∀ x, fewCand tab a v = some x → 0 ≤ L.foldl (fewPick tab a) c ∧ L.foldl (fewPick tab a) c ≤ x) := by
  induction L generalizing c with
  | nil => exact ⟨.inl rfl, fun h => ⟨h, Int.le_refl _⟩, fun v hv => by cases hv⟩
  | cons u L ih =>
    rw [List.foldl_cons]
    obtain ⟨i1, i2, i3⟩ := ih (fewPick tab a c u)
    have hp : (fewPick tab a c u = c ∧ ∀ x, fewCand tab a u = some x → 0 ≤ c ∧ c ≤ x) ∨ (fewCand tab a u = some (fewPick tab a c u) ∧ (0 ≤ c → fewPick tab a c u ≤ c) ∧ 0 ≤ fewPick tab a c u) := by
      unfold fewPick
      cases hc : fewCand tab a u with
      | none => exact .inl ⟨rfl, fun x hx => by cases hx⟩
      | some x =>
        have hx := fewCand_pos hc
        by_cases hlt : c < 0 ∨ x < c
        · simp only [hlt, if_true]
          exact .inr ⟨trivial, fun h0 => by omega, by omega⟩
        · simp only [hlt, if_false]
          exact .inl ⟨trivial, fun y hy => by simp at hy; omega⟩
    refine ⟨?_, ?_, ?_⟩
    · rcases i1 with e | ⟨v, hv, e⟩
      · rcases hp with ⟨hp, _⟩ | ⟨hp, _⟩
        · exact .inl (e.trans hp)
        · exact .inr ⟨u, by simp, by rw [e]; exact hp⟩
      · exact .inr ⟨v, by simp [hv], e⟩
    · intro h0
      rcases hp with ⟨hp, _⟩ | ⟨hp, hp1, hp2⟩
      · rw [hp] at i2 ⊢; exact i2 h0
      · have := i2 hp2; have := hp1 h0; omega
    · intro v hv x hx
      rcases List.mem_cons.1 hv with rfl | hv
      · rcases hp with ⟨hp, hp1⟩ | ⟨hp, hp1, hp2⟩
        · have h1 := hp1 x hx
          have h2 := i2 (by rw [hp]; exact h1.1)
          rw [hp] at h2 ⊢
          omega
        · rw [hp] at hx
          have h2 := i2 hp2
          simp at hx
          omega
      · exact i3 v hv x hx

/-- What it is to be the fewest stamps for a, or -1. -/
def Few (xs : List Int) (a : Nat) (r : Int) : Prop := (r = -1 ∧ ∀ k, ¬ Pays xs a k) ∨ (0 ≤ r ∧ Pays xs a r.toNat ∧ ∀ k, Pays xs a k → r ≤ k)
theorem Few.unique {xs : List Int} {a : Nat} {r s : Int} (h : Few xs a r) (g : Few xs a s) : r = s := by
  rcases h with ⟨h1, h2⟩ | ⟨h1, h2, h3⟩ <;> rcases g with ⟨g1, g2⟩ | ⟨g1, g2, g3⟩
  · omega
  · exact absurd g2 (h2 _)
  · exact absurd h2 (g2 _)
  · have := h3 _ g2; have := g3 _ h2; omega
theorem fewV_few (xs : List Int) (hx : ∀ v ∈ xs, 1 ≤ v) (a : Nat) : Few xs a (fewV xs a) := by
  induction a using Nat.strongRecOn with
  | ind a ih =>
    by_cases h0 : a = 0
    · subst h0
      exact .inr ⟨by simp [fewV, fewAt], by simpa [fewV, fewAt] using Pays.zero, fun k hk => by simp [fewV, fewAt]⟩
    · have hf := few_fold (fewTab xs a) a xs (-1)
      have e : fewV xs a = xs.foldl (fewPick (fewTab xs a) a) (-1) := by simp [fewV, fewAt, h0]
      rw [e]
      obtain ⟨f1, _, f3⟩ := hf
      rcases f1 with f1 | ⟨v, hv, f1⟩
      · refine .inl ⟨f1, fun k hk => ?_⟩
        rcases hk.pos with ⟨h, _⟩ | ⟨v, hv, k', hle, rfl, hk'⟩
        · exact h0 h
        · have hv1 := hx v hv
          have hi := ih (a - v.toNat) (by omega)
          rcases hi with ⟨hi, hi2⟩ | ⟨hi, hi2, hi3⟩
          · exact hi2 _ hk'
          · have hg := fewTab_get xs a (a - v.toNat) (by omega)
            have hc : fewCand (fewTab xs a) a v = some (fewV xs (a - v.toNat) + 1) := by
              unfold fewCand; rw [hg, if_pos ⟨hle, hi⟩]
            have := f3 v hv _ hc
            omega
      · have hc := fewCand_pos f1
        have hv1 := hx v hv
        have hg := fewTab_get xs a (a - v.toNat) (by omega)
        rw [hg] at hc
        have hi := ih (a - v.toNat) (by omega)
        rcases hi with ⟨hi, hi2⟩ | ⟨hi, hi2, hi3⟩
        · omega
        · refine .inr ⟨by omega, ?_, fun k hk => ?_⟩
          · have h1 := hi2.add hv hc.1
            have e2 : (fewV xs (a - v.toNat)).toNat + 1 = (xs.foldl (fewPick (fewTab xs a) a) (-1)).toNat := by omega
            rwa [e2] at h1
          · rcases hk.pos with ⟨h, _⟩ | ⟨u, hu, k', hle, rfl, hk'⟩
            · omega
            · have hu1 := hx u hu
              have hj := ih (a - u.toNat) (by omega)
              rcases hj with ⟨hj, hj2⟩ | ⟨hj, hj2, hj3⟩
              · exact absurd hk' (hj2 _)
              · have hg2 := fewTab_get xs a (a - u.toNat) (by omega)
                have hc2 : fewCand (fewTab xs a) a u = some (fewV xs (a - u.toNat) + 1) := by
                  unfold fewCand; rw [hg2, if_pos ⟨hle, hj⟩]
                have := f3 u hu _ hc2
                have := hj3 _ hk'
                omega
end Go.Proofs.Ytmhjckbndhcbmaa
