/-
  Where and when a parcel can arrive: plain.
-/
import Derived.Test.YtamnojhkfknnoaaNtA
namespace Go.Proofs.Ytamnojhkfknnoaa
open Go Go.RowKit
set_option linter.unusedVariables false

abbrev zl : Lan := (0, 0, 0, 0)
/-- A lane that does not touch a station. -/
def pas (wo : Int) (l : Lan) : Prop := l.1 ≠ wo ∧ l.2.1 ≠ wo
/-- A parcel can be at a station at an hour by k lanes. -/
def srcK (L : List Lan) (wo : Int) (sy s0 h0 : Nat) : Nat → Nat → Nat → Prop
  | 0, s, h => s = s0 ∧ h = h0
  | k + 1, s, h => ∃ i, i < L.length ∧ pas wo (L.getD i zl) ∧ (L.getD i zl).2.1.toNat = s ∧ ∃ d, (L.getD i zl).2.2.1.toNat ≤ d ∧ d ≤ (L.getD i zl).2.2.2.toNat + sy ∧ d ≤ h ∧ srcK L wo sy s0 h0 k (L.getD i zl).1.toNat (h - d)
def Src (L : List Lan) (wo : Int) (sy s0 h0 s h : Nat) : Prop := ∃ k, srcK L wo sy s0 h0 k s h
def Arr (L : List Lan) (wo : Int) (sy s0 h0 s h : Nat) : Prop := ∃ k, srcK L wo sy s0 h0 (k + 1) s h
theorem src_iff {L : List Lan} {wo : Int} {sy s0 h0 s h : Nat} : Src L wo sy s0 h0 s h ↔ (s = s0 ∧ h = h0) ∨ Arr L wo sy s0 h0 s h := by
  constructor
  · rintro ⟨k, hk⟩
    cases k with
    | zero => exact .inl hk
    | succ k => exact .inr ⟨k, hk⟩
  · rintro (h | ⟨k, hk⟩)
    · exact ⟨0, h⟩
    · exact ⟨k + 1, hk⟩
theorem arr_iff {L : List Lan} {wo : Int} {sy s0 h0 s h : Nat} : Arr L wo sy s0 h0 s h ↔ ∃ i, i < L.length ∧ pas wo (L.getD i zl) ∧ (L.getD i zl).2.1.toNat = s ∧ ∃ d, (L.getD i zl).2.2.1.toNat ≤ d ∧ d ≤ (L.getD i zl).2.2.2.toNat + sy ∧ d ≤ h ∧ Src L wo sy s0 h0 (L.getD i zl).1.toNat (h - d) := by
  constructor
  · rintro ⟨k, i, h1, h2, h3, d, h4, h5, h6, h7⟩
    exact ⟨i, h1, h2, h3, d, h4, h5, h6, k, h7⟩
  · rintro ⟨i, h1, h2, h3, d, h4, h5, h6, k, h7⟩
    exact ⟨k, i, h1, h2, h3, d, h4, h5, h6, h7⟩
theorem srcK_after {L : List Lan} {wo : Int} {sy s0 h0 k s h : Nat} (hs : srcK L wo sy s0 h0 k s h) : h0 ≤ h := by
  induction k generalizing s h with
  | zero => have := hs.2; omega
  | succ k ih =>
    obtain ⟨i, _, _, _, d, _, _, h6, h7⟩ := hs
    have := ih h7
    omega
theorem Src.after {L : List Lan} {wo : Int} {sy s0 h0 s h : Nat} (hs : Src L wo sy s0 h0 s h) : h0 ≤ h := by
  obtain ⟨k, hk⟩ := hs
  exact srcK_after hk
/-- What the model has marked when the hours below H are over, and at H the first i lanes. -/
def Qm (L : List Lan) (wo : Int) (sy s0 h0 H i s h : Nat) : Prop :=
  ∃ j, j < L.length ∧ pas wo (L.getD j zl) ∧ (L.getD j zl).2.1.toNat = s ∧ ∃ d, (L.getD j zl).2.2.1.toNat ≤ d ∧ d ≤ (L.getD j zl).2.2.2.toNat + sy ∧ d ≤ h ∧ Src L wo sy s0 h0 (L.getD j zl).1.toNat (h - d) ∧ (h - d < H ∨ (h - d = H ∧ j < i))
theorem Qm_start {L : List Lan} {wo : Int} {sy s0 h0 s h : Nat} : ¬ Qm L wo sy s0 h0 h0 0 s h := by
  rintro ⟨j, _, _, _, d, _, _, _, h7, h8⟩
  have := h7.after
  omega
theorem Qm_next {L : List Lan} {wo : Int} {sy s0 h0 H s h : Nat} : Qm L wo sy s0 h0 H L.length s h ↔ Qm L wo sy s0 h0 (H + 1) 0 s h := by
  constructor
  · rintro ⟨j, h1, h2, h3, d, h4, h5, h6, h7, h8⟩
    exact ⟨j, h1, h2, h3, d, h4, h5, h6, h7, by omega⟩
  · rintro ⟨j, h1, h2, h3, d, h4, h5, h6, h7, h8⟩
    exact ⟨j, h1, h2, h3, d, h4, h5, h6, h7, by omega⟩
theorem Qm_end {L : List Lan} {wo : Int} {sy s0 h0 s h : Nat} (hh : h ≤ 300) : Qm L wo sy s0 h0 301 0 s h ↔ Arr L wo sy s0 h0 s h := by
  rw [arr_iff]
  constructor
  · rintro ⟨j, h1, h2, h3, d, h4, h5, h6, h7, h8⟩
    exact ⟨j, h1, h2, h3, d, h4, h5, h6, h7⟩
  · rintro ⟨j, h1, h2, h3, d, h4, h5, h6, h7⟩
    exact ⟨j, h1, h2, h3, d, h4, h5, h6, h7, by omega⟩
/-- Lanes take an hour at least. -/
def Slow (L : List Lan) : Prop := ∀ i, i < L.length → 1 ≤ (L.getD i zl).2.2.1.toNat
theorem Qm_now {L : List Lan} (hL : Slow L) {wo : Int} {sy s0 h0 H i s : Nat} : Qm L wo sy s0 h0 H i s H ↔ Arr L wo sy s0 h0 s H := by
  rw [arr_iff]
  constructor
  · rintro ⟨j, h1, h2, h3, d, h4, h5, h6, h7, h8⟩
    exact ⟨j, h1, h2, h3, d, h4, h5, h6, h7⟩
  · rintro ⟨j, h1, h2, h3, d, h4, h5, h6, h7⟩
    have := hL j h1
    exact ⟨j, h1, h2, h3, d, h4, h5, h6, h7, .inl (by omega)⟩
theorem Qm_yes {L : List Lan} {wo : Int} {sy s0 h0 H i s h : Nat} (hi : i < L.length) (hp : pas wo (L.getD i zl)) (hs : Src L wo sy s0 h0 (L.getD i zl).1.toNat H) :
    Qm L wo sy s0 h0 H (i + 1) s h ↔ Qm L wo sy s0 h0 H i s h ∨ (s = (L.getD i zl).2.1.toNat ∧ H + (L.getD i zl).2.2.1.toNat ≤ h ∧ h ≤ H + ((L.getD i zl).2.2.2.toNat + sy)) := by
  constructor
  · rintro ⟨j, h1, h2, h3, d, h4, h5, h6, h7, h8⟩
    by_cases e : h - d = H ∧ j = i
    · obtain ⟨e1, e2⟩ := e
      subst e2
      exact .inr ⟨h3.symm, by omega, by omega⟩
    · exact .inl ⟨j, h1, h2, h3, d, h4, h5, h6, h7, by omega⟩
  · rintro (⟨j, h1, h2, h3, d, h4, h5, h6, h7, h8⟩ | ⟨h1, h2, h3⟩)
    · exact ⟨j, h1, h2, h3, d, h4, h5, h6, h7, by omega⟩
    · exact ⟨i, hi, hp, h1.symm, h - H, by omega, by omega, by omega, by rw [show h - (h - H) = H by omega]; exact hs, by omega⟩
theorem Qm_no {L : List Lan} {wo : Int} {sy s0 h0 H i s h : Nat} (hn : ¬ (pas wo (L.getD i zl) ∧ Src L wo sy s0 h0 (L.getD i zl).1.toNat H)) :
    Qm L wo sy s0 h0 H (i + 1) s h ↔ Qm L wo sy s0 h0 H i s h := by
  constructor
  · rintro ⟨j, h1, h2, h3, d, h4, h5, h6, h7, h8⟩
    by_cases e : h - d = H ∧ j = i
    · obtain ⟨e1, e2⟩ := e
      subst e2
      rw [e1] at h7
      exact absurd ⟨h2, h7⟩ hn
    · exact ⟨j, h1, h2, h3, d, h4, h5, h6, h7, by omega⟩
  · rintro ⟨j, h1, h2, h3, d, h4, h5, h6, h7, h8⟩
    exact ⟨j, h1, h2, h3, d, h4, h5, h6, h7, by omega⟩
theorem slow_of {st sy : Int} {L : List Lan} (h : okNet st sy L) : Slow L := fun i hi => by
  have := h.2.2.2 i hi
  unfold okLa at this
  show 1 ≤ (L.getD i (0, 0, 0, 0)).2.2.1.toNat
  omega
end Go.Proofs.Ytamnojhkfknnoaa
