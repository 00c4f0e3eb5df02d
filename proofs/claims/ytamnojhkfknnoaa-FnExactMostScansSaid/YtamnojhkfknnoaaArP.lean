/-
  Hours as numbers whose bits they are; times of stations; what is reached by lanes: plain.
-/
import Derived.Test.YtamnojhkfknnoaaNtA
namespace Go.Proofs.Ytamnojhkfknnoaa
open Go Go.RowKit
set_option linter.unusedVariables false

/-- How many hours there is room for. -/
def room : Nat := 320
theorem room_is : room = 320 := rfl
theorem room_pos : 0 < 2 ^ room := Nat.two_pow_pos room
/-- One hour later, as far as there is room. -/
def lat (N : Nat) : Nat := (2 * N) % 2 ^ room
theorem lat_lt (N : Nat) : lat N < 2 ^ room := Nat.mod_lt _ (Nat.two_pow_pos _)
theorem lat_bit (N i : Nat) : (lat N).testBit i = (decide (i < 320) && (decide (1 ≤ i) && N.testBit (i - 1))) := by
  unfold lat
  rw [Nat.testBit_mod_two_pow, room_is]
  congr 1
  have h := Nat.testBit_two_pow_mul (i := 1) (a := N) (j := i)
  simpa using h
def latK (N : Nat) : Nat → Nat
  | 0 => N
  | k + 1 => lat (latK N k)
theorem latK_lt {N : Nat} (h : N < 2 ^ room) (k : Nat) : latK N k < 2 ^ room := by
  cases k with
  | zero => exact h
  | succ k => exact lat_lt _
theorem latK_bit {N : Nat} (hN : N < 2 ^ room) (k i : Nat) : (latK N k).testBit i = true ↔ i < 320 ∧ k ≤ i ∧ N.testBit (i - k) = true := by
  induction k generalizing i with
  | zero =>
    simp only [latK, Nat.sub_zero, Nat.zero_le, true_and]
    refine ⟨fun h => ⟨?_, h⟩, fun h => h.2⟩
    rcases Nat.lt_or_ge i 320 with h1 | h1
    · exact h1
    · rw [Nat.testBit_lt_two_pow (Nat.lt_of_lt_of_le hN (Nat.pow_le_pow_right (by omega) (by rw [room_is]; exact h1)))] at h
      cases h
  | succ k ih =>
    rw [latK, lat_bit]
    simp only [Bool.and_eq_true, decide_eq_true_eq, ih]
    constructor
    · rintro ⟨h1, h2, h3, h4, h5⟩
      exact ⟨h1, by omega, by rw [show i - (k + 1) = i - 1 - k by omega]; exact h5⟩
    · rintro ⟨h1, h2, h3⟩
      exact ⟨h1, by omega, by omega, by omega, by rw [show i - 1 - k = i - (k + 1) by omega]; exact h3⟩
/-- All hours of a set, moved by least and more, below k. -/
def mvK (N least : Nat) : Nat → Nat
  | 0 => 0
  | k + 1 => if least ≤ k then mvK N least k ||| latK N k else mvK N least k
theorem mvK_bit {N : Nat} (hN : N < 2 ^ room) (least k i : Nat) : (mvK N least k).testBit i = true ↔ ∃ j, least ≤ j ∧ j < k ∧ i < 320 ∧ j ≤ i ∧ N.testBit (i - j) = true := by
  induction k with
  | zero =>
    simp only [mvK, Nat.zero_testBit]
    exact ⟨fun h => (by cases h), fun ⟨j, _, h, _⟩ => (by omega)⟩
  | succ k ih =>
    rw [mvK]
    split
    · rename_i hl
      rw [Nat.testBit_or, Bool.or_eq_true, ih, latK_bit hN]
      constructor
      · rintro (⟨j, h1, h2, h3⟩ | h)
        · exact ⟨j, h1, by omega, h3⟩
        · exact ⟨k, hl, by omega, h⟩
      · rintro ⟨j, h1, h2, h3⟩
        by_cases e : j = k
        · subst e; exact .inr h3
        · exact .inl ⟨j, h1, by omega, h3⟩
    · rename_i hl
      rw [ih]
      constructor
      · rintro ⟨j, h1, h2, h3⟩
        exact ⟨j, h1, by omega, h3⟩
      · rintro ⟨j, h1, h2, h3⟩
        exact ⟨j, h1, by omega, h3⟩
theorem mvK_lt {N : Nat} (hN : N < 2 ^ room) (least k : Nat) : mvK N least k < 2 ^ room := by
  induction k with
  | zero => rw [mvK]; exact room_pos
  | succ k ih =>
    rw [mvK]
    split
    · exact Nat.or_lt_two_pow ih (latK_lt hN k)
    · exact ih
/-- Where nothing is left to move, nothing more comes. -/
theorem latK_zero {N k : Nat} (h : latK N k = 0) (m : Nat) : latK N (k + m) = 0 := by
  induction m with
  | zero => exact h
  | succ m ih => rw [show k + (m + 1) = (k + m) + 1 by omega, latK, ih]; simp [lat]
theorem mvK_stop {N least k : Nat} (h : latK N k = 0) (m : Nat) : mvK N least (k + m) = mvK N least k := by
  induction m with
  | zero => rfl
  | succ m ih =>
    rw [show k + (m + 1) = (k + m) + 1 by omega, mvK, latK_zero h m, ih]
    split <;> simp

/-- The words of hours. -/
def wd (N i : Nat) : Nat := (N / 2 ^ (64 * i)) % 2 ^ 64
theorem wd_lt (N i : Nat) : wd N i < 18446744073709551616 := Nat.mod_lt _ (Nat.two_pow_pos 64)
theorem wd_bit (N i j : Nat) : (wd N i).testBit j = (decide (j < 64) && N.testBit (64 * i + j)) := by
  unfold wd
  rw [Nat.testBit_mod_two_pow, Nat.testBit_div_two_pow, Nat.add_comm j]
theorem wd_or (N M i : Nat) : wd (N ||| M) i = wd N i ||| wd M i := by
  apply Nat.eq_of_testBit_eq
  intro j
  rw [Nat.testBit_or, wd_bit, wd_bit, wd_bit, Nat.testBit_or]
  cases decide (j < 64) <;> simp
theorem wd_and (N M i : Nat) : wd (N &&& M) i = wd N i &&& wd M i := by
  apply Nat.eq_of_testBit_eq
  intro j
  rw [Nat.testBit_and, wd_bit, wd_bit, wd_bit, Nat.testBit_and]
  cases decide (j < 64) <;> simp
theorem wd_zero (i : Nat) : wd 0 i = 0 := by simp [wd]
/-- Two numbers with the same words are the same. -/
theorem wd_ext {N M : Nat} (hN : N < 2 ^ room) (hM : M < 2 ^ room) (h : ∀ i, i < 5 → wd N i = wd M i) : N = M := by
  apply Nat.eq_of_testBit_eq
  intro j
  rcases Nat.lt_or_ge j 320 with h1 | h1
  · have h2 := congrArg (fun x => x.testBit (j % 64)) (h (j / 64) (by omega))
    simp only [wd_bit] at h2
    rw [show 64 * (j / 64) + j % 64 = j by omega] at h2
    simpa [show j % 64 < 64 by omega] using h2
  · rw [Nat.testBit_lt_two_pow (Nat.lt_of_lt_of_le hN (Nat.pow_le_pow_right (by omega) (by rw [room_is]; exact h1))), Nat.testBit_lt_two_pow (Nat.lt_of_lt_of_le hM (Nat.pow_le_pow_right (by omega) (by rw [room_is]; exact h1)))]
/-- The words of what is one later. -/
theorem wd_lat (N i : Nat) (hi : i < 5) : wd (lat N) i = ((wd N i * 2) % 18446744073709551616) ||| (if i = 0 then 0 else wd N (i - 1) / 9223372036854775808) := by
  apply Nat.eq_of_testBit_eq
  intro j
  have e1 : ((wd N i * 2) % 18446744073709551616).testBit j = (decide (j < 64) && (decide (1 ≤ j) && N.testBit (64 * i + (j - 1)))) := by
    rw [show (18446744073709551616 : Nat) = 2 ^ 64 by decide, Nat.testBit_mod_two_pow]
    have h := Nat.testBit_two_pow_mul (i := 1) (a := wd N i) (j := j)
    rw [Nat.mul_comm, show (2 : Nat) = 2 ^ 1 by decide, h, wd_bit]
    cases hj : decide (j < 64) with
    | false => rfl
    | true =>
      have h1 : j < 64 := of_decide_eq_true hj
      simp [show j - 1 < 64 by omega]
  have e2 : ∀ m, (wd N m / 9223372036854775808).testBit j = (decide (j = 0) && N.testBit (64 * m + 63)) := by
    intro m
    rw [show (9223372036854775808 : Nat) = 2 ^ 63 by decide, Nat.testBit_div_two_pow, wd_bit]
    by_cases hj : j = 0
    · subst hj; simp
    · simp [hj, show ¬ j + 63 < 64 by omega]
  rw [Nat.testBit_or, e1, wd_bit, lat_bit]
  by_cases h0 : i = 0
  · subst h0
    simp only [if_true, Nat.zero_testBit, Bool.or_false, Nat.mul_zero, Nat.zero_add]
    cases hj : decide (j < 64) with
    | false => rfl
    | true =>
      have h1 : j < 64 := of_decide_eq_true hj
      simp [show j < 320 by omega]
  · rw [if_neg h0, e2]
    by_cases hj0 : j = 0
    · subst hj0
      simp [show 64 * i < 320 by omega, show 1 ≤ 64 * i by omega, show 64 * i - 1 = 64 * (i - 1) + 63 by omega]
    · cases hj : decide (j < 64) with
      | false => simp [hj0]
      | true =>
        have h1 : j < 64 := of_decide_eq_true hj
        simp [hj0, show 64 * i + j < 320 by omega, show 1 ≤ 64 * i + j by omega, show 1 ≤ j by omega, show 64 * i + j - 1 = 64 * i + (j - 1) by omega]
/-- A bit, by the word in which it lies. -/
theorem wd_has (N h : Nat) : N.testBit h = (wd N (h / 64)).testBit (h % 64) := by
  rw [wd_bit, show 64 * (h / 64) + h % 64 = h by omega]
  simp [show h % 64 < 64 by omega]
end Go.Proofs.Ytamnojhkfknnoaa
