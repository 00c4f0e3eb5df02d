/-
  What an offer makes less: plainly.
-/
import Derived.Test.YtkhemijanhcibaaVldI
import Derived.Test.YtkhemijanhcibaaIn
import Derived.Test.YtkhemijanhcibaaMn
namespace Go.Proofs.Ytkhemijanhcibaa
open Go Go.RowKit
set_option linter.unusedVariables false

/-- The least of 10000 and c numbers from f on. -/
def lst (L : List Int) (f c : Nat) : Int := (List.range c).foldl (fun m i => min m (L.getD (f + i) 0)) 10000
theorem lst_zero (L : List Int) (f : Nat) : lst L f 0 = 10000 := rfl
theorem lst_succ (L : List Int) (f c : Nat) : lst L f (c + 1) = min (lst L f c) (L.getD (f + c) 0) := by unfold lst; rw [List.range_succ, List.foldl_append]; rfl
theorem lst_mn (L : List Int) (f c : Nat) (h : L.getD f 0 ≤ 10000) : lst L f (c + 1) = mn L f (c + 1) := by
  induction c with
  | zero => rw [lst_succ, lst_zero, mn_one, Nat.add_zero]; omega
  | succ c ih => rw [lst_succ, ih, mn_succ _ _ (c + 1)]
/-- The sum of the least ones of the first g groups of e numbers. -/
def gsum (L : List Int) (e : Nat) : Nat → Int
  | 0 => 0
  | g + 1 => gsum L e g + mn L (g * e) e
theorem gsum_zero (L : List Int) (e : Nat) : gsum L e 0 = 0 := rfl
theorem gsum_succ (L : List Int) (e g : Nat) : gsum L e (g + 1) = gsum L e g + mn L (g * e) e := rfl
theorem lst_bound {L : List Int} (h : betw L 0 10000 L.length) {f c : Nat} (hc : f + c ≤ L.length) : 0 ≤ lst L f c ∧ lst L f c ≤ 10000 := by
  induction c with
  | zero => rw [lst_zero]; omega
  | succ c ih =>
    have h1 := ih (by omega)
    have h2 := h (f + c) (by omega)
    rw [lst_succ]; omega
theorem gsum_bound {L : List Int} (h : betw L 0 10000 L.length) {e g : Nat} (he : 1 ≤ e) (hg : g * e ≤ L.length) : 0 ≤ gsum L e g ∧ gsum L e g ≤ 10000 * g := by
  induction g with
  | zero => rw [gsum_zero]; omega
  | succ g ih =>
    rw [Nat.succ_mul] at hg
    have h1 := ih (by omega)
    have h2 : 0 ≤ mn L (g * e) e ∧ mn L (g * e) e ≤ 10000 := mn_bound (h _ (by omega)) (fun i hi => (h _ (by omega)).1)
    rw [gsum_succ]
    omega
def freeX (L : List Int) (e : Int) : Int := if betwB L 0 10000 = true ∧ inB e 2 8 = true ∧ L.length ≤ 100 then gsum L e.toNat (L.length / e.toNat) else 0
def freeC (L : List Int) (e : Int) : Int := if betwB L 0 10000 = true ∧ inB e 2 8 = true then (if L.length ≤ 100 then 0 else 3) else 2
theorem free_0 {L : List Int} {e : Int} (h1 : betwB L 0 10000 = true) (h2 : inB e 2 8 = true) (h3 : L.length ≤ 100) : freeX L e = gsum L e.toNat (L.length / e.toNat) ∧ freeC L e = 0 := ⟨if_pos ⟨h1, h2, h3⟩, by unfold freeC; rw [if_pos ⟨h1, h2⟩, if_pos h3]⟩
theorem free_3 {L : List Int} {e : Int} (h1 : betwB L 0 10000 = true) (h2 : inB e 2 8 = true) (h3 : ¬ L.length ≤ 100) : freeX L e = 0 ∧ freeC L e = 3 := ⟨if_neg (fun h => h3 h.2.2), by unfold freeC; rw [if_pos ⟨h1, h2⟩, if_neg h3]⟩
theorem free_2 {L : List Int} {e : Int} (h : ¬ (betwB L 0 10000 = true ∧ inB e 2 8 = true)) : freeX L e = 0 ∧ freeC L e = 2 := ⟨if_neg (fun q => h ⟨q.1, q.2.1⟩), if_neg h⟩
/-- A number q·e + c with c < e. -/
theorem div_at {e q c : Nat} (hc : c < e) : (q * e + c) / e = q := by
  rw [Nat.mul_comm, Nat.mul_add_div (by omega), Nat.div_eq_of_lt hc, Nat.add_zero]
theorem mod_at {e q c : Nat} (hc : c < e) : (q * e + c) % e = c := by
  rw [Nat.mul_comm, Nat.mul_add_mod, Nat.mod_eq_of_lt hc]
end Go.Proofs.Ytkhemijanhcibaa
