/-
  A bound of all prices: plainly.
-/
import Derived.Test.YtkhemijanhcibaaDoorSums
import Derived.Test.YtkhemijanhcibaaDoorDearP
import Derived.Test.YtkhemijanhcibaaDoorMn
namespace Go.Proofs.YtkhemijanhcibaaDoor
open Go Go.RowKit
set_option linter.unusedVariables false

def few (S ws : List Int) : Int := (sumL ws + lastS S - 1) / lastS S
def rowZ (R : List (List Int)) (z : Int) : List Int := R.getD z.toNat []
def mq (S : List Int) (R : List (List Int)) (z n : Int) : Int := mn (rowZ R z) (stp S n) (S.length - stp S n)
def bst (S : List Int) (R : List (List Int)) (z : Int) (ws : List Int) (q : Nat) : Int := (List.range q).foldl (fun b i => max b (mq S R z (ws.getD i 0))) 0
theorem bst_zero (S : List Int) (R : List (List Int)) (z : Int) (ws : List Int) : bst S R z ws 0 = 0 := rfl
theorem bst_succ (S : List Int) (R : List (List Int)) (z : Int) (ws : List Int) (q : Nat) : bst S R z ws (q + 1) = max (bst S R z ws q) (mq S R z (ws.getD q 0)) := by unfold bst; rw [List.range_succ, List.foldl_append]; rfl
def lo (S : List Int) (R : List (List Int)) (z : Int) : Int := mn (rowZ R z) 0 S.length
def pbV (S : List Int) (R : List (List Int)) (z : Int) (ws : List Int) : Int := max (bst S R z ws ws.length) (few S ws * lo S R z)
def pbX (S : List Int) (R : List (List Int)) (z : Int) (ws : List Int) : Int := if alone S R z ws = 0 then pbV S R z ws else 0
theorem pbX_0 {S : List Int} {R : List (List Int)} {z : Int} {ws : List Int} (h : alone S R z ws = 0) : pbX S R z ws = pbV S R z ws := if_pos h
theorem pbX_c {S : List Int} {R : List (List Int)} {z : Int} {ws : List Int} (h : alone S R z ws ≠ 0) : pbX S R z ws = 0 := if_neg h
theorem rowZ_betw {S : List Int} {R : List (List Int)} {z : Int} (hv : vldT S R = true) (hz : inB z 0 (R.length - 1) = true) : (rowZ R z).length = S.length ∧ ∀ i, i < S.length → 0 ≤ (rowZ R z).getD i 0 ∧ (rowZ R z).getD i 0 ≤ 10000 := by
  have hzb := inB_spec hz
  obtain ⟨_, _, _, hrs⟩ := vldT_spec hv
  obtain ⟨hl, hb⟩ := hrs z.toNat (by omega)
  exact ⟨hl, fun i hi => hb i (by rw [hl]; exact hi)⟩
theorem mq_bound {S : List Int} {R : List (List Int)} {z n : Int} (hv : vldT S R = true) (hz : inB z 0 (R.length - 1) = true) (hs : stp S n < S.length) : 0 ≤ mq S R z n ∧ mq S R z n ≤ 10000 := by
  have h := (rowZ_betw hv hz).2
  exact mn_bound (h _ hs) (fun i hi => (h _ (by omega)).1)
theorem lo_bound {S : List Int} {R : List (List Int)} {z : Int} (hv : vldT S R = true) (hz : inB z 0 (R.length - 1) = true) : 0 ≤ lo S R z ∧ lo S R z ≤ 10000 := by
  have h := (rowZ_betw hv hz).2
  have h1 := (vldS_spec (vldT_spec hv).1).1
  exact mn_bound (h _ (by omega)) (fun i hi => (h _ (by omega)).1)
theorem bst_bound {S : List Int} {R : List (List Int)} {z : Int} {ws : List Int} {q : Nat} (hv : vldT S R = true) (hz : inB z 0 (R.length - 1) = true) (h : allS S ws q) : 0 ≤ bst S R z ws q ∧ bst S R z ws q ≤ 10000 := by
  induction q with
  | zero => rw [bst_zero]; omega
  | succ q ih =>
    have h1 := ih (fun i hi => h i (by omega))
    have h2 := mq_bound (z := z) hv hz (h q (by omega))
    rw [bst_succ]; omega
theorem sum_bd {ws : List Int} (hn : ws.length ≤ 8) (hb : betwB ws 1 2000 = true) : 0 ≤ sumL ws ∧ sumL ws ≤ 16000 := by
  have h := sumL_bound (xs := ws) (hi := 2000) (k := ws.length) (Nat.le_refl _) (betw_mono (betwB_spec hb) (by omega) (by omega))
  rw [List.take_of_length_le (Nat.le_refl _)] at h
  omega
theorem few_bound {S ws : List Int} (h : vldS S = true) (hn : ws.length ≤ 8) (hb : betwB ws 1 2000 = true) : 0 ≤ few S ws ∧ few S ws ≤ 18000 := by
  have h1 := lastS_bound h
  have h2 := sum_bd hn hb
  unfold few
  have h3 : 0 ≤ sumL ws + lastS S - 1 := by omega
  have h4 := Int.ediv_nonneg h3 (show 0 ≤ lastS S by omega)
  have h5 := Int.ediv_le_self (lastS S) h3
  omega
theorem prod_bound {a b : Int} (h1 : 0 ≤ a) (h2 : a ≤ 18000) (h3 : 0 ≤ b) (h4 : b ≤ 10000) : 0 ≤ a * b ∧ a * b ≤ 180000000 := by
  have := Int.mul_nonneg h1 h3
  have := Int.mul_le_mul h2 h4 h3 (by omega : (0 : Int) ≤ 18000)
  omega
theorem pbV_nil (S : List Int) (R : List (List Int)) (z : Int) (h : 1 ≤ lastS S) : few S [] = 0 ∧ pbV S R z [] = 0 := by
  have e : few S [] = 0 := by
    unfold few
    rw [show sumL [] = 0 from rfl, Int.zero_add]
    exact Int.ediv_eq_zero_of_lt (by omega) (by omega)
  refine ⟨e, ?_⟩
  unfold pbV
  rw [e, Int.zero_mul, List.length_nil, bst_zero]
  rfl

/-- Where the steps and a row of a valid table lie. -/
theorem AtT.row {w : World} {B : Nat} {S : List Int} {R : List (List Int)} (h : AtT w B S R) (hv : vldT S R = true) {z : Nat} (hz : z < R.length) :
    ∃ g cap gb c2 gr cr, w.cell? ⟨B, 0, none⟩ = some (.slice (some ⟨g, 0, none⟩) S.length cap) ∧ w.cell? ⟨B, 1, none⟩ = some (.slice (some ⟨gb, 0, none⟩) R.length c2) ∧ CellsH w g S ∧ w.cell? ⟨gb, z, none⟩ = some (.slice (some ⟨gr, 0, none⟩) S.length cr) ∧
      ∀ q, q < S.length → w.cell? ⟨gr, q, none⟩ = some (.int .i16 ((rowZ R z).getD q 0)) := by
  obtain ⟨a, cap, b, c2, c0, c1, hS, hR⟩ := h.cells
  obtain ⟨h1, _, _, hrs⟩ := vldT_spec hv
  have hs1 := (vldS_spec h1).1
  obtain ⟨hl, _⟩ := hrs z hz
  obtain ⟨g, rfl, hcs⟩ := hS (by intro e; rw [e] at hs1; simp at hs1)
  obtain ⟨gb, rfl, hcr⟩ := hR (by intro e; rw [e] at hz; simp at hz)
  obtain ⟨u, d0, ⟨ar, cr, rfl, hra⟩⟩ := hcr z hz
  obtain ⟨gr, rfl, hc⟩ := hra (by intro e; rw [e] at hl; simp at hl; omega)
  rw [hl] at d0
  exact ⟨g, cap, gb, c2, gr, cr, c0, c1, hcs, d0, fun q hq => hc q (by omega)⟩
end Go.Proofs.YtkhemijanhcibaaDoor
