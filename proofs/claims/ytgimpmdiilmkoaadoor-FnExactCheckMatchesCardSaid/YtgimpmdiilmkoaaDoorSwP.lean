/-
  StillWith: plain: how many pieces of an item a buyer has got, and has sent back.
-/
import Derived.Test.YtgimpmdiilmkoaaDoorBkP
namespace Go.Proofs.YtgimpmdiilmkoaaDoor
open Go Go.RowKit
set_option linter.unusedVariables false

theorem ret_tw' {a b a' b' : Int} (h : a = a' ∧ b = b') : Ending.returned (.tuple #[.int .i64 a, .int .i64 b]) = .returned (.tuple #[.int .i64 a', .int .i64 b']) := by rw [h.1, h.2]
def pcs (b i n buyer item : Int) : Int := if b = buyer ∧ i = item then n else 0
theorem pcs_yes {b i n buyer item : Int} (h : b = buyer) (g : i = item) : pcs b i n buyer item = n := if_pos ⟨h, g⟩
theorem pcs_no {b i n buyer item : Int} (h : ¬ (b = buyer ∧ i = item)) : pcs b i n buyer item = 0 := if_neg h
theorem pcs_in {b i n buyer item : Int} (h : 1 ≤ n ∧ n ≤ 100) : 0 ≤ pcs b i n buyer item ∧ pcs b i n buyer item ≤ 100 := by
  unfold pcs; split <;> omega
def gotTo (ps : List Q5) (buyer item : Int) : Nat → Int
  | 0 => 0
  | k + 1 => gotTo ps buyer item k + pcs (ps.getD k (0, 0, 0, 0, 0)).1 (ps.getD k (0, 0, 0, 0, 0)).2.1 (ps.getD k (0, 0, 0, 0, 0)).2.2.1 buyer item
def backTo (rs : List Q4) (buyer item : Int) : Nat → Int
  | 0 => 0
  | k + 1 => backTo rs buyer item k + pcs (rs.getD k (0, 0, 0, 0)).1 (rs.getD k (0, 0, 0, 0)).2.1 (rs.getD k (0, 0, 0, 0)).2.2.1 buyer item
theorem gotTo_in {ps : List Q5} {buyer item : Int} {k : Nat} (h : OkOdTo ps k) : 0 ≤ gotTo ps buyer item k ∧ gotTo ps buyer item k ≤ 100 * k := by
  induction k with
  | zero => simp [gotTo]
  | succ k ih =>
    have h1 := ih (fun i hi => h i (by omega))
    have h2 := h k (by omega)
    unfold okOd at h2
    have h3 := pcs_in (b := (ps.getD k (0, 0, 0, 0, 0)).1) (i := (ps.getD k (0, 0, 0, 0, 0)).2.1) (buyer := buyer) (item := item) h2.2.2.1
    rw [gotTo]
    omega
theorem backTo_in {rs : List Q4} {buyer item : Int} {k : Nat} (h : OkRtTo rs k) : 0 ≤ backTo rs buyer item k ∧ backTo rs buyer item k ≤ 100 * k := by
  induction k with
  | zero => simp [backTo]
  | succ k ih =>
    have h1 := ih (fun i hi => h i (by omega))
    have h2 := h k (by omega)
    unfold okRt at h2
    have h3 := pcs_in (b := (rs.getD k (0, 0, 0, 0)).1) (i := (rs.getD k (0, 0, 0, 0)).2.1) (buyer := buyer) (item := item) h2.2.2.1
    rw [backTo]
    omega
theorem soldO_get {ps : List Q5} {k : Nat} (h : k < ps.length) : (ps.map soldO).getD k (0, 0, 0, 0, 0) = soldO (ps.getD k (0, 0, 0, 0, 0)) := by simp [List.getD, h]
/-- The greater of a number and 0. -/
def mx0 (n : Int) : Int := if n < 0 then 0 else n
theorem mx0_neg {n : Int} (h : n < 0) : mx0 n = 0 := if_pos h
theorem mx0_pos {n : Int} (h : ¬ n < 0) : mx0 n = n := if_neg h
def stillRes (ps : List Q5) (rs : List Q4) (buyer item : Int) : Int := if bkC ps rs (knownB buyer item) = 0 then mx0 (gotTo ps buyer item ps.length - backTo rs buyer item rs.length) else 0
end Go.Proofs.YtgimpmdiilmkoaaDoor
