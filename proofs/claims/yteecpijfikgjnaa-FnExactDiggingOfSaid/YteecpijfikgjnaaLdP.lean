/-
  The load by which nothing is lifted: the plain list; the model's LoadFor.
-/
import Derived.Test.YteecpijfikgjnaaPkT
namespace Go.Proofs.Yteecpijfikgjnaa
open Go Go.RowKit
set_option linter.unusedVariables false

/-- What is told for the stop s by the parcels r - 1 down to 0. -/
def ldT (ps : List (Int × Int)) (s : Int) : Nat → List Int
  | 0 => []
  | r + 1 => (if (ps.getD r (0, 0)).1 = s then [(r : Int)] else []) ++ ldT ps s r
/-- What is told for the stops m - 1 down to 0. -/
def ldU (ps : List (Int × Int)) : Nat → List Int
  | 0 => []
  | m + 1 => ldT ps (m : Int) ps.length ++ ldU ps m
def loadR (ps : List (Int × Int)) : List Int := if vldQ ps = true then ldU ps 9 else []
theorem ldT_len (ps : List (Int × Int)) (s : Int) (r : Nat) : (ldT ps s r).length ≤ r := by
  induction r with
  | zero => simp [ldT]
  | succ r ih =>
    rw [ldT, List.length_append]
    have h3 : (if (ps.getD r (0, 0)).1 = s then [(r : Int)] else [] : List Int).length ≤ 1 := by split <;> simp
    omega
theorem ldU_len (ps : List (Int × Int)) (m : Nat) : (ldU ps m).length ≤ m * ps.length := by
  induction m with
  | zero => simp [ldU]
  | succ m ih =>
    rw [ldU, List.length_append, Nat.succ_mul]
    have := ldT_len ps (m : Int) ps.length
    omega
theorem loadR_len (ps : List (Int × Int)) : (loadR ps).length ≤ 90 := by
  unfold loadR
  split
  · rename_i h
    have h1 := (vldQ_spec h).1
    have h2 := ldU_len ps 9
    omega
  · simp

/-- 0, 1, .. n - 1. -/
def upK (n : Nat) : List Int := (List.range n).map Int.ofNat
theorem upK_len (n : Nat) : (upK n).length = n := by simp [upK]
theorem upK_get (n k : Nat) (h : k < n) : (upK n).getD k 0 = (k : Int) := by simp [upK, List.getD, h]

set_option maxHeartbeats 1000000 in
set_option maxRecDepth 100000 in
/-- The program's indices of parcels. -/
theorem iidx_any (a : Option Addr) (len cap : Nat) (h10 : len ≤ 10) (w : World) :
    Calls Try.prog 37 #[.slice a len cap] w fun e w' => e = .returned (.slice (some ⟨w.heap.size, 0, none⟩) len len) ∧ OwnI w.heap.size w' (.slice (some ⟨w.heap.size, 0, none⟩) len len) (upK len) ∧ Below w.heap.size w w' := by
  obtain ⟨i0, hi, hz0, hz1, hz2⟩ := info_parts info_i64
  obtain ⟨xs, hxs⟩ : ∃ xs, upK len = xs := ⟨_, rfl⟩
  have hl : xs.length = len := by rw [← hxs]; exact upK_len len
  have HG : Hid (∀ k, k < len → xs.getD k 0 = (k : Int)) := Lib.hid (fun k hk => by rw [← hxs]; exact upK_get len k hk)
  rw [hxs]
  subst hl
  clear hxs
  go_enter Try.func37, Try.ntmps37
  go_wp2_with (refine wpList_make_full _ rfl _ _ 23 rfl w.heap.size 2 i0 (.int .i64 0) 1 Try.underlying23 hi hz0 hz1 .i64 .i64 _ _ xs.length rfl rfl rfl rfl (by rw [hz2]; omega) (by unfold maxLen; omega) (Nat.le_refl _) ?_; intro w1 hown1 hg1)
  have hs1 : w.heap.size < w1.heap.size := (hown1.lt w.heap.size rfl).2
  go_loopw [10] (fun i wr => ∃ k : Nat, k ≤ xs.length ∧ i = .int .i64 k ∧ wr.ownsRow w.heap.size 2 1 (.slice (some ⟨w.heap.size, 0, none⟩) xs.length xs.length) xs.length ((copied xs k).map (Value.int .i64)) ∧ Below w.heap.size w wr) (fun i _ => xs.length - (intOf i).toNat)
  case atStart =>
    refine ⟨0, Nat.zero_le _, rfl, ?_, (Below.refl _ _).grown hg1 (Nat.le_refl _) (fun k hk => by simp at hk)⟩
    rw [copied_zero, List.map_replicate]
    have e : (madeCells (Value.int .i64 0).cells (xs.length * 1)).toList = List.replicate xs.length (.int .i64 0) := by rw [Nat.mul_one]; exact toList_madeCells_one _ _
    rw [← e]
    exact hown1
  case round =>
    obtain ⟨k, hk, rfl, hown, hnx⟩ := hrel
    by_cases hlt : k < xs.length
    · have hco : wr.cell? ⟨w.heap.size, k, none⟩ = some (.int .i64 ((copied xs k).getD k 0)) := by
        rw [hown.cellAt k (by omega)]
        have := copied_length xs k hk
        simp [List.getD, this, hlt]
      have hfo : wr.frozen? ⟨w.heap.size, k, none⟩ = false := hown.frozenAt k
      have S := hown.stored k (.int .i64 (xs.getD k 0))
      rw [copied_map_set xs k hlt, HG.out k hlt] at S
      have HS := Lib.hid S
      have HB := Lib.hid hnx
      have hki : (k : Int) < (xs.length : Int) := by omega
      clear S hown hown1 hnx
      go_wp2
      go_roundw
      case rel => exact ⟨k + 1, by omega, by go_num, HS.out.1, HB.out.setCell (Nat.le_refl _) _⟩
      case measure => simp [intOf]; omega
    · have HB := Lib.hid hnx
      have hk' : k = xs.length := by omega
      have HO : Hid (wr.ownsRow w.heap.size 2 1 (.slice (some ⟨w.heap.size, 0, none⟩) xs.length xs.length) xs.length (xs.map (Value.int .i64))) := Lib.hid (by rw [hk', copied_all] at hown; exact hown)
      clear hown hnx hown1 hk'
      go_wp2
      go_ret
      exact ⟨rfl, HO.out, HB.out⟩
end Go.Proofs.Yteecpijfikgjnaa
