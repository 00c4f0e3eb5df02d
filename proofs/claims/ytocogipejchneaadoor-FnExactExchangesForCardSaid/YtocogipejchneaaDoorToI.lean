/-
  Contracts of the laws' own helpers over []int64 that mark a row and look whether it is still marked.
-/
import Derived.Test.YtocogipejchneaaDoorToJ
namespace Go.Proofs.YtocogipejchneaaDoor
open Go Go.RowKit
set_option linter.unusedVariables false

/-- k, k + 1, .. : n numbers. -/
def iota (k : Int) (n : Nat) : List Int := (List.range n).map fun (i : Nat) => k + (i : Int)
theorem iota_length (k : Int) (n : Nat) : (iota k n).length = n := by simp [iota]
theorem iota_get (k : Int) (n i : Nat) (h : i < n) : (iota k n).getD i 0 = k + i := by simp [iota, List.getD, h]
/-- What a row holds when its first j numbers have been marked. -/
def marked (k : Int) (xs : List Int) (j : Nat) : List Int := iota k j ++ xs.drop j
theorem marked_length (k : Int) (xs : List Int) (j : Nat) (h : j ≤ xs.length) : (marked k xs j).length = xs.length := by simp [marked, iota_length]; omega
theorem marked_zero (k : Int) (xs : List Int) : marked k xs 0 = xs := by simp [marked, iota]
theorem marked_all (k : Int) (xs : List Int) : marked k xs xs.length = iota k xs.length := by simp [marked]
theorem marked_set (k : Int) (xs : List Int) (j : Nat) (h : j < xs.length) : (marked k xs j).set j (k + j) = marked k xs (j + 1) := by
  unfold marked
  rw [List.set_append_right _ _ (by simp [iota_length]), iota_length, Nat.sub_self, List.drop_eq_getElem_cons h, List.set_cons_zero]
  simp [iota, List.range_succ]

set_option maxHeartbeats 1000000 in
/-- markInt64S writes k, k + 1, .. into a row of the caller's own, and into nothing else. -/
theorem mark_row (B g cap : Nat) (xs : List Int) (k0 : Int) (w : World) (hown : OwnI B w (.slice (some ⟨g, 0, none⟩) xs.length cap) xs) (h0 : 0 ≤ k0) (h1 : k0 ≤ 4194304) (hx : xs.length ≤ 1048576) :
    Calls Tryd.prog 10 #[.slice (some ⟨g, 0, none⟩) xs.length cap, .int .i64 k0] w fun e w' => e = .returned (.int .i64 (k0 + xs.length)) ∧ OwnI B w' (.slice (some ⟨g, 0, none⟩) xs.length cap) (iota k0 xs.length) ∧ w.grownBy w' (some g) := by
  go_enter Tryd.func10, Tryd.ntmps10
  go_wp2
  go_loopw [1, 5] (fun q i wr => ∃ j : Nat, j ≤ xs.length ∧ i = .int .i64 j ∧ q = .int .i64 (k0 + j) ∧ wr.ownsRow B 2 1 (.slice (some ⟨g, 0, none⟩) xs.length cap) xs.length ((marked k0 xs j).map (Value.int .i64)) ∧ w.grownBy wr (some g)) (fun _ i _ => xs.length - (intOf i).toNat)
  case atStart => exact ⟨0, Nat.zero_le _, rfl, by simp, by rw [marked_zero]; exact hown, World.grownBy.refl _ _⟩
  case round =>
    obtain ⟨j, hj, rfl, rfl, hor, hgr⟩ := hrel
    have HG := Lib.hid hgr
    by_cases hlt : j < xs.length
    · have hco : wr.cell? ⟨g, j, none⟩ = some (.int .i64 ((marked k0 xs j).getD j 0)) := by
        rw [hor.cellAt j (by omega)]
        have := marked_length k0 xs j hj
        simp [List.getD, this, hlt]
      obtain ⟨x, hx⟩ : ∃ x, (marked k0 xs j).getD j 0 = x := ⟨_, rfl⟩
      rw [hx] at hco
      have hfo : wr.frozen? ⟨g, j, none⟩ = false := hor.frozenAt j
      have S := hor.stored j (.int .i64 (k0 + j))
      rw [← List.map_set, marked_set k0 xs j hlt] at S
      have HS := Lib.hid S
      clear S hor hown hgr hx
      go_wp2
      go_roundw
      case rel => exact ⟨j + 1, by omega, by go_num, by go_num, HS.out.1, ⟨HS.out.2.os.trans HG.out.os, HS.out.2.tape.trans HG.out.tape, HS.out.2.output.trans HG.out.output, Nat.le_trans HG.out.size HS.out.2.size, fun k hk hne => (HS.out.2.block k (Nat.lt_of_lt_of_le hk HG.out.size) hne).trans (HG.out.block k hk hne)⟩⟩
      case measure => simp [intOf]; omega
    · have hj' : j = xs.length := by omega
      have HO : Hid (wr.ownsRow B 2 1 (.slice (some ⟨g, 0, none⟩) xs.length cap) xs.length ((iota k0 xs.length).map (Value.int .i64))) := Lib.hid (by rw [hj', marked_all] at hor; exact hor)
      have HJ := Lib.hid hj'
      clear hor hown hgr hj'
      go_wp2
      go_ret
      refine ⟨by rw [HJ.out]; rfl, ?_, HG.out⟩
      have h := HO.out
      unfold OwnI
      rw [iota_length]
      exact h

set_option maxHeartbeats 1000000 in
theorem mark_nil (k0 : Int) (w : World) :
    Calls Tryd.prog 10 #[.slice none 0 0, .int .i64 k0] w fun e w' => e = .returned (.int .i64 k0) ∧ w = w' := by
  go_enter Tryd.func10, Tryd.ntmps10
  go_wp2
  refine wp_loop_rounds 1 ?_
  rw [rounds_succ]
  go_wp2
  go_ret
  exact ⟨rfl, rfl⟩

/-- markInt64S on whatever row is the caller's own. -/
theorem mark_any (B : Nat) (v : Value) (xs : List Int) (k0 : Int) (w : World) (hown : OwnI B w v xs) (h0 : 0 ≤ k0) (h1 : k0 ≤ 4194304) (hx : xs.length ≤ 1048576) :
    Calls Tryd.prog 10 #[v, .int .i64 k0] w fun e w' => e = .returned (.int .i64 (k0 + xs.length)) ∧ OwnI B w' v (iota k0 xs.length) ∧ w.grownBy w' v.ownBlock := by
  rcases hown.cases with ⟨rfl, rfl⟩ | ⟨g, cap, rfl, _⟩
  · exact (mark_nil k0 w).mono fun e w' ⟨he, hw⟩ => ⟨by rw [he]; simp, by subst hw; simpa [iota] using hown, by subst hw; exact World.grownBy.refl _ _⟩
  · exact mark_row B g cap xs k0 w hown h0 h1 hx

set_option maxHeartbeats 1000000 in
/-- heldInt64S over a row that holds k, k + 1, .. -/
theorem held_row (g n cap : Nat) (k0 : Int) (w : World) (hc : Cells w g (iota k0 n)) (h0 : 0 ≤ k0) (h1 : k0 ≤ 4194304) (hn : n ≤ 1048576) :
    Calls Tryd.prog 20 #[.slice (some ⟨g, 0, none⟩) n cap, .int .i64 k0] w fun e w' => e = .returned (.int .i64 (k0 + n)) ∧ Below w.heap.size w w' := by
  go_enter Tryd.func20, Tryd.ntmps20
  go_wp2
  go_loopw [1, 5] (fun q i wr => ∃ j : Nat, j ≤ n ∧ i = .int .i64 j ∧ q = .int .i64 (k0 + j) ∧ Below w.heap.size w wr) (fun _ i _ => n - (intOf i).toNat)
  case atStart => exact ⟨0, Nat.zero_le _, rfl, by simp, Below.refl _ _⟩
  case round =>
    obtain ⟨j, hj, rfl, rfl, hnx⟩ := hrel
    have HG := Lib.hid hnx
    by_cases hlt : j < n
    · have hco := hc.below hnx j (by rw [iota_length]; exact hlt)
      rw [iota_get _ _ _ hlt] at hco
      have hne : ((k0 + (j : Int)) != (k0 + (j : Int))) = false := by simp
      clear hnx hc
      go_wp2
      go_roundw
      case rel => exact ⟨j + 1, by omega, by go_num, by go_num, HG.out⟩
      case measure => simp [intOf]; omega
    · have hj' : j = n := by omega
      have HJ := Lib.hid hj'
      clear hnx hj' hc
      go_wp2
      go_ret
      exact ⟨by rw [HJ.out]; rfl, HG.out⟩

set_option maxHeartbeats 1000000 in
theorem held_zero (a : Option Addr) (cap : Nat) (k0 : Int) (w : World) :
    Calls Tryd.prog 20 #[.slice a 0 cap, .int .i64 k0] w fun e w' => e = .returned (.int .i64 k0) ∧ w = w' := by
  go_enter Tryd.func20, Tryd.ntmps20
  go_wp2
  refine wp_loop_rounds 1 ?_
  rw [rounds_succ]
  go_wp2
  go_ret
  exact ⟨rfl, rfl⟩

/-- heldInt64S over whatever slice reads as k, k + 1, .. -/
theorem held_any (v : Value) (n : Nat) (k0 : Int) (w : World) (hv : ReadsI w v (iota k0 n)) (h0 : 0 ≤ k0) (h1 : k0 ≤ 4194304) (hn : n ≤ 1048576) :
    Calls Tryd.prog 20 #[v, .int .i64 k0] w fun e w' => e = .returned (.int .i64 (k0 + n)) ∧ Below w.heap.size w w' := by
  obtain ⟨a, cap, rfl, h⟩ := hv
  rw [iota_length]
  by_cases hz : n = 0
  · subst hz
    exact (held_zero a cap k0 w).mono fun e w' ⟨he, hw⟩ => ⟨by rw [he]; simp, by subst hw; exact Below.refl _ _⟩
  · obtain ⟨b, rfl, hc⟩ := h (fun e => hz (by rw [← iota_length k0 n, e]; rfl))
    exact held_row b n cap k0 w hc h0 h1 hn
end Go.Proofs.YtocogipejchneaaDoor
