/-
  areWithin over int64; areDeclared over one or two numbers of the call's own.
-/
import Derived.Test.YtocogipejchneaaBetw
import Derived.Test.YtocogipejchneaaBlk
import Derived.Test.YtocogipejchneaaProg
namespace Go.Proofs.Ytocogipejchneaa
open Go Go.RowKit
set_option linter.unusedVariables false

set_option maxHeartbeats 2000000 in
set_option maxRecDepth 100000 in
theorem within64_any (v : Value) (r : List Int) (lo hi : Int) (w : World) (hv : ReadsI w v r) (hn : r.length ≤ 1048576) :
    Calls Try.prog 38 #[v, .int .i64 lo, .int .i64 hi] w fun e w' => e = .returned (.bool (betwB r lo hi)) ∧ w = w' := by
  obtain ⟨a, cap, rfl, ha⟩ := hv
  have HA := Lib.hid ha
  obtain ⟨n, hn'⟩ : ∃ n, r.length = n := ⟨_, rfl⟩
  rw [hn'] at hn ⊢
  have HN := Lib.hid hn'
  clear ha hn'
  go_enter Try.func38, Try.ntmps38
  go_wp2_with fail
  go_loop [11] (fun i => ∃ k : Nat, k ≤ n ∧ i = .int .i64 k ∧ betw r lo hi k) (fun i => n - (intOf i).toNat)
  case atStart => exact ⟨0, Nat.zero_le _, rfl, betw.zero _ _ _⟩
  case round =>
    obtain ⟨k, hk, rfl, hb⟩ := hrel
    have HB := Lib.hid hb
    by_cases hlt : k < n
    · obtain ⟨g, rfl, hc⟩ := HA.out (by intro e; have := HN.out; rw [e] at this; simp at this; omega)
      have cx := hc k (by have := HN.out; omega)
      have HS : Hid (lo ≤ r.getD k 0 ∧ r.getD k 0 ≤ hi → betw r lo hi (k + 1)) := Lib.hid HB.out.succ
      have HBAD : Hid (¬ (lo ≤ r.getD k 0 ∧ r.getD k 0 ≤ hi) → betwB r lo hi = false) := Lib.hid (betwB_bad (by have := HN.out; omega))
      obtain ⟨x, hx⟩ : ∃ x, r.getD k 0 = x := ⟨_, rfl⟩
      rw [hx] at cx HS HBAD
      clear hc hx hb
      by_cases h1 : lo ≤ x
      · by_cases h2 : x ≤ hi
        · have t1 : decide (x < lo) = false := by simp; omega
          have t2 : decide (hi < x) = false := by simp; omega
          go_wp2_with fail
          go_round
          case rel => exact ⟨k + 1, by omega, by go_num, HS.out ⟨h1, h2⟩⟩
          case measure => simp [intOf]; omega
        · have t1 : decide (x < lo) = false := by simp; omega
          have t2 : decide (hi < x) = true := by simp; omega
          go_wp2_with fail
          go_ret
          exact ⟨(ret_bool (HBAD.out (by omega))).symm, rfl⟩
      · have t1 : decide (x < lo) = true := by simp; omega
        go_wp2_with fail
        go_ret
        exact ⟨(ret_bool (HBAD.out (by omega))).symm, rfl⟩
    · have hk' : k = n := by omega
      have HE : Hid (betwB r lo hi = true) := Lib.hid (betwB_true (by rw [HN.out, ← hk']; exact hb))
      clear hk' hb
      go_wp2_with fail
      go_ret
      exact ⟨(ret_bool HE.out).symm, rfl⟩


theorem idecl_any (v : Value) (r : List Int) (w : World) (hv : ReadsI w v r) (hn : r.length ≤ 1048576) :
    Calls Try.prog 32 #[v] w fun e w' => e = .returned (.bool (betwB r 0 1000000)) ∧ w = w' := by
  go_enter Try.func32, Try.ntmps32
  go_wp2_with (go_at_call 38; refine (within64_any v r 0 1000000 _ hv hn).mono ?_; rintro e w2 ⟨rfl, rfl⟩)
  go_ret
  exact ⟨rfl, rfl⟩
theorem reads1 {W : World} {T : TypeId} {a : Int} {n : Nat} (h : W.heap.size = n) : ReadsI (W.alloc (.cells #[.int .i64 a] T)) (.slice (some ⟨n, 0, none⟩) 1 1) [a] := by
  refine ⟨_, _, rfl, fun _ => ⟨_, rfl, fun i hi => ?_⟩⟩
  have hi' : i < 1 := hi
  obtain rfl : i = 0 := by omega
  rw [(BlkA.new h T _).at 0]; rfl
theorem reads2 {W : World} {T : TypeId} {a b : Int} {n : Nat} (h : W.heap.size = n) : ReadsI (W.alloc (.cells #[.int .i64 a, .int .i64 b] T)) (.slice (some ⟨n, 0, none⟩) 2 2) [a, b] := by
  refine ⟨_, _, rfl, fun _ => ⟨_, rfl, fun i hi => ?_⟩⟩
  have hi' : i < 2 := hi
  have h2 : i = 0 ∨ i = 1 := by omega
  rcases h2 with rfl | rfl
  · rw [(BlkA.new h T _).at 0]; rfl
  · rw [(BlkA.new h T _).at 1]; rfl
theorem betw1 (a lo hi : Int) : betwB [a] lo hi = decide (lo ≤ a ∧ a ≤ hi) := by
  unfold betwB
  refine decide_eq_decide.2 ⟨fun h => h 0 (by simp), fun h i hi => ?_⟩
  have hi' : i < 1 := hi
  obtain rfl : i = 0 := by omega
  exact h
theorem betw2 (a b lo hi : Int) : betwB [a, b] lo hi = decide ((lo ≤ a ∧ a ≤ hi) ∧ (lo ≤ b ∧ b ≤ hi)) := by
  unfold betwB
  refine decide_eq_decide.2 ⟨fun h => ⟨h 0 (by simp), h 1 (by simp)⟩, fun h i hi => ?_⟩
  have hi' : i < 2 := hi
  have h2 : i = 0 ∨ i = 1 := by omega
  rcases h2 with rfl | rfl
  · exact h.1
  · exact h.2
theorem betw2_true {a b lo hi : Int} (h : (lo ≤ a ∧ a ≤ hi) ∧ (lo ≤ b ∧ b ≤ hi)) : betwB [a, b] lo hi = true := by rw [betw2]; exact decide_eq_true h
theorem betw2_false {a b lo hi : Int} (h : ¬ ((lo ≤ a ∧ a ≤ hi) ∧ (lo ≤ b ∧ b ≤ hi))) : betwB [a, b] lo hi = false := by rw [betw2]; exact decide_eq_false h
theorem betw1_true {a lo hi : Int} (h : lo ≤ a ∧ a ≤ hi) : betwB [a] lo hi = true := by rw [betw1]; exact decide_eq_true h
theorem betw1_false {a lo hi : Int} (h : ¬ (lo ≤ a ∧ a ≤ hi)) : betwB [a] lo hi = false := by rw [betw1]; exact decide_eq_false h
end Go.Proofs.Ytocogipejchneaa
