/-
  Contracts of both checks whether bags are valid.
-/
import Derived.Test.YtocogipejchneaaDoorMatA
import Derived.Test.YtocogipejchneaaDoorBgP
namespace Go.Proofs.YtocogipejchneaaDoor
open Go Go.RowKit
set_option linter.unusedVariables false

/-- areWithin over numbers. -/
theorem within_empty (a : Option Addr) (cap : Nat) (lo hi : Int) (w : World) :
    Calls Tryd.prog 25 #[.slice a 0 cap, .int .i64 lo, .int .i64 hi] w fun e w' => e = .returned (.bool true) ∧ w = w' := by
  go_enter Tryd.func25, Tryd.ntmps25
  go_wp2
  refine wp_loop_rounds 1 ?_
  rw [rounds_succ]
  go_wp2
  go_ret
  exact ⟨rfl, rfl⟩
set_option maxHeartbeats 2000000 in
theorem within_row (b len cap : Nat) (xs : List Int) (lo hi : Int) (hl : xs.length = len) (hm : len ≤ 1048576) (w : World) (hc : Cells w b xs) :
    Calls Tryd.prog 25 #[.slice (some ⟨b, 0, none⟩) len cap, .int .i64 lo, .int .i64 hi] w fun e w' => e = .returned (.bool (betwM xs lo hi)) ∧ w = w' := by
  have HL := Lib.hid hl
  have HC := Lib.hid hc
  clear hl hc
  go_enter Tryd.func25, Tryd.ntmps25
  go_wp2
  go_loop [11] (fun i => ∃ k : Nat, k ≤ len ∧ i = .int .i64 k ∧ betwTo xs lo hi k) (fun i => len - (intOf i).toNat)
  case atStart => exact ⟨0, Nat.zero_le _, rfl, betwTo.zero _ _ _⟩
  case round =>
    obtain ⟨k, hk, rfl, hr⟩ := hrel
    have HR := Lib.hid hr
    clear hr
    by_cases hlt : k < len
    · have hkx : k < xs.length := by have := HL.out; omega
      have c := HC.out k hkx
      obtain ⟨x, hx⟩ : ∃ x, xs.getD k 0 = x := ⟨_, rfl⟩
      rw [hx] at c
      have HX := Lib.hid hx
      clear hx
      by_cases h1 : lo ≤ x
      · have d1 : decide (x < lo) = false := decide_eq_false (by omega)
        by_cases h2 : x ≤ hi
        · have d2 : decide (hi < x) = false := decide_eq_false (by omega)
          go_wp2
          go_round
          case rel => exact ⟨k + 1, by omega, by go_num, HR.out.succ (by rw [HX.out]; exact ⟨h1, h2⟩)⟩
          case measure => simp [intOf]; omega
        · have d2 : decide (hi < x) = true := decide_eq_true (by omega)
          go_wp2
          go_ret
          exact ⟨(ret_bool (betwM_bad hkx (by rw [HX.out]; omega))).symm, rfl⟩
      · have d1 : decide (x < lo) = true := decide_eq_true (by omega)
        go_wp2
        go_ret
        exact ⟨(ret_bool (betwM_bad hkx (by rw [HX.out]; omega))).symm, rfl⟩
    · have HE : Hid (k = xs.length) := Lib.hid (by have := HL.out; omega)
      go_wp2
      go_ret
      exact ⟨(ret_bool (betwM_true (by rw [← HE.out]; exact HR.out))).symm, rfl⟩
theorem within_any (v : Value) (xs : List Int) (lo hi : Int) (hm : xs.length ≤ 1048576) (w : World) (hv : ReadsI w v xs) :
    Calls Tryd.prog 25 #[v, .int .i64 lo, .int .i64 hi] w fun e w' => e = .returned (.bool (betwM xs lo hi)) ∧ w = w' := by
  obtain ⟨a, cap, rfl, h⟩ := hv
  by_cases h0 : xs = []
  · subst h0
    exact within_empty a cap lo hi w
  · obtain ⟨b, rfl, hc⟩ := h h0
    exact within_row b xs.length cap xs lo hi rfl hm w hc

/-- Row r of a slice of rows, as it lies in memory. -/
theorem ReadsM.row {w : World} {b : Nat} {R : List (List Int)} (h : ∀ j, j < R.length → ∃ u, w.cell? ⟨b, j, none⟩ = some u ∧ ReadsI w u (R.getD j [])) {r : Nat} (hr : r < R.length) :
    ∃ a cap, w.cell? ⟨b, r, none⟩ = some (.slice a (R.getD r []).length cap) ∧ ReadsI w (.slice a (R.getD r []).length cap) (R.getD r []) := by
  obtain ⟨u, c, a, cap, rfl, hc⟩ := h r hr
  exact ⟨a, cap, c, a, cap, rfl, hc⟩

end Go.Proofs.YtocogipejchneaaDoor
