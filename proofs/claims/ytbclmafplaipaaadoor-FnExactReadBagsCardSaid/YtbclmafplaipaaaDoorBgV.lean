/-
  Contracts of both checks whether bags are valid.
-/
import Derived.Test.YtbclmafplaipaaaDoorMatA
import Derived.Test.YtbclmafplaipaaaDoorBgP
namespace Go.Proofs.YtbclmafplaipaaaDoor
open Go Go.RowKit
set_option linter.unusedVariables false

/-- areWithin over numbers. -/
theorem within_empty (a : Option Addr) (cap : Nat) (lo hi : Int) (w : World) :
    Calls Tryd.prog 128 #[.slice a 0 cap, .int .i64 lo, .int .i64 hi] w fun e w' => e = .returned (.bool true) ∧ w = w' := by
  go_enter Tryd.func128, Tryd.ntmps128
  go_wp2
  refine wp_loop_rounds 1 ?_
  rw [rounds_succ]
  go_wp2
  go_ret
  exact ⟨rfl, rfl⟩
set_option maxHeartbeats 2000000 in
theorem within_row (b len cap : Nat) (xs : List Int) (lo hi : Int) (hl : xs.length = len) (hm : len ≤ 1048576) (w : World) (hc : Cells w b xs) :
    Calls Tryd.prog 128 #[.slice (some ⟨b, 0, none⟩) len cap, .int .i64 lo, .int .i64 hi] w fun e w' => e = .returned (.bool (betwM xs lo hi)) ∧ w = w' := by
  have HL := Lib.hid hl
  have HC := Lib.hid hc
  clear hl hc
  go_enter Tryd.func128, Tryd.ntmps128
  go_wp2
  go_loop [11] (fun i => ∃ k : Nat, k ≤ len ∧ i = .int .i64 k ∧ betwTo xs lo hi k) (fun i => len - (intOf i).toNat)
  case atStart => exact ⟨0, Nat.zero_le _, rfl, betwTo.zero _ _ _⟩
  case round =>
    obtain ⟨k, hk, rfl, hr⟩ := hrel
    have HR := Lib.hid hr
    clear hr
    by_cases hlt : k < len
    · have hkx : k < xs.length := by have := HL.out; omega
      have c := HC.out k hkx
      obtain ⟨x, hx⟩ : ∃ x, xs.getD k 0 = x := ⟨_, rfl⟩
      rw [hx] at c
      have HX := Lib.hid hx
      clear hx
      by_cases h1 : lo ≤ x
      · have d1 : decide (x < lo) = false := decide_eq_false (by omega)
        by_cases h2 : x ≤ hi
        · have d2 : decide (hi < x) = false := decide_eq_false (by omega)
          go_wp2
          go_round
          case rel => exact ⟨k + 1, by omega, by go_num, HR.out.succ (by rw [HX.out]; exact ⟨h1, h2⟩)⟩
          case measure => simp [intOf]; omega
        · have d2 : decide (hi < x) = true := decide_eq_true (by omega)
          go_wp2
          go_ret
          exact ⟨(ret_bool (betwM_bad hkx (by rw [HX.out]; omega))).symm, rfl⟩
      · have d1 : decide (x < lo) = true := decide_eq_true (by omega)
        go_wp2
        go_ret
        exact ⟨(ret_bool (betwM_bad hkx (by rw [HX.out]; omega))).symm, rfl⟩
    · have HE : Hid (k = xs.length) := Lib.hid (by have := HL.out; omega)
      go_wp2
      go_ret
      exact ⟨(ret_bool (betwM_true (by rw [← HE.out]; exact HR.out))).symm, rfl⟩
theorem within_any (v : Value) (xs : List Int) (lo hi : Int) (hm : xs.length ≤ 1048576) (w : World) (hv : ReadsI w v xs) :
    Calls Tryd.prog 128 #[v, .int .i64 lo, .int .i64 hi] w fun e w' => e = .returned (.bool (betwM xs lo hi)) ∧ w = w' := by
  obtain ⟨a, cap, rfl, h⟩ := hv
  by_cases h0 : xs = []
  · subst h0
    exact within_empty a cap lo hi w
  · obtain ⟨b, rfl, hc⟩ := h h0
    exact within_row b xs.length cap xs lo hi rfl hm w hc

/-- Row r of a slice of rows, as it lies in memory. -/
theorem ReadsM.row {w : World} {b : Nat} {R : List (List Int)} (h : ∀ j, j < R.length → ∃ u, w.cell? ⟨b, j, none⟩ = some u ∧ ReadsI w u (R.getD j [])) {r : Nat} (hr : r < R.length) :
    ∃ a cap, w.cell? ⟨b, r, none⟩ = some (.slice a (R.getD r []).length cap) ∧ ReadsI w (.slice a (R.getD r []).length cap) (R.getD r []) := by
  obtain ⟨u, c, a, cap, rfl, hc⟩ := h r hr
  exact ⟨a, cap, c, a, cap, rfl, hc⟩

set_option maxHeartbeats 2000000 in
set_option maxRecDepth 100000 in
theorem ivldM_row (b n cap : Nat) (R : List (List Int)) (hn : R.length = n) (h1 : 1 ≤ n) (h4 : n ≤ 4) (hr : ∀ j, j < R.length → (R.getD j []).length ≤ 1048576) (w : World)
    (hc : ∀ j, j < R.length → ∃ u, w.cell? ⟨b, j, none⟩ = some u ∧ ReadsI w u (R.getD j [])) :
    Calls Tryd.prog 85 #[.slice (some ⟨b, 0, none⟩) n cap] w fun e w' => e = .returned (.bool (vldM R)) ∧ w = w' := by
  have HN := Lib.hid hn
  have HC := Lib.hid hc
  have HR := Lib.hid hr
  clear hn hc hr
  go_enter Tryd.func85, Tryd.ntmps85
  go_wp2_with fail
  go_loop [15] (fun i => ∃ k : Nat, k ≤ n ∧ i = .int .i64 k ∧ RowsOk R k) (fun i => n - (intOf i).toNat)
  case atStart => exact ⟨0, Nat.zero_le _, rfl, RowsOk.zero _⟩
  case round =>
    obtain ⟨k, hk, rfl, hrw⟩ := hrel
    have HRW := Lib.hid hrw
    clear hrw
    by_cases hlt : k < n
    · have hkR : k < R.length := by have := HN.out; omega
      obtain ⟨a, cp, c0, r0⟩ := ReadsM.row HC.out hkR
      have HRD := Lib.hid r0
      have HLR := Lib.hid (HR.out k hkR)
      have HOK : Hid (rowOk R.length (R.getD k []) ↔ ((R.getD k []).length ≤ 6 ∧ betwM (R.getD k []) 0 ((n : Int) - 1) = true)) := Lib.hid (by
        rw [HN.out]
        constructor
        · exact fun h => ⟨h.1, betwM_true h.2⟩
        · exact fun h => ⟨h.1, betwM_spec h.2⟩)
      obtain ⟨xs, hxs⟩ : ∃ xs, R.getD k [] = xs := ⟨_, rfl⟩
      rw [hxs] at c0 HRD HLR HOK
      have HXS := Lib.hid hxs
      have hlx := HLR.out
      clear r0 hxs
      by_cases h6 : xs.length ≤ 6
      · have d6 : decide ((6 : Int) < (xs.length : Int)) = false := decide_eq_false (by omega)
        cases hb : betwM xs 0 ((n : Int) - 1)
        · have HB := Lib.hid hb
          clear hb
          go_wp2_with fail
          refine (within_any _ xs _ _ HLR.out _ HRD.out).mono ?_
          rintro e w2 ⟨rfl, rfl⟩
          rw [HB.out]
          go_wp2_with fail
          go_ret
          exact ⟨(ret_bool (vldM_bad hkR (by rw [HXS.out]; exact fun h => by have := (HOK.out.1 h).2; rw [HB.out] at this; simp at this))).symm, rfl⟩
        · have HB := Lib.hid hb
          clear hb
          go_wp2_with fail
          refine (within_any _ xs _ _ HLR.out _ HRD.out).mono ?_
          rintro e w2 ⟨rfl, rfl⟩
          rw [HB.out]
          go_wp2_with fail
          go_round
          case rel => exact ⟨k + 1, by omega, by go_num, HRW.out.succ (by rw [HXS.out]; exact HOK.out.2 ⟨h6, HB.out⟩)⟩
          case measure => simp [intOf]; omega
      · have d6 : decide ((6 : Int) < (xs.length : Int)) = true := decide_eq_true (by omega)
        go_wp2_with fail
        go_ret
        exact ⟨(ret_bool (vldM_bad hkR (by rw [HXS.out]; exact fun h => h6 h.1))).symm, rfl⟩
    · have HE : Hid (k = R.length) := Lib.hid (by have := HN.out; omega)
      go_wp2_with fail
      go_ret
      exact ⟨(ret_bool (vldM_true (by rw [HN.out]; omega) (by rw [HN.out]; omega) (by rw [← HE.out]; exact HRW.out))).symm, rfl⟩

set_option maxHeartbeats 1000000 in
theorem ivldM_len (a : Option Addr) (n cap : Nat) (hn : n ≤ 1048576) (h : ¬ (1 ≤ n ∧ n ≤ 4)) (w : World) :
    Calls Tryd.prog 85 #[.slice a n cap] w fun e w' => e = .returned (.bool false) ∧ w = w' := by
  by_cases h1 : 1 ≤ n
  · have d1 : decide ((n : Int) < 1) = false := decide_eq_false (by omega)
    have d2 : decide ((4 : Int) < (n : Int)) = true := decide_eq_true (by omega)
    go_enter Tryd.func85, Tryd.ntmps85
    go_wp2
    go_ret
    exact ⟨rfl, rfl⟩
  · have d1 : decide ((n : Int) < 1) = true := decide_eq_true (by omega)
    go_enter Tryd.func85, Tryd.ntmps85
    go_wp2
    go_ret
    exact ⟨rfl, rfl⟩

theorem ivldM_eq (v : Value) (R : List (List Int)) (w : World) (hv : ReadsM w v R) (hx : R.length ≤ 1048576) (hr : ∀ j, j < R.length → (R.getD j []).length ≤ 1048576) :
    Calls Tryd.prog 85 #[v] w fun e w' => e = .returned (.bool (vldM R)) ∧ w = w' := by
  obtain ⟨a, cap, rfl, h⟩ := hv
  by_cases hl : 1 ≤ R.length ∧ R.length ≤ 4
  · obtain ⟨b, rfl, hc⟩ := h (fun e => by rw [e] at hl; simp at hl)
    exact ivldM_row b R.length cap R rfl hl.1 hl.2 hr w hc
  · rw [vldM_len hl]
    exact ivldM_len a R.length cap hx hl w
theorem ivldM_any (v : Value) (R : List (List Int)) (w : World) (hv : ReadsM w v R) (hx : R.length ≤ 1048576) (hr : ∀ j, j < R.length → (R.getD j []).length ≤ 1048576) :
    Calls Tryd.prog 85 #[v] w fun e w' => e = .returned (.bool (vldM R)) ∧ Below w.heap.size w w' :=
  (ivldM_eq v R w hv hx hr).mono fun e w' ⟨he, hw⟩ => ⟨he, by subst hw; exact Below.refl _ _⟩
end Go.Proofs.YtbclmafplaipaaaDoor
