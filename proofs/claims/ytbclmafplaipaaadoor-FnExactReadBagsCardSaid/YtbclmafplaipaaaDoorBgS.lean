/-
  The model's check whether bags are valid.
-/
import Derived.Test.YtbclmafplaipaaaDoorBgV
import Derived.Test.YtbclmafplaipaaaDoorIn
namespace Go.Proofs.YtbclmafplaipaaaDoor
open Go Go.RowKit
set_option linter.unusedVariables false

set_option maxHeartbeats 4000000 in
set_option maxRecDepth 100000 in
theorem svldM_row (b n cap : Nat) (R : List (List Int)) (hn : R.length = n) (hm : n ≤ 1048576) (hr : ∀ j, j < R.length → (R.getD j []).length ≤ 1048576) (w : World)
    (hc : ∀ j, j < R.length → ∃ u, w.cell? ⟨b, j, none⟩ = some u ∧ ReadsI w u (R.getD j [])) :
    Calls Tryd.prog 84 #[.slice (some ⟨b, 0, none⟩) n cap] w fun e w' => e = .returned (.bool (vldM R)) ∧ w = w' := by
  have HN := Lib.hid hn
  have HC := Lib.hid hc
  have HR := Lib.hid hr
  clear hn hc hr
  go_enter Tryd.func84, Tryd.ntmps84
  go_wp2_with fail
  go_loop [3] (fun i => ∃ k : Nat, k ≤ n ∧ i = .int .i64 k ∧ RowsOk R k) (fun i => n - (intOf i).toNat)
  case atStart => exact ⟨0, Nat.zero_le _, rfl, RowsOk.zero _⟩
  case round =>
    obtain ⟨k, hk, rfl, hrw⟩ := hrel
    have HRW := Lib.hid hrw
    clear hrw
    by_cases hlt : k < n
    · have hkR : k < R.length := by have := HN.out; omega
      have hkn : (k : Int) < (n : Int) := by omega
      obtain ⟨a, cp, c0, r0⟩ := ReadsM.row HC.out hkR
      have HRD := Lib.hid r0
      have HLR := Lib.hid (HR.out k hkR)
      have HOK : Hid (rowOk R.length (R.getD k []) ↔ ((R.getD k []).length ≤ 6 ∧ betwTo (R.getD k []) 0 ((n : Int) - 1) (R.getD k []).length)) := Lib.hid (by
        rw [HN.out]
        exact ⟨fun h => ⟨h.1, h.2⟩, fun h => ⟨h.1, h.2⟩⟩)
      obtain ⟨xs, hxs⟩ : ∃ xs, R.getD k [] = xs := ⟨_, rfl⟩
      rw [hxs] at c0 HRD HLR HOK
      have HXS := Lib.hid hxs
      have hlx := HLR.out
      clear r0 hxs
      by_cases h6 : xs.length ≤ 6
      · have d6 : decide ((6 : Int) < (xs.length : Int)) = false := decide_eq_false (by omega)
        obtain ⟨l, hl⟩ : ∃ l, xs.length = l := ⟨_, rfl⟩
        have HLL := Lib.hid hl
        rw [hl] at c0 d6 h6
        clear hl hlx
        go_wp2_with fail
        go_loop [4] (fun i => ∃ q : Nat, q ≤ l ∧ i = .int .i64 q ∧ betwTo xs 0 ((n : Int) - 1) q) (fun i => l - (intOf i).toNat)
        case atStart => exact ⟨0, Nat.zero_le _, rfl, betwTo.zero _ _ _⟩
        case round =>
          obtain ⟨q, hq, rfl, hb⟩ := hrel
          have HB := Lib.hid hb
          clear hb
          by_cases hlq : q < l
          · have hqx : q < xs.length := by have := HLL.out; omega
            obtain ⟨b2, hab, hcc⟩ : ∃ b2, a = some ⟨b2, 0, none⟩ ∧ Cells w b2 xs := by
              obtain ⟨a', cap', e1, e2⟩ := HRD.out
              simp only [Value.slice.injEq] at e1
              obtain ⟨rfl, _, rfl⟩ := e1
              exact e2 (fun e => by rw [e] at hqx; simp at hqx)
            subst hab
            have d0 := hcc q hqx
            have hql : (q : Int) < (l : Int) := by omega
            obtain ⟨x, hx⟩ : ∃ x, xs.getD q 0 = x := ⟨_, rfl⟩
            rw [hx] at d0
            have HX := Lib.hid hx
            clear hx hcc
            by_cases h1 : 0 ≤ x ∧ x ≤ (n : Int) - 1
            · have g1 := inB_true h1
              go_wp2_with (go_at_call 115; refine (in_any _ _ _ _).mono ?_; rintro e w2 ⟨rfl, hw2⟩; subst hw2)
              go_round
              case rel => exact ⟨q + 1, by omega, by go_num, HB.out.succ (by rw [HX.out]; exact h1)⟩
              case measure => simp [intOf]; omega
            · have g1 := inB_false h1
              have H1 := Lib.hid h1
              clear h1
              go_wp2_with (go_at_call 115; refine (in_any _ _ _ _).mono ?_; rintro e w2 ⟨rfl, hw2⟩; subst hw2)
              go_ret
              exact ⟨(ret_bool (vldM_bad hkR (by rw [HXS.out]; exact fun h => H1.out (by have := (HOK.out.1 h).2 q hqx; rw [HX.out] at this; exact this)))).symm, rfl⟩
          · have HE : Hid (q = xs.length) := Lib.hid (by have := HLL.out; omega)
            go_wp2_with fail
            go_round
            case rel => exact ⟨k + 1, by omega, by go_num, HRW.out.succ (by rw [HXS.out]; exact HOK.out.2 ⟨by rw [HLL.out]; exact h6, by rw [← HE.out]; exact HB.out⟩)⟩
            case measure => simp [intOf]; omega
      · have d6 : decide ((6 : Int) < (xs.length : Int)) = true := decide_eq_true (by omega)
        go_wp2_with fail
        go_ret
        exact ⟨(ret_bool (vldM_bad hkR (by rw [HXS.out]; exact fun h => h6 h.1))).symm, rfl⟩
    · have HE : Hid (k = R.length) := Lib.hid (by have := HN.out; omega)
      by_cases h4 : 1 ≤ (n : Int) ∧ (n : Int) ≤ 4
      · have g1 := inB_true h4
        go_wp2_with (go_at_call 115; refine (in_any _ _ _ _).mono ?_; rintro e w2 ⟨rfl, hw2⟩; subst hw2)
        go_ret
        exact ⟨(ret_bool (vldM_true (by rw [HN.out]; omega) (by rw [HN.out]; omega) (by rw [← HE.out]; exact HRW.out))).symm, rfl⟩
      · have g1 := inB_false h4
        have H4 := Lib.hid h4
        clear h4
        go_wp2_with (go_at_call 115; refine (in_any _ _ _ _).mono ?_; rintro e w2 ⟨rfl, hw2⟩; subst hw2)
        go_ret
        exact ⟨(ret_bool (vldM_len (by rw [HN.out]; exact fun h => H4.out (by omega)))).symm, rfl⟩

set_option maxHeartbeats 1000000 in
theorem svldM_zero (a : Option Addr) (cap : Nat) (w : World) :
    Calls Tryd.prog 84 #[.slice a 0 cap] w fun e w' => e = .returned (.bool false) ∧ w = w' := by
  have g1 : inB 0 1 4 = false := inB_false (by omega)
  go_enter Tryd.func84, Tryd.ntmps84
  go_wp2_with fail
  refine wp_loop_rounds 1 ?_
  rw [rounds_succ]
  go_wp2_with (go_at_call 115; refine (in_any _ _ _ _).mono ?_; rintro e w2 ⟨rfl, hw2⟩; subst hw2)
  go_ret
  exact ⟨rfl, rfl⟩

theorem sbags_eq (v : Value) (R : List (List Int)) (w : World) (hv : ReadsM w v R) (hx : R.length ≤ 1048576) (hr : ∀ j, j < R.length → (R.getD j []).length ≤ 1048576) :
    Calls Tryd.prog 84 #[v] w fun e w' => e = .returned (.bool (vldM R)) ∧ w = w' := by
  obtain ⟨a, cap, rfl, h⟩ := hv
  by_cases h0 : R = []
  · subst h0
    rw [show vldM [] = false from vldM_len (by simp)]
    exact svldM_zero a cap w
  · obtain ⟨b, rfl, hc⟩ := h h0
    exact svldM_row b R.length cap R rfl hx hr w hc
end Go.Proofs.YtbclmafplaipaaaDoor
