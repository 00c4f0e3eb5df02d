/-
  Contracts of both ShiftsBound.
-/
import Derived.Test.YtadhoodddedjjabBgW
namespace Go.Proofs.Ytadhoodddedjjab
open Go Go.RowKit
set_option linter.unusedVariables false

set_option maxHeartbeats 8000000 in
set_option maxRecDepth 100000 in
theorem ibound_any (v : Value) (R : List (List Int)) (w : World) (hv : ReadsM w v R) (hx : R.length ≤ 1048576) (hr : ∀ j, j < R.length → (R.getD j []).length ≤ 1048576) :
    Calls Try.prog 29 #[v] w fun e w' => e = .returned (.tuple #[.int .i64 (boundR R), .int .i64 (codeM R)]) ∧ Below w.heap.size w w' := by
  have HV := Lib.hid hv
  have HX := Lib.hid hx
  have HRR := Lib.hid hr
  clear hv hx hr
  cases hvl : vldM R
  · have HR := Lib.hid (codeM_no hvl)
    go_enter Try.func29, Try.ntmps29
    go_wp2_with fail
    refine (ivldM_eq _ R _ HV.out HX.out HRR.out).mono ?_
    rintro e w2 ⟨rfl, rfl⟩
    rw [hvl]
    go_wp2_with fail
    go_ret2
    exact ⟨ret_pr HR.out.2.2.1.symm HR.out.1.symm, Below.refl _ _⟩
  · have HR := Lib.hid (codeM_ok hvl)
    have HVL := Lib.hid hvl
    obtain ⟨g1, g4, hok⟩ := vldM_spec hvl
    have HOK := Lib.hid hok
    obtain ⟨a0, cap, rfl, hrd⟩ := HV.out
    obtain ⟨b, rfl, hc⟩ := hrd (fun e => by rw [e] at g1; simp at g1)
    have HC := Lib.hid hc
    obtain ⟨n, hn⟩ : ∃ n, R.length = n := ⟨_, rfl⟩
    have HN := Lib.hid hn
    rw [hn] at g1 g4 HV ⊢
    clear hc hok hrd hn
    go_enter Try.func29, Try.ntmps29
    go_wp2_with fail
    refine (ivldM_eq _ R _ HV.out HX.out HRR.out).mono ?_
    rintro e w2 ⟨rfl, rfl⟩
    rw [hvl]
    clear hvl
    go_wp2_with fail
    go_loop [4, 15] (fun t i => ∃ k : Nat, k ≤ n ∧ i = .int .i64 k ∧ t = .int .i64 (boundK R k)) (fun _ i => n - (intOf i).toNat)
    case atStart => exact ⟨0, Nat.zero_le _, rfl, rfl⟩
    case round =>
      obtain ⟨k, hk, rfl, rfl⟩ := hrel
      by_cases hlt : k < n
      · have hkR : k < R.length := by have := HN.out; omega
        have hkn : (k : Int) < (n : Int) := by omega
        obtain ⟨a, cp, c0, r0⟩ := ReadsM.row HC.out hkR
        have HRD := Lib.hid r0
        have hr6 := (HOK.out k hkR).1
        have hbd := boundK_bd (fun r hr => HOK.out r (by omega) : RowsOk R k)
        have HS : Hid (boundK R (k + 1) = boundK R k + boundC (R.getD k []) (k : Int) (R.getD k []).length) := Lib.hid rfl
        obtain ⟨xs, hxs⟩ : ∃ xs, R.getD k [] = xs := ⟨_, rfl⟩
        rw [hxs] at c0 HRD hr6 HS
        obtain ⟨t, ht⟩ : ∃ t, boundK R k = t := ⟨_, rfl⟩
        rw [ht] at hbd HS ⊢
        obtain ⟨l, hl⟩ : ∃ l, xs.length = l := ⟨_, rfl⟩
        have HLL := Lib.hid hl
        rw [hl] at c0 hr6 HS
        have ht1 := hbd.1
        have ht2 : t ≤ 48 := by have := hbd.2; omega
        clear r0 hxs ht hl hbd
        go_wp2_with fail
        go_loop [4, 7, 22] (fun s z i => ∃ q : Nat, q ≤ l ∧ i = .int .i64 q ∧ z = .bool (anyW xs (k : Int) q) ∧ s = .int .i64 (t + boundC xs (k : Int) q)) (fun _ _ i => l - (intOf i).toNat)
        case atStart => exact ⟨0, Nat.zero_le _, rfl, rfl, by simp [boundC]⟩
        case round =>
          obtain ⟨q, hq, rfl, rfl, rfl⟩ := hrel
          by_cases hlq : q < l
          · have hqx : q < xs.length := by have := HLL.out; omega
            have hql : (q : Int) < (l : Int) := by omega
            obtain ⟨b2, hab, hcc⟩ : ∃ b2, a = some ⟨b2, 0, none⟩ ∧ Cells w b2 xs := by
              obtain ⟨a', cap', e1, e2⟩ := HRD.out
              simp only [Value.slice.injEq] at e1
              obtain ⟨rfl, _, rfl⟩ := e1
              exact e2 (fun e => by rw [e] at hqx; simp at hqx)
            subst hab
            have d0 := hcc q hqx
            have hwb := boundC_bd xs (k : Int) q
            have HS2 : Hid (boundC xs (k : Int) (q + 1) = boundC xs (k : Int) q + (if xs.getD q 0 ≠ (k : Int) then 1 else if anyW xs (k : Int) q then 2 else 0)) := Lib.hid rfl
            have HS3 : Hid (anyW xs (k : Int) (q + 1) = if xs.getD q 0 ≠ (k : Int) then true else anyW xs (k : Int) q) := Lib.hid rfl
            obtain ⟨x, hx⟩ : ∃ x, xs.getD q 0 = x := ⟨_, rfl⟩
            obtain ⟨c, hcv⟩ : ∃ c, boundC xs (k : Int) q = c := ⟨_, rfl⟩
            obtain ⟨z, hz⟩ : ∃ z, anyW xs (k : Int) q = z := ⟨_, rfl⟩
            rw [hx] at d0 HS2 HS3
            rw [hcv] at hwb HS2 ⊢
            rw [hz] at HS2 HS3 ⊢
            have hw1 := hwb.1
            have hw2 : c ≤ 12 := by have := hwb.2; omega
            clear hx hcc hcv hwb hz
            by_cases hxk : x = (k : Int)
            · have hb1 : (x != (k : Int)) = false := by simp [hxk]
              have HXK := Lib.hid hxk
              clear hxk
              cases z
              · go_wp2_with fail
                go_round
                case rel => exact ⟨q + 1, by omega, by go_num, by rw [HS3.out, if_neg (by simp [HXK.out])], by rw [HS2.out, if_neg (by simp [HXK.out]), if_neg (by simp), Int.add_zero]⟩
                case measure => simp [intOf]; omega
              · go_wp2_with fail
                go_round
                case rel => exact ⟨q + 1, by omega, by go_num, by rw [HS3.out, if_neg (by simp [HXK.out])], by rw [HS2.out, if_neg (by simp [HXK.out]), if_pos rfl]; go_num⟩
                case measure => simp [intOf]; omega
            · have hb1 : (x != (k : Int)) = true := by simp [hxk]
              go_wp2_with fail
              go_round
              case rel => exact ⟨q + 1, by omega, by go_num, by rw [HS3.out, if_pos hxk], by rw [HS2.out, if_pos hxk]; go_num⟩
              case measure => simp [intOf]; omega
          · have HE : Hid (q = l) := Lib.hid (by omega)
            go_wp2_with fail
            go_round
            case rel => exact ⟨k + 1, by omega, by go_num, by rw [HS.out, HE.out]⟩
            case measure => simp [intOf]; omega
      · have HE : Hid (k = R.length) := Lib.hid (by have := HN.out; omega)
        go_wp2_with fail
        go_ret2
        exact ⟨ret_pr (by rw [HR.out.2.2.1, HE.out]; rfl) HR.out.1.symm, Below.refl _ _⟩

set_option maxHeartbeats 8000000 in
set_option maxRecDepth 100000 in
theorem sbound_any (v : Value) (R : List (List Int)) (w : World) (hv : ReadsM w v R) (hx : R.length ≤ 1048576) (hr : ∀ j, j < R.length → (R.getD j []).length ≤ 1048576) :
    Calls Try.prog 28 #[v] w fun e w' => e = .returned (.tuple #[.int .i64 (boundR R), .int .i64 (codeM R)]) ∧ Below w.heap.size w w' := by
  have HV := Lib.hid hv
  have HX := Lib.hid hx
  have HRR := Lib.hid hr
  clear hv hx hr
  cases hvl : vldM R
  · have HR := Lib.hid (codeM_no hvl)
    go_enter Try.func28, Try.ntmps28
    go_wp2_with fail
    refine (sbags_eq _ R _ HV.out HX.out HRR.out).mono ?_
    rintro e w2 ⟨rfl, rfl⟩
    rw [hvl]
    go_wp2_with fail
    go_ret2
    exact ⟨ret_pr HR.out.2.2.1.symm HR.out.1.symm, Below.refl _ _⟩
  · have HR := Lib.hid (codeM_ok hvl)
    have HVL := Lib.hid hvl
    obtain ⟨g1, g4, hok⟩ := vldM_spec hvl
    have HOK := Lib.hid hok
    obtain ⟨a0, cap, rfl, hrd⟩ := HV.out
    obtain ⟨b, rfl, hc⟩ := hrd (fun e => by rw [e] at g1; simp at g1)
    have HC := Lib.hid hc
    obtain ⟨n, hn⟩ : ∃ n, R.length = n := ⟨_, rfl⟩
    have HN := Lib.hid hn
    rw [hn] at g1 g4 HV ⊢
    clear hc hok hrd hn
    go_enter Try.func28, Try.ntmps28
    go_wp2_with fail
    refine (sbags_eq _ R _ HV.out HX.out HRR.out).mono ?_
    rintro e w2 ⟨rfl, rfl⟩
    rw [hvl]
    clear hvl
    go_wp2_with fail
    go_loop [4, 5] (fun t i => ∃ k : Nat, k ≤ n ∧ i = .int .i64 k ∧ t = .int .i64 (boundK R k)) (fun _ i => n - (intOf i).toNat)
    case atStart => exact ⟨0, Nat.zero_le _, rfl, rfl⟩
    case round =>
      obtain ⟨k, hk, rfl, rfl⟩ := hrel
      by_cases hlt : k < n
      · have hkR : k < R.length := by have := HN.out; omega
        have hkn : (k : Int) < (n : Int) := by omega
        obtain ⟨a, cp, c0, r0⟩ := ReadsM.row HC.out hkR
        have HRD := Lib.hid r0
        have hr6 := (HOK.out k hkR).1
        have hbd := boundK_bd (fun r hr => HOK.out r (by omega) : RowsOk R k)
        have HS : Hid (boundK R (k + 1) = boundK R k + boundC (R.getD k []) (k : Int) (R.getD k []).length) := Lib.hid rfl
        obtain ⟨xs, hxs⟩ : ∃ xs, R.getD k [] = xs := ⟨_, rfl⟩
        rw [hxs] at c0 HRD hr6 HS
        obtain ⟨t, ht⟩ : ∃ t, boundK R k = t := ⟨_, rfl⟩
        rw [ht] at hbd HS ⊢
        obtain ⟨l, hl⟩ : ∃ l, xs.length = l := ⟨_, rfl⟩
        have HLL := Lib.hid hl
        rw [hl] at c0 hr6 HS
        have ht1 := hbd.1
        have ht2 : t ≤ 48 := by have := hbd.2; omega
        clear r0 hxs ht hl hbd
        go_wp2_with fail
        go_loop [4, 6, 7] (fun s z i => ∃ q : Nat, q ≤ l ∧ i = .int .i64 q ∧ z = .bool (anyW xs (k : Int) q) ∧ s = .int .i64 (t + boundC xs (k : Int) q)) (fun _ _ i => l - (intOf i).toNat)
        case atStart => exact ⟨0, Nat.zero_le _, rfl, rfl, by simp [boundC]⟩
        case round =>
          obtain ⟨q, hq, rfl, rfl, rfl⟩ := hrel
          by_cases hlq : q < l
          · have hqx : q < xs.length := by have := HLL.out; omega
            have hql : (q : Int) < (l : Int) := by omega
            obtain ⟨b2, hab, hcc⟩ : ∃ b2, a = some ⟨b2, 0, none⟩ ∧ Cells w b2 xs := by
              obtain ⟨a', cap', e1, e2⟩ := HRD.out
              simp only [Value.slice.injEq] at e1
              obtain ⟨rfl, _, rfl⟩ := e1
              exact e2 (fun e => by rw [e] at hqx; simp at hqx)
            subst hab
            have d0 := hcc q hqx
            have hwb := boundC_bd xs (k : Int) q
            have HS2 : Hid (boundC xs (k : Int) (q + 1) = boundC xs (k : Int) q + (if xs.getD q 0 ≠ (k : Int) then 1 else if anyW xs (k : Int) q then 2 else 0)) := Lib.hid rfl
            have HS3 : Hid (anyW xs (k : Int) (q + 1) = if xs.getD q 0 ≠ (k : Int) then true else anyW xs (k : Int) q) := Lib.hid rfl
            obtain ⟨x, hx⟩ : ∃ x, xs.getD q 0 = x := ⟨_, rfl⟩
            obtain ⟨c, hcv⟩ : ∃ c, boundC xs (k : Int) q = c := ⟨_, rfl⟩
            obtain ⟨z, hz⟩ : ∃ z, anyW xs (k : Int) q = z := ⟨_, rfl⟩
            rw [hx] at d0 HS2 HS3
            rw [hcv] at hwb HS2 ⊢
            rw [hz] at HS2 HS3 ⊢
            have hw1 := hwb.1
            have hw2 : c ≤ 12 := by have := hwb.2; omega
            clear hx hcc hcv hwb hz
            by_cases hxk : x = (k : Int)
            · have hb1 : (x != (k : Int)) = false := by simp [hxk]
              have HXK := Lib.hid hxk
              clear hxk
              cases z
              · go_wp2_with fail
                go_round
                case rel => exact ⟨q + 1, by omega, by go_num, by rw [HS3.out, if_neg (by simp [HXK.out])], by rw [HS2.out, if_neg (by simp [HXK.out]), if_neg (by simp), Int.add_zero]⟩
                case measure => simp [intOf]; omega
              · go_wp2_with fail
                go_round
                case rel => exact ⟨q + 1, by omega, by go_num, by rw [HS3.out, if_neg (by simp [HXK.out])], by rw [HS2.out, if_neg (by simp [HXK.out]), if_pos rfl]; go_num⟩
                case measure => simp [intOf]; omega
            · have hb1 : (x != (k : Int)) = true := by simp [hxk]
              go_wp2_with fail
              go_round
              case rel => exact ⟨q + 1, by omega, by go_num, by rw [HS3.out, if_pos hxk], by rw [HS2.out, if_pos hxk]; go_num⟩
              case measure => simp [intOf]; omega
          · have HE : Hid (q = l) := Lib.hid (by omega)
            go_wp2_with fail
            go_round
            case rel => exact ⟨k + 1, by omega, by go_num, by rw [HS.out, HE.out]⟩
            case measure => simp [intOf]; omega
      · have HE : Hid (k = R.length) := Lib.hid (by have := HN.out; omega)
        go_wp2_with fail
        go_ret2
        exact ⟨ret_pr (by rw [HR.out.2.2.1, HE.out]; rfl) HR.out.1.symm, Below.refl _ _⟩
end Go.Proofs.Ytadhoodddedjjab
