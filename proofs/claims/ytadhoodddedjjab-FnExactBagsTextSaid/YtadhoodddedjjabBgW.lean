/-
  Contracts of both WrongIn and both IsSorted.
-/
import Derived.Test.YtadhoodddedjjabBgS
namespace Go.Proofs.Ytadhoodddedjjab
open Go Go.RowKit
set_option linter.unusedVariables false

theorem ret_pr {a b c d : Int} (h : a = c) (g : b = d) : Ending.returned (.tuple #[.int .i64 a, .int .i64 b]) = .returned (.tuple #[.int .i64 c, .int .i64 d]) := by rw [h, g]
theorem ret_bn {a c : Bool} {b d : Int} (h : a = c) (g : b = d) : Ending.returned (.tuple #[.bool a, .int .i64 b]) = .returned (.tuple #[.bool c, .int .i64 d]) := by rw [h, g]

set_option maxHeartbeats 4000000 in
set_option maxRecDepth 100000 in
theorem iwrongM_row (b n cap : Nat) (R : List (List Int)) (hn : R.length = n) (h4 : n ≤ 4) (hok : RowsOk R R.length) (w : World)
    (hc : ∀ j, j < R.length → ∃ u, w.cell? ⟨b, j, none⟩ = some u ∧ ReadsI w u (R.getD j [])) :
    Calls Try.prog 40 #[.slice (some ⟨b, 0, none⟩) n cap] w fun e w' => e = .returned (.int .i64 (wrongM R)) ∧ w = w' := by
  have HN := Lib.hid hn
  have HC := Lib.hid hc
  have HOK := Lib.hid hok
  clear hn hc hok
  go_enter Try.func40, Try.ntmps40
  go_wp2_with fail
  go_loop [3, 10] (fun t i => ∃ k : Nat, k ≤ n ∧ i = .int .i64 k ∧ t = .int .i64 (wrongK R k)) (fun _ i => n - (intOf i).toNat)
  case atStart => exact ⟨0, Nat.zero_le _, rfl, rfl⟩
  case round =>
    obtain ⟨k, hk, rfl, rfl⟩ := hrel
    by_cases hlt : k < n
    · have hkR : k < R.length := by have := HN.out; omega
      obtain ⟨a, cp, c0, r0⟩ := ReadsM.row HC.out hkR
      have HRD := Lib.hid r0
      have hr6 := (HOK.out k hkR).1
      have hbd := wrongK_bd (fun r hr => HOK.out r (by omega) : RowsOk R k)
      have HS : Hid (wrongK R (k + 1) = wrongK R k + wrongC (R.getD k []) (k : Int) (R.getD k []).length) := Lib.hid rfl
      obtain ⟨xs, hxs⟩ : ∃ xs, R.getD k [] = xs := ⟨_, rfl⟩
      rw [hxs] at c0 HRD hr6 HS
      obtain ⟨t, ht⟩ : ∃ t, wrongK R k = t := ⟨_, rfl⟩
      rw [ht] at hbd HS ⊢
      obtain ⟨l, hl⟩ : ∃ l, xs.length = l := ⟨_, rfl⟩
      have HLL := Lib.hid hl
      rw [hl] at c0 hr6 HS
      have ht1 := hbd.1
      have ht2 : t ≤ 24 := by have := hbd.2; omega
      clear r0 hxs ht hl hbd
      go_wp2_with fail
      go_loop [3, 17] (fun s i => ∃ q : Nat, q ≤ l ∧ i = .int .i64 q ∧ s = .int .i64 (t + wrongC xs (k : Int) q)) (fun _ i => l - (intOf i).toNat)
      case atStart => exact ⟨0, Nat.zero_le _, rfl, by simp [wrongC]⟩
      case round =>
        obtain ⟨q, hq, rfl, rfl⟩ := hrel
        by_cases hlq : q < l
        · have hqx : q < xs.length := by have := HLL.out; omega
          obtain ⟨b2, hab, hcc⟩ : ∃ b2, a = some ⟨b2, 0, none⟩ ∧ Cells w b2 xs := by
            obtain ⟨a', cap', e1, e2⟩ := HRD.out
            simp only [Value.slice.injEq] at e1
            obtain ⟨rfl, _, rfl⟩ := e1
            exact e2 (fun e => by rw [e] at hqx; simp at hqx)
          subst hab
          have d0 := hcc q hqx
          have hwb := wrongC_bd xs (k : Int) q
          have HS2 : Hid (wrongC xs (k : Int) (q + 1) = wrongC xs (k : Int) q + (if xs.getD q 0 ≠ (k : Int) then 1 else 0)) := Lib.hid rfl
          obtain ⟨x, hx⟩ : ∃ x, xs.getD q 0 = x := ⟨_, rfl⟩
          obtain ⟨c, hcv⟩ : ∃ c, wrongC xs (k : Int) q = c := ⟨_, rfl⟩
          rw [hx] at d0 HS2
          rw [hcv] at hwb HS2 ⊢
          have hw1 := hwb.1
          have hw2 : c ≤ 6 := by have := hwb.2; omega
          clear hx hcc hcv hwb
          by_cases hxk : x = (k : Int)
          · have hb1 : (x != (k : Int)) = false := by simp [hxk]
            have HXK := Lib.hid hxk
            clear hxk
            go_wp2_with fail
            go_round
            case rel => exact ⟨q + 1, by omega, by go_num, by rw [HS2.out, if_neg (by simp [HXK.out]), Int.add_zero]⟩
            case measure => simp [intOf]; omega
          · have hb1 : (x != (k : Int)) = true := by simp [hxk]
            go_wp2_with fail
            go_round
            case rel => exact ⟨q + 1, by omega, by go_num, by rw [HS2.out, if_pos hxk]; go_num⟩
            case measure => simp [intOf]; omega
        · have HE : Hid (q = l) := Lib.hid (by omega)
          go_wp2_with fail
          go_round
          case rel => exact ⟨k + 1, by omega, by go_num, by rw [HS.out, HE.out]⟩
          case measure => simp [intOf]; omega
    · have HE : Hid (k = R.length) := Lib.hid (by have := HN.out; omega)
      go_wp2_with fail
      go_ret
      exact ⟨ret_int (by rw [HE.out]; rfl), rfl⟩
theorem iwrongM_any (v : Value) (R : List (List Int)) (w : World) (hv : ReadsM w v R) (hvl : vldM R = true) :
    Calls Try.prog 40 #[v] w fun e w' => e = .returned (.int .i64 (wrongM R)) ∧ w = w' := by
  obtain ⟨h1, h4, hok⟩ := vldM_spec hvl
  obtain ⟨a, cap, rfl, h⟩ := hv
  obtain ⟨b, rfl, hc⟩ := h (fun e => by rw [e] at h1; simp at h1)
  exact iwrongM_row b R.length cap R rfl h4 hok w hc
set_option maxHeartbeats 4000000 in
set_option maxRecDepth 100000 in
theorem swrongM_row (b n cap : Nat) (R : List (List Int)) (hn : R.length = n) (h4 : n ≤ 4) (hok : RowsOk R R.length) (w : World)
    (hc : ∀ j, j < R.length → ∃ u, w.cell? ⟨b, j, none⟩ = some u ∧ ReadsI w u (R.getD j [])) :
    Calls Try.prog 37 #[.slice (some ⟨b, 0, none⟩) n cap] w fun e w' => e = .returned (.int .i64 (wrongM R)) ∧ w = w' := by
  have HN := Lib.hid hn
  have HC := Lib.hid hc
  have HOK := Lib.hid hok
  clear hn hc hok
  go_enter Try.func37, Try.ntmps37
  go_wp2_with fail
  go_loop [3, 4] (fun t i => ∃ k : Nat, k ≤ n ∧ i = .int .i64 k ∧ t = .int .i64 (wrongK R k)) (fun _ i => n - (intOf i).toNat)
  case atStart => exact ⟨0, Nat.zero_le _, rfl, rfl⟩
  case round =>
    obtain ⟨k, hk, rfl, rfl⟩ := hrel
    by_cases hlt : k < n
    · have hkR : k < R.length := by have := HN.out; omega
      have hkn : (k : Int) < (n : Int) := by omega
      obtain ⟨a, cp, c0, r0⟩ := ReadsM.row HC.out hkR
      have HRD := Lib.hid r0
      have hr6 := (HOK.out k hkR).1
      have hbd := wrongK_bd (fun r hr => HOK.out r (by omega) : RowsOk R k)
      have HS : Hid (wrongK R (k + 1) = wrongK R k + wrongC (R.getD k []) (k : Int) (R.getD k []).length) := Lib.hid rfl
      obtain ⟨xs, hxs⟩ : ∃ xs, R.getD k [] = xs := ⟨_, rfl⟩
      rw [hxs] at c0 HRD hr6 HS
      obtain ⟨t, ht⟩ : ∃ t, wrongK R k = t := ⟨_, rfl⟩
      rw [ht] at hbd HS ⊢
      obtain ⟨l, hl⟩ : ∃ l, xs.length = l := ⟨_, rfl⟩
      have HLL := Lib.hid hl
      rw [hl] at c0 hr6 HS
      have ht1 := hbd.1
      have ht2 : t ≤ 24 := by have := hbd.2; omega
      clear r0 hxs ht hl hbd
      go_wp2_with fail
      go_loop [3, 5] (fun s i => ∃ q : Nat, q ≤ l ∧ i = .int .i64 q ∧ s = .int .i64 (t + wrongC xs (k : Int) q)) (fun _ i => l - (intOf i).toNat)
      case atStart => exact ⟨0, Nat.zero_le _, rfl, by simp [wrongC]⟩
      case round =>
        obtain ⟨q, hq, rfl, rfl⟩ := hrel
        by_cases hlq : q < l
        · have hqx : q < xs.length := by have := HLL.out; omega
          obtain ⟨b2, hab, hcc⟩ : ∃ b2, a = some ⟨b2, 0, none⟩ ∧ Cells w b2 xs := by
            obtain ⟨a', cap', e1, e2⟩ := HRD.out
            simp only [Value.slice.injEq] at e1
            obtain ⟨rfl, _, rfl⟩ := e1
            exact e2 (fun e => by rw [e] at hqx; simp at hqx)
          subst hab
          have d0 := hcc q hqx
          have hql : (q : Int) < (l : Int) := by omega
          have hwb := wrongC_bd xs (k : Int) q
          have HS2 : Hid (wrongC xs (k : Int) (q + 1) = wrongC xs (k : Int) q + (if xs.getD q 0 ≠ (k : Int) then 1 else 0)) := Lib.hid rfl
          obtain ⟨x, hx⟩ : ∃ x, xs.getD q 0 = x := ⟨_, rfl⟩
          obtain ⟨c, hcv⟩ : ∃ c, wrongC xs (k : Int) q = c := ⟨_, rfl⟩
          rw [hx] at d0 HS2
          rw [hcv] at hwb HS2 ⊢
          have hw1 := hwb.1
          have hw2 : c ≤ 6 := by have := hwb.2; omega
          clear hx hcc hcv hwb
          by_cases hxk : x = (k : Int)
          · have hb1 : (x != (k : Int)) = false := by simp [hxk]
            have HXK := Lib.hid hxk
            clear hxk
            go_wp2_with fail
            go_round
            case rel => exact ⟨q + 1, by omega, by go_num, by rw [HS2.out, if_neg (by simp [HXK.out]), Int.add_zero]⟩
            case measure => simp [intOf]; omega
          · have hb1 : (x != (k : Int)) = true := by simp [hxk]
            go_wp2_with fail
            go_round
            case rel => exact ⟨q + 1, by omega, by go_num, by rw [HS2.out, if_pos hxk]; go_num⟩
            case measure => simp [intOf]; omega
        · have HE : Hid (q = l) := Lib.hid (by omega)
          go_wp2_with fail
          go_round
          case rel => exact ⟨k + 1, by omega, by go_num, by rw [HS.out, HE.out]⟩
          case measure => simp [intOf]; omega
    · have HE : Hid (k = R.length) := Lib.hid (by have := HN.out; omega)
      go_wp2_with fail
      go_ret
      exact ⟨ret_int (by rw [HE.out]; rfl), rfl⟩
theorem swrongM_any (v : Value) (R : List (List Int)) (w : World) (hv : ReadsM w v R) (hvl : vldM R = true) :
    Calls Try.prog 37 #[v] w fun e w' => e = .returned (.int .i64 (wrongM R)) ∧ w = w' := by
  obtain ⟨h1, h4, hok⟩ := vldM_spec hvl
  obtain ⟨a, cap, rfl, h⟩ := hv
  obtain ⟨b, rfl, hc⟩ := h (fun e => by rw [e] at h1; simp at h1)
  exact swrongM_row b R.length cap R rfl h4 hok w hc

theorem codeM_no {R : List (List Int)} (h : vldM R = false) : codeM R = 1 ∧ wrongR R = 0 ∧ boundR R = 0 ∧ sortedR R = false := ⟨by simp [codeM, h], by simp [wrongR, h], by simp [boundR, h], by simp [sortedR, h]⟩
theorem codeM_ok {R : List (List Int)} (h : vldM R = true) : codeM R = 0 ∧ wrongR R = wrongM R ∧ boundR R = boundM R ∧ sortedR R = decide (wrongM R = 0) := ⟨by simp [codeM, h], by simp [wrongR, h], by simp [boundR, h], by simp [sortedR, h]⟩

set_option maxHeartbeats 2000000 in
theorem iwrong_any (v : Value) (R : List (List Int)) (w : World) (hv : ReadsM w v R) (hx : R.length ≤ 1048576) (hr : ∀ j, j < R.length → (R.getD j []).length ≤ 1048576) :
    Calls Try.prog 13 #[v] w fun e w' => e = .returned (.tuple #[.int .i64 (wrongR R), .int .i64 (codeM R)]) ∧ Below w.heap.size w w' := by
  have HV := Lib.hid hv
  have HX := Lib.hid hx
  have HRR := Lib.hid hr
  clear hv hx hr
  cases hvl : vldM R
  · have HR := Lib.hid (codeM_no hvl)
    go_enter Try.func13, Try.ntmps13
    go_wp2_with fail
    refine (ivldM_eq _ R _ HV.out HX.out HRR.out).mono ?_
    rintro e w2 ⟨rfl, rfl⟩
    rw [hvl]
    go_wp2_with fail
    go_ret2
    exact ⟨ret_pr HR.out.2.1.symm HR.out.1.symm, Below.refl _ _⟩
  · have HR := Lib.hid (codeM_ok hvl)
    have HVL := Lib.hid hvl
    go_enter Try.func13, Try.ntmps13
    go_wp2_with fail
    refine (ivldM_eq _ R _ HV.out HX.out HRR.out).mono ?_
    rintro e w2 ⟨rfl, rfl⟩
    rw [hvl]
    clear hvl
    go_wp2_with fail
    refine (iwrongM_any _ R _ HV.out HVL.out).mono ?_
    rintro e w3 ⟨rfl, rfl⟩
    go_wp2_with fail
    go_ret2
    exact ⟨ret_pr HR.out.2.1.symm HR.out.1.symm, Below.refl _ _⟩

set_option maxHeartbeats 2000000 in
theorem swrong_any (v : Value) (R : List (List Int)) (w : World) (hv : ReadsM w v R) (hx : R.length ≤ 1048576) (hr : ∀ j, j < R.length → (R.getD j []).length ≤ 1048576) :
    Calls Try.prog 11 #[v] w fun e w' => e = .returned (.tuple #[.int .i64 (wrongR R), .int .i64 (codeM R)]) ∧ Below w.heap.size w w' := by
  have HV := Lib.hid hv
  have HX := Lib.hid hx
  have HRR := Lib.hid hr
  clear hv hx hr
  cases hvl : vldM R
  · have HR := Lib.hid (codeM_no hvl)
    go_enter Try.func11, Try.ntmps11
    go_wp2_with fail
    refine (sbags_eq _ R _ HV.out HX.out HRR.out).mono ?_
    rintro e w2 ⟨rfl, rfl⟩
    rw [hvl]
    go_wp2_with fail
    go_ret2
    exact ⟨ret_pr HR.out.2.1.symm HR.out.1.symm, Below.refl _ _⟩
  · have HR := Lib.hid (codeM_ok hvl)
    have HVL := Lib.hid hvl
    go_enter Try.func11, Try.ntmps11
    go_wp2_with fail
    refine (sbags_eq _ R _ HV.out HX.out HRR.out).mono ?_
    rintro e w2 ⟨rfl, rfl⟩
    rw [hvl]
    clear hvl
    go_wp2_with fail
    refine (swrongM_any _ R _ HV.out HVL.out).mono ?_
    rintro e w3 ⟨rfl, rfl⟩
    go_wp2_with fail
    go_ret2
    exact ⟨ret_pr HR.out.2.1.symm HR.out.1.symm, Below.refl _ _⟩

set_option maxHeartbeats 2000000 in
theorem isorted_any (v : Value) (R : List (List Int)) (w : World) (hv : ReadsM w v R) (hx : R.length ≤ 1048576) (hr : ∀ j, j < R.length → (R.getD j []).length ≤ 1048576) :
    Calls Try.prog 27 #[v] w fun e w' => e = .returned (.tuple #[.bool (sortedR R), .int .i64 (codeM R)]) ∧ Below w.heap.size w w' := by
  have HV := Lib.hid hv
  have HX := Lib.hid hx
  have HRR := Lib.hid hr
  clear hv hx hr
  cases hvl : vldM R
  · have HR := Lib.hid (codeM_no hvl)
    go_enter Try.func27, Try.ntmps27
    go_wp2_with fail
    refine (ivldM_eq _ R _ HV.out HX.out HRR.out).mono ?_
    rintro e w2 ⟨rfl, rfl⟩
    rw [hvl]
    go_wp2_with fail
    go_ret2
    exact ⟨ret_bn HR.out.2.2.2.symm HR.out.1.symm, Below.refl _ _⟩
  · have HR := Lib.hid (codeM_ok hvl)
    have HVL := Lib.hid hvl
    go_enter Try.func27, Try.ntmps27
    go_wp2_with fail
    refine (ivldM_eq _ R _ HV.out HX.out HRR.out).mono ?_
    rintro e w2 ⟨rfl, rfl⟩
    rw [hvl]
    clear hvl
    go_wp2_with fail
    refine (iwrongM_any _ R _ HV.out HVL.out).mono ?_
    rintro e w3 ⟨rfl, rfl⟩
    by_cases h0 : wrongM R = 0
    · have hb : (wrongM R == 0) = true := by simp [h0]
      have H0 := Lib.hid h0
      clear h0
      go_wp2_with fail
      go_ret2
      exact ⟨ret_bn (by rw [HR.out.2.2.2]; simp [H0.out]) HR.out.1.symm, Below.refl _ _⟩
    · have hb : (wrongM R == 0) = false := by simp [h0]
      go_wp2_with fail
      go_ret2
      exact ⟨ret_bn (by rw [HR.out.2.2.2]; simp [h0]) HR.out.1.symm, Below.refl _ _⟩

set_option maxHeartbeats 2000000 in
theorem ssorted_any (v : Value) (R : List (List Int)) (w : World) (hv : ReadsM w v R) (hx : R.length ≤ 1048576) (hr : ∀ j, j < R.length → (R.getD j []).length ≤ 1048576) :
    Calls Try.prog 26 #[v] w fun e w' => e = .returned (.tuple #[.bool (sortedR R), .int .i64 (codeM R)]) ∧ Below w.heap.size w w' := by
  have HV := Lib.hid hv
  have HX := Lib.hid hx
  have HRR := Lib.hid hr
  clear hv hx hr
  cases hvl : vldM R
  · have HR := Lib.hid (codeM_no hvl)
    go_enter Try.func26, Try.ntmps26
    go_wp2_with fail
    refine (sbags_eq _ R _ HV.out HX.out HRR.out).mono ?_
    rintro e w2 ⟨rfl, rfl⟩
    rw [hvl]
    go_wp2_with fail
    go_ret2
    exact ⟨ret_bn HR.out.2.2.2.symm HR.out.1.symm, Below.refl _ _⟩
  · have HR := Lib.hid (codeM_ok hvl)
    have HVL := Lib.hid hvl
    go_enter Try.func26, Try.ntmps26
    go_wp2_with fail
    refine (sbags_eq _ R _ HV.out HX.out HRR.out).mono ?_
    rintro e w2 ⟨rfl, rfl⟩
    rw [hvl]
    clear hvl
    go_wp2_with fail
    refine (swrongM_any _ R _ HV.out HVL.out).mono ?_
    rintro e w3 ⟨rfl, rfl⟩
    by_cases h0 : wrongM R = 0
    · have hb : (wrongM R == 0) = true := by simp [h0]
      have H0 := Lib.hid h0
      clear h0
      go_wp2_with fail
      go_ret2
      exact ⟨ret_bn (by rw [HR.out.2.2.2]; simp [H0.out]) HR.out.1.symm, Below.refl _ _⟩
    · have hb : (wrongM R == 0) = false := by simp [h0]
      go_wp2_with fail
      go_ret2
      exact ⟨ret_bn (by rw [HR.out.2.2.2]; simp [h0]) HR.out.1.symm, Below.refl _ _⟩
end Go.Proofs.Ytadhoodddedjjab
