/-
  The model's HeaviestFor.
-/
import Derived.Test.YtkhemijanhcibaaDoorHvP
namespace Go.Proofs.YtkhemijanhcibaaDoor
open Go Go.RowKit
set_option linter.unusedVariables false

set_option maxHeartbeats 2000000 in
set_option maxRecDepth 100000 in
theorem sHv_ok (v : Value) (S : List Int) (R : List (List Int)) (z p : Int) (w : World) (hv : ReadsT w v S R) (k : TabOk S R) :
    Calls Tryd.prog 22 #[v, .int .i64 z, .int .i64 p] w fun e w' => e = .returned (.tuple #[.int .i64 (hvX S R z p), .int .i64 (hvC S R z p)]) ∧ Below w.heap.size w w' := by
  obtain ⟨v1, v2, rfl, h1, h2⟩ := hv
  have H := Lib.hid (AtT.box (T := 29) h1 h2)
  have K := Lib.hid k
  clear h1 h2 k
  by_cases hc : askP S R z p = 0
  · have HC := Lib.hid hc
    have HX := Lib.hid (hv_0 hc)
    obtain ⟨h0, hc0⟩ : 0 ≤ p ∧ chk S R z [] = 0 := by
      unfold askP at hc
      by_cases h : chk S R z [] = 0
      · rw [if_pos h] at hc
        by_cases h0 : 0 ≤ p
        · exact ⟨h0, h⟩
        · rw [if_neg h0] at hc; omega
      · rw [if_neg h] at hc; exact absurd hc h
    obtain ⟨hc1, hc2, hc3, hc4⟩ := chk_spec hc0
    have t0 : decide (0 ≤ p) = true := decide_eq_true h0
    have HA : Hid (asked S R z true = 0) := Lib.hid (by rw [← t0, askP_eq]; exact hc)
    have HV := Lib.hid hc1
    have HZ := Lib.hid hc2
    have hzb := inB_spec hc2
    obtain ⟨zn, rfl⟩ : ∃ zn : Nat, z = zn := ⟨z.toNat, by omega⟩
    have hzr : zn < R.length := by omega
    have hrl : R.length ≤ 6 := (vldT_spec hc1).2.2.1
    obtain ⟨sg1, sg2, sg3⟩ := vldS_spec (vldT_spec hc1).1
    have HRS := Lib.hid sg3
    have HVS := Lib.hid (vldT_spec hc1).1
    clear hc hc0 hc1 hc2 hc3 hc4 hzb sg3
    go_enter Tryd.func22, Tryd.ntmps22
    go_wp2_with fail
    refine (asked_any w.heap.size S R zn _ _ H.out K.out).mono ?_
    rintro e w2 ⟨rfl, b2⟩
    rw [HA.out]
    have C := Lib.hid (blink (allocB w _) b2)
    have H2 := Lib.hid (H.out.below b2)
    obtain ⟨g, cap, gb, c2, gr, cr, c0, c1, hcs, d0, hq0⟩ := H2.out.row HV.out hzr
    have HCS := Lib.hid hcs
    have HQ : Hid (∀ q, q < S.length → w2.cell? ⟨gr, q, none⟩ = some (.int .i16 ((rowZ R zn).getD q 0))) := Lib.hid hq0
    have HRB := Lib.hid (rowZ_betw HV.out HZ.out).2
    obtain ⟨r, hr⟩ : ∃ r, R.length = r := ⟨_, rfl⟩
    obtain ⟨m, hm⟩ : ∃ m, S.length = m := ⟨_, rfl⟩
    have HM := Lib.hid hm
    rw [hr] at c1 hzr hrl
    rw [hm] at c0 d0 sg1 sg2
    have hzr2 : (zn : Int) < (r : Int) := by omega
    clear hcs hq0 b2 hr hm
    go_wp2_with fail
    go_loop [9, 10] (fun b i => ∃ q : Nat, q ≤ m ∧ i = .int .i64 q ∧ b = .int .i64 (hvK S R zn p q)) (fun _ i => m - (intOf i).toNat)
    case atStart => exact ⟨0, Nat.zero_le _, rfl, rfl⟩
    case round =>
      obtain ⟨q, hq, rfl, rfl⟩ := hrel
      by_cases hlt : q < m
      · have x := HQ.out q (by have := HM.out; omega)
        have xs := HCS.out q (by have := HM.out; omega)
        obtain ⟨xb1, xb2⟩ := HRB.out q (by have := HM.out; omega)
        have so := HRS.out q (by have := HM.out; omega)
        unfold okS at so
        obtain ⟨_, so1, so2⟩ := so
        have HY : Hid ((rowZ R zn).getD q 0 ≤ p → hvK S R zn p (q + 1) = S.getD q 0) := Lib.hid hvK_yes
        have HN : Hid (¬ (rowZ R zn).getD q 0 ≤ p → hvK S R zn p (q + 1) = hvK S R zn p q) := Lib.hid hvK_no
        obtain ⟨y, hy⟩ : ∃ y, (rowZ R zn).getD q 0 = y := ⟨_, rfl⟩
        obtain ⟨s, hs⟩ : ∃ y, S.getD q 0 = y := ⟨_, rfl⟩
        obtain ⟨b, hb⟩ : ∃ b, hvK S R zn p q = b := ⟨_, rfl⟩
        rw [hy] at x xb1 xb2 HY HN
        rw [hs] at xs so1 so2 HY
        rw [hb] at HN ⊢
        clear hy hs hb
        by_cases hle : y ≤ p
        · have HS := Lib.hid (HY.out hle)
          have t1 : decide (y ≤ p) = true := decide_eq_true hle
          go_wp2_with fail
          go_round
          case rel => exact ⟨q + 1, by omega, by go_num, by rw [HS.out]⟩
          case measure => simp [intOf]; omega
        · have HS := Lib.hid (HN.out hle)
          have t1 : decide (y ≤ p) = false := decide_eq_false hle
          go_wp2_with fail
          go_round
          case rel => exact ⟨q + 1, by omega, by go_num, by rw [HS.out]⟩
          case measure => simp [intOf]; omega
      · have hq' : q = m := by omega
        have HE : Hid (hvK S R zn p q = hvK S R zn p S.length) := Lib.hid (by rw [hq', HM.out])
        rw [HE.out]
        obtain ⟨b, hb⟩ : ∃ b, hvK S R zn p S.length = b := ⟨_, rfl⟩
        have HB := Lib.hid hb
        rw [hb]
        clear hq' HE hb
        by_cases hb0 : b = 0
        · subst hb0
          go_wp2_with fail
          go_ret2
          exact ⟨ret_eq (by rw [HX.out.1, HX.out.2, HB.out]; rfl), C.out⟩
        · have t2 : (b == 0) = false := by simpa using hb0
          have HB0 := Lib.hid hb0
          clear hb0
          go_wp2_with fail
          go_ret2
          exact ⟨ret_eq (by rw [HX.out.1, HX.out.2, HB.out, hvE_ne HB0.out]; rfl), C.out⟩
  · have HX := Lib.hid (hv_c hc)
    have HA := Lib.hid (askP_eq S R z p)
    obtain ⟨c, hcc⟩ : ∃ c, askP S R z p = c := ⟨_, rfl⟩
    have t1 : (c != 0) = true := by rw [← hcc]; simpa using hc
    have HC := Lib.hid hcc
    clear hc hcc
    by_cases h0 : 0 ≤ p
    · have t0 : decide (0 ≤ p) = true := decide_eq_true h0
      have HA2 : Hid (asked S R z true = c) := Lib.hid (by rw [← t0, HA.out, HC.out])
      go_enter Tryd.func22, Tryd.ntmps22
      go_wp2_with fail
      refine (asked_any w.heap.size S R z _ _ H.out K.out).mono ?_
      rintro e w2 ⟨rfl, b2⟩
      rw [HA2.out]
      have C := Lib.hid (blink (allocB w _) b2)
      clear b2
      go_wp2_with fail
      go_ret2
      exact ⟨ret_eq (by rw [HX.out.1, HX.out.2, HC.out]; rfl), C.out⟩
    · have t0 : decide (0 ≤ p) = false := decide_eq_false h0
      have HA2 : Hid (asked S R z false = c) := Lib.hid (by rw [← t0, HA.out, HC.out])
      go_enter Tryd.func22, Tryd.ntmps22
      go_wp2_with fail
      refine (asked_any w.heap.size S R z _ _ H.out K.out).mono ?_
      rintro e w2 ⟨rfl, b2⟩
      rw [HA2.out]
      have C := Lib.hid (blink (allocB w _) b2)
      clear b2
      go_wp2_with fail
      go_ret2
      exact ⟨ret_eq (by rw [HX.out.1, HX.out.2, HC.out]; rfl), C.out⟩
end Go.Proofs.YtkhemijanhcibaaDoor
