/-
  The model's CheapestTable.
-/
import Derived.Test.YtnjhkmoinlikiaaDoorCtV
namespace Go.Proofs.YtnjhkmoinlikiaaDoor
open Go Go.RowKit
set_option linter.unusedVariables false

set_option maxHeartbeats 1600000 in
set_option maxRecDepth 100000 in
theorem sct_any (v : Value) (ts : List Tb) (z n : Int) (w : World) (hv : ReadsTs w v ts) (hx : ts.length ≤ 1048576) (hok : TabsOk ts) :
    Calls Tryd.prog 5 #[v, .int .i64 z, .int .i64 n] w fun e w' => e = .returned (ctV z n ts) ∧ Below w.heap.size w w' := by
  obtain ⟨a, cap, rfl, ha⟩ := hv
  obtain ⟨len, hlen⟩ : ∃ n, ts.length = n := ⟨_, rfl⟩
  have HA := Lib.hid ha
  have HL := Lib.hid hlen
  have HOK := Lib.hid hok
  rw [hlen] at hx ⊢
  clear ha hlen hok
  obtain ⟨ans, hans⟩ : ∃ x, ctV z n ts = x := ⟨_, rfl⟩
  have HANS := Lib.hid hans
  rw [hans]
  clear hans
  go_enter Tryd.func5, Tryd.ntmps5
  go_wp2_with fail
  go_loopw [9] (fun i wr => ∃ k : Nat, k ≤ len ∧ i = .int .i64 k ∧ (∀ j, j < k → vldT (ts.getD j tb0).1 (ts.getD j tb0).2 = true) ∧ Below w.heap.size w wr) (fun i _ => len - (intOf i).toNat)
  case atStart => exact ⟨0, Nat.zero_le _, rfl, fun j hj => absurd hj (by omega), Below.refl _ _⟩
  case round =>
    obtain ⟨k, hk, rfl, hvk, hnx⟩ := hrel
    have HB := Lib.hid hnx
    have HVK := Lib.hid hvk
    have hwr : w.heap.size ≤ wr.heap.size := hnx.size
    by_cases hlt : k < len
    · have hkl : k < ts.length := by have := HL.out; omega
      obtain ⟨g, rfl, hc⟩ := HA.out (by intro e; rw [e] at hkl; simp at hkl)
      obtain ⟨u0, u1, c0, c1, r⟩ := hc k hkl
      have at0 := ReadsTs.at_ (v := .bool true) (ts := ts) hnx c0 c1 r
      have HKO := Lib.hid (HOK.out k hkl)
      have HBAD : Hid (vldT (ts.getD k tb0).1 (ts.getD k tb0).2 = false → ans = .tuple #[.int .i64 0, .int .i64 0, .int .i64 1]) := Lib.hid (fun h => HANS.out.symm.trans (ctV_1 (allVT_bad hkl h)))
      have HSUC : Hid (vldT (ts.getD k tb0).1 (ts.getD k tb0).2 = true → ∀ j, j < k + 1 → vldT (ts.getD j tb0).1 (ts.getD j tb0).2 = true) := Lib.hid (fun h j hj => by
        by_cases e : j = k
        · subst e; exact h
        · exact HVK.out j (by omega))
      have HCALL := Lib.hid (sokO_at g (k * 2) _ _ wr at0 HKO.out)
      have hkl2 : (k : Int) < (len : Int) := by omega
      clear c0 c1 r at0 hc hnx hvk hkl
      cases hvt : vldT (ts.getD k tb0).1 (ts.getD k tb0).2 with
      | true =>
        have HV := Lib.hid (HSUC.out hvt)
        rw [hvt] at HCALL
        clear hvt
        go_wp2_with fail
        refine (HCALL.out).mono ?_
        rintro e w2 ⟨rfl, b2⟩
        have HB2 : Hid (Below w.heap.size w w2) := Lib.hid (HB.out.trans (b2.mono hwr))
        clear b2
        go_wp2_with fail
        go_roundw
        case rel => exact ⟨k + 1, by omega, by go_num, HV.out, HB2.out⟩
        case measure => simp [intOf]; omega
      | false =>
        have HV := Lib.hid (HBAD.out hvt)
        rw [hvt] at HCALL
        clear hvt
        go_wp2_with fail
        refine (HCALL.out).mono ?_
        rintro e w2 ⟨rfl, b2⟩
        have HB2 : Hid (Below w.heap.size w w2) := Lib.hid (HB.out.trans (b2.mono hwr))
        clear b2
        go_wp2_with fail
        go_ret3
        exact ⟨by rw [HV.out]; rfl, HB2.out⟩
    · have hke : k = len := by omega
      subst hke
      have HAV : Hid (allVT ts = true) := Lib.hid (allVT_true (fun j hj => HVK.out j (by have := HL.out; omega)))
      clear hnx hvk
      cases hin : inB n 1 2000 with
      | false =>
        have HR := Lib.hid (HANS.out.symm.trans (ctV_2 (z := z) (n := n) HAV.out (.inr hin)))
        have HI := Lib.hid hin
        clear hin
        go_wp2_with fail
        refine (sweight_any n _).mono ?_
        rintro e w2 ⟨rfl, hw⟩
        subst hw
        rw [HI.out]
        go_wp2_with fail
        go_ret3
        exact ⟨by rw [HR.out]; rfl, HB.out⟩
      | true =>
      by_cases hz : z < 0
      · have t1 : decide (z < 0) = true := decide_eq_true hz
        have HR := Lib.hid (HANS.out.symm.trans (ctV_2 (z := z) (n := n) HAV.out (.inl hz)))
        have HI := Lib.hid hin
        clear hz hin
        go_wp2_with fail
        refine (sweight_any n _).mono ?_
        rintro e w2 ⟨rfl, hw⟩
        subst hw
        rw [HI.out]
        go_wp2_with fail
        go_ret3
        exact ⟨by rw [HR.out]; rfl, HB.out⟩
      · have t1 : decide (z < 0) = false := decide_eq_false hz
        have HNR : Hid (¬ (z < 0 ∨ inB n 1 2000 = false)) := Lib.hid (by
          rintro (h | h)
          · omega
          · rw [hin] at h; cases h)
        have HI := Lib.hid hin
        clear hin
        by_cases hl6 : 6 < k
        · have t4 : decide ((6 : Int) < (k : Int)) = true := decide_eq_true (by omega)
          have HR := Lib.hid (HANS.out.symm.trans (ctV_3 (z := z) (n := n) HAV.out HNR.out (by have := HL.out; omega)))
          clear hz
          go_wp2_with fail
          refine (sweight_any n _).mono ?_
          rintro e w2 ⟨rfl, hw⟩
          subst hw
          rw [HI.out]
          go_wp2_with fail
          go_ret3
          exact ⟨by rw [HR.out]; rfl, HB.out⟩
        · have t4 : decide ((6 : Int) < (k : Int)) = false := decide_eq_false (by omega)
          go_wp2_with fail
          refine (sweight_any n _).mono ?_
          rintro e w2 ⟨rfl, hw⟩
          subst hw
          rw [HI.out]
          go_wp2_with fail
          go_loopw [10, 11, 12] (fun b l i wq => ∃ j : Nat, j ≤ k ∧ i = .int .i64 j ∧ b = .int .i64 (ctS z n ts j).1 ∧ l = .int .i64 (ctS z n ts j).2 ∧ Below w.heap.size w wq) (fun _ _ i _ => k - (intOf i).toNat)
          case atStart => exact ⟨0, Nat.zero_le _, rfl, rfl, rfl, by exact HB.out⟩
          case round =>
            rename_i wq _
            obtain ⟨j, hj, rfl, rfl, rfl, hnx⟩ := hrel
            have HBQ := Lib.hid hnx
            obtain ⟨⟨b0, b1⟩, ⟨l0, l1⟩⟩ := ctS_in (z := z) (n := n) HAV.out j (by have := HL.out; omega)
            by_cases hlt2 : j < k
            · have hjl : j < ts.length := by have := HL.out; omega
              obtain ⟨g, rfl, hc⟩ := HA.out (by intro e; rw [e] at hjl; simp at hjl)
              obtain ⟨u0, u1, c0, c1, r⟩ := hc j hjl
              have at0 := ReadsTs.at_ (v := .bool true) (ts := ts) hnx c0 c1 r
              have HKO := Lib.hid (HOK.out j hjl)
              have HVT := Lib.hid (allVT_get HAV.out hjl)
              obtain ⟨t, ht⟩ : ∃ t, ts.getD j tb0 = t := ⟨_, rfl⟩
              rw [ht] at at0 HKO HVT
              obtain ⟨S, R⟩ := t
              simp only at at0 HKO HVT
              have HYES := Lib.hid (fun h1 h2 h3 => ctS_yes (z := z) (n := n) ht h1 h2 h3)
              have HNO := Lib.hid (fun h => ctS_no (z := z) (n := n) ht h)
              have HZO := Lib.hid (szoneO_any g (j * 2) S R z _ at0 HKO.out.rl)
              have HPR := Lib.hid (fun hz => spriceO_any g (j * 2) S R z n _ at0 HKO.out HVT.out hz)
              have HPB := Lib.hid (fun hz hs => prc_bound (z := z) (n := n) HVT.out hz hs)
              obtain ⟨st, hst⟩ : ∃ x, ctS z n ts j = x := ⟨_, rfl⟩
              rw [hst] at b0 b1 l0 l1 HYES HNO ⊢
              obtain ⟨bb, ll⟩ := st
              simp only at b0 b1 l0 l1 HYES HNO ⊢
              have hjk2 : (j : Int) < (k : Int) := by omega
              clear c0 c1 r at0 hc ht hnx hst hjl
              cases hzi : inB z 0 (R.length - 1) with
              | true =>
                have HP1 := Lib.hid (HPR.out hzi)
                rw [hzi] at HZO
                by_cases hstp : stp S n < S.length
                · have hp := HPB.out hzi hstp
                  have HV1 := Lib.hid (prcI_yes (z := z) (R := R) hstp)
                  have HY := Lib.hid (HYES.out hzi hstp)
                  have HN3 : Hid (¬ (bb < 0 ∨ prc S R z n < ll) → ctS z n ts (j + 1) = (bb, ll)) := Lib.hid (fun h => HNO.out (fun h2 => h h2.2.2))
                  obtain ⟨pp, hpp⟩ : ∃ x, prc S R z n = x := ⟨_, rfl⟩
                  rw [hpp] at hp HV1 HY HN3
                  obtain ⟨p0, p1⟩ := hp
                  have t8 : decide (0 ≤ pp) = true := decide_eq_true p0
                  clear hzi hpp hstp
                  by_cases hbb : bb < 0
                  · have t6 : decide (bb < 0) = true := decide_eq_true hbb
                    have HE : Hid (ctS z n ts (j + 1) = ((j : Int), pp)) := Lib.hid (HY.out (.inl hbb))
                    go_wp2_with fail
                    refine (HZO.out).mono ?_
                    rintro e w2 ⟨rfl, rfl⟩
                    go_wp2_with fail
                    refine (HP1.out).mono ?_
                    rintro e w3 ⟨rfl, rfl⟩
                    rw [HV1.out]
                    go_wp2_with fail
                    go_roundw
                    case rel => exact ⟨j + 1, by omega, by go_num, by rw [HE.out], by rw [HE.out], HBQ.out⟩
                    case measure => simp [intOf]; omega
                  · have t6 : decide (bb < 0) = false := decide_eq_false hbb
                    by_cases hpl : pp < ll
                    · have t7 : decide (pp < ll) = true := decide_eq_true hpl
                      have HE : Hid (ctS z n ts (j + 1) = ((j : Int), pp)) := Lib.hid (HY.out (.inr hpl))
                      go_wp2_with fail
                      refine (HZO.out).mono ?_
                      rintro e w2 ⟨rfl, rfl⟩
                      go_wp2_with fail
                      refine (HP1.out).mono ?_
                      rintro e w3 ⟨rfl, rfl⟩
                      rw [HV1.out]
                      go_wp2_with fail
                      go_roundw
                      case rel => exact ⟨j + 1, by omega, by go_num, by rw [HE.out], by rw [HE.out], HBQ.out⟩
                      case measure => simp [intOf]; omega
                    · have t7 : decide (pp < ll) = false := decide_eq_false hpl
                      have HE : Hid (ctS z n ts (j + 1) = (bb, ll)) := Lib.hid (HN3.out (by omega))
                      go_wp2_with fail
                      refine (HZO.out).mono ?_
                      rintro e w2 ⟨rfl, rfl⟩
                      go_wp2_with fail
                      refine (HP1.out).mono ?_
                      rintro e w3 ⟨rfl, rfl⟩
                      rw [HV1.out]
                      go_wp2_with fail
                      go_roundw
                      case rel => exact ⟨j + 1, by omega, by go_num, by rw [HE.out], by rw [HE.out], HBQ.out⟩
                      case measure => simp [intOf]; omega
                · have HV1 := Lib.hid (prcI_no (z := z) (R := R) hstp)
                  have HE : Hid (ctS z n ts (j + 1) = (bb, ll)) := Lib.hid (HNO.out (fun h => hstp h.2.1))
                  have t8 : decide ((0 : Int) ≤ -1) = false := by decide
                  clear hzi hstp
                  go_wp2_with fail
                  refine (HZO.out).mono ?_
                  rintro e w2 ⟨rfl, rfl⟩
                  go_wp2_with fail
                  refine (HP1.out).mono ?_
                  rintro e w3 ⟨rfl, rfl⟩
                  rw [HV1.out]
                  go_wp2_with fail
                  go_roundw
                  case rel => exact ⟨j + 1, by omega, by go_num, by rw [HE.out], by rw [HE.out], HBQ.out⟩
                  case measure => simp [intOf]; omega
              | false =>
                have HE : Hid (ctS z n ts (j + 1) = (bb, ll)) := Lib.hid (HNO.out (fun h => by rw [hzi] at h; cases h.1))
                rw [hzi] at HZO
                clear hzi
                go_wp2_with fail
                refine (HZO.out).mono ?_
                rintro e w2 ⟨rfl, rfl⟩
                go_wp2_with fail
                go_roundw
                case rel => exact ⟨j + 1, by omega, by go_num, by rw [HE.out], by rw [HE.out], HBQ.out⟩
                case measure => simp [intOf]; omega
            · have hje : j = k := by omega
              subst hje
              have HSE : Hid (ctS z n ts ts.length = ctS z n ts j) := Lib.hid (by rw [HL.out])
              by_cases hb0 : (ctS z n ts j).1 < 0
              · have HR := Lib.hid (HANS.out.symm.trans (ctV_6 (z := z) (n := n) HAV.out HNR.out (by have := HL.out; omega) (by rw [HSE.out]; exact hb0)))
                obtain ⟨st, hst⟩ : ∃ x, ctS z n ts j = x := ⟨_, rfl⟩
                rw [hst] at hb0 ⊢
                obtain ⟨bb, ll⟩ := st
                simp only at hb0 ⊢
                have t6 : decide (bb < 0) = true := decide_eq_true hb0
                clear hst hb0 b0 b1 l0 l1 hnx
                go_wp2_with fail
                go_ret3
                exact ⟨by rw [HR.out]; rfl, HBQ.out⟩
              · have HR := Lib.hid (HANS.out.symm.trans (ctV_0 (z := z) (n := n) HAV.out HNR.out (by have := HL.out; omega) (by rw [HSE.out]; exact hb0)))
                rw [HSE.out] at HR
                obtain ⟨st, hst⟩ : ∃ x, ctS z n ts j = x := ⟨_, rfl⟩
                rw [hst] at hb0 HR ⊢
                obtain ⟨bb, ll⟩ := st
                simp only at hb0 HR ⊢
                have t6 : decide (bb < 0) = false := decide_eq_false hb0
                clear hst hb0 b0 b1 l0 l1 hnx
                go_wp2_with fail
                go_ret3
                exact ⟨by rw [HR.out]; rfl, HBQ.out⟩
end Go.Proofs.YtnjhkmoinlikiaaDoor
