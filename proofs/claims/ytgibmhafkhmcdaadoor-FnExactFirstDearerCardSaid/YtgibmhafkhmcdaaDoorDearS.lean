/-
  The model's FirstDearer.
-/
import Derived.Test.YtgibmhafkhmcdaaDoorDearP
import Derived.Laws.OwnMore
namespace Go.Proofs.YtgibmhafkhmcdaaDoor
open Go Go.RowKit
set_option linter.unusedVariables false

theorem copied_one {P : List Int} {n : Nat} (hl : P.length = n + 1) (h0 : P.getD 0 0 = 0) : copied P 1 = List.replicate (n + 1) 0 := by
  rw [← copied_set P 0 (by omega), copied_zero, h0, hl, List.replicate_succ]
  rfl

set_option maxHeartbeats 2000000 in
set_option maxRecDepth 100000 in
theorem sDear_ok (v : Value) (S : List Int) (R : List (List Int)) (z : Int) (w : World) (hv : ReadsT w v S R) (k : TabOk S R) :
    Calls Tryd.prog 24 #[v, .int .i64 z] w fun e w' => e = .returned (.tuple #[.int .i64 (fdX S R z), .int .i64 (fdA S R z), .int .i64 (fdK S R z)]) ∧ Below w.heap.size w w' := by
  obtain ⟨v1, v2, rfl, h1, h2⟩ := hv
  have H := Lib.hid (AtT.box (T := 29) h1 h2)
  have K := Lib.hid k
  clear h1 h2 k
  by_cases hc : chk S R z [] = 0
  · obtain ⟨hc1, hc2, hc3, hc4⟩ := chk_spec hc
    have HA : Hid (asked S R z true = 0) := Lib.hid (by rw [← chk_nil]; exact hc)
    have HC := Lib.hid hc
    have HV := Lib.hid hc1
    have HZ := Lib.hid hc2
    obtain ⟨hs1, hs2, hs3⟩ := vldS_spec (vldT_spec hc1).1
    have hlb := lastS_bound (vldT_spec hc1).1
    obtain ⟨L, hL⟩ : ∃ L : Nat, lastS S = L := ⟨(lastS S).toNat, by omega⟩
    have hPL : (pl S R z).length = L + 1 := by rw [pl_len, hL]; simp
    have HPL := Lib.hid hPL
    have HL := Lib.hid hL
    rw [hL] at hlb
    obtain ⟨hl1, hl2⟩ := hlb
    obtain ⟨i0, hi, hz0, hz1, hz2⟩ := info_parts info_i64
    have hlm : S.length - 1 < S.length := by omega
    have hxl : S.getD (S.length - 1) 0 = (L : Int) := hL
    have HSTP : Hid (∀ q : Nat, q ≤ L → stp S (q : Int) < S.length) := Lib.hid (fun q hq => stp_last hs1 (by rw [hL]; omega))
    have hkm : ((S.length : Int) - 1).toNat = S.length - 1 := by omega
    have hkm2 : (S.length : Int) - 1 < (S.length : Int) := by omega
    have hkm3 : 0 ≤ (S.length : Int) - 1 := by omega
    have HXL := Lib.hid hxl
    have HLM := Lib.hid hlm
    have HS1 := Lib.hid hs1
    clear hc hc1 hc2 hc3 hc4 hs3 hPL hL hlm hxl
    go_enter Tryd.func24, Tryd.ntmps24
    go_wp2_with fail
    refine (asked_any w.heap.size S R z _ _ H.out K.out).mono ?_
    rintro e w2 ⟨rfl, b2⟩
    rw [HA.out]
    have C := Lib.hid (blink (allocB w _) b2)
    have H2 := Lib.hid (H.out.below b2)
    obtain ⟨a, cap, b, c2, c0, c1, hS, hR⟩ := H2.out.cells
    obtain ⟨g, rfl, hcs⟩ := hS (by intro e; have h := HS1.out; rw [e] at h; simp at h)
    have cx := hcs (S.length - 1) HLM.out
    rw [HXL.out] at cx
    have hl3 : (L : Int) ≤ 32767 := by omega
    clear b2 hS hR hcs
    go_wp2_with (refine wpList_make_full _ rfl _ _ 35 rfl w2.heap.size 2 i0 (.int .i64 0) 1 Tryd.underlying35 hi hz0 hz1 .i64 .i64 _ _ (L + 1) rfl rfl rfl rfl (by rw [hz2]; omega) (by unfold maxLen; omega) (Nat.le_refl _) ?_; intro w3 hown1 hg1)
    have hown2 := made_own hown1
    have HB3 : Hid (Below w2.heap.size w2 w3) := Lib.hid ((Below.refl _ _).grown hg1 (Nat.le_refl _) (fun k hk => by simp at hk))
    have HO3 : Hid (w3.ownsRow w2.heap.size 2 1 (.slice (some ⟨w2.heap.size, 0, none⟩) (L + 1) (L + 1)) (L + 1) ((copied (pl S R z) 1).map (Value.int .i64))) := Lib.hid (by rw [copied_one HPL.out (pl_0 S R z)]; exact hown2)
    clear hown1 hown2 hg1 c0 c1 cx
    go_wp2_with fail
    go_loopw [10] (fun i wr => ∃ q : Nat, 1 ≤ q ∧ q ≤ L + 1 ∧ i = .int .i64 q ∧ wr.ownsRow w2.heap.size 2 1 (.slice (some ⟨w2.heap.size, 0, none⟩) (L + 1) (L + 1)) (L + 1) ((copied (pl S R z) q).map (Value.int .i64)) ∧ Below w2.heap.size w2 wr) (fun i _ => L + 1 - (intOf i).toNat)
    case atStart => exact ⟨1, by omega, by omega, rfl, HO3.out, HB3.out⟩
    case round =>
      obtain ⟨q, hq1, hq, rfl, hown, hnx⟩ := hrel
      have HB := Lib.hid hnx
      have HO := Lib.hid hown
      by_cases hlt : q < L + 1
      · have hlt2 : (q : Int) ≤ (L : Int) := by omega
        have t0 : decide ((q : Int) ≤ (L : Int)) = true := by simp; omega
        have t0n : decide (q ≤ L) = true := by simp; omega
        have hst := HSTP.out q (by omega)
        have HP := Lib.hid (prcI_yes (z := z) (R := R) hst)
        have HG : Hid ((pl S R z).getD q 0 = prc S R z q) := Lib.hid (pl_get S R z q (by rw [HL.out]; simp; omega) (by omega))
        have H3 := Lib.hid (H2.out.below hnx)
        have f0 := hown.frozenAt q
        have d0 := own_cell hown q (by omega)
        have S1 := own_store hown q (prc S R z q)
        rw [← HG.out, copied_set (pl S R z) q (by rw [HPL.out]; omega), HG.out] at S1
        have HS := Lib.hid S1
        obtain ⟨y, hy⟩ : ∃ y, (copied (pl S R z) q).getD q 0 = y := ⟨_, rfl⟩
        rw [hy] at d0
        obtain ⟨p, hp⟩ : ∃ p, prc S R z q = p := ⟨_, rfl⟩
        rw [hp] at HP HS
        clear S1 hown hnx hst hy hp HG
        go_wp2_with fail
        refine (sprice_any w.heap.size S R z q _ H3.out K.out HV.out HZ.out).mono ?_
        rintro e w4 ⟨rfl, rfl⟩
        rw [HP.out]
        go_wp2_with fail
        go_roundw
        case rel => exact ⟨q + 1, by omega, by omega, by go_num, HS.out, HB.out.setCell (Nat.le_refl _) _⟩
        case measure => simp [intOf]; omega
      · have hq' : q = L + 1 := by omega
        have t0 : decide ((q : Int) ≤ (L : Int)) = false := by simp; omega
        have t0n : decide (q ≤ L) = false := by simp; omega
        have HW : Hid (wr.ownsRow w2.heap.size 2 1 (.slice (some ⟨w2.heap.size, 0, none⟩) (L + 1) (L + 1)) (L + 1) ((pl S R z).map (Value.int .i64))) := Lib.hid (by
          have h := hown
          rw [hq', show L + 1 = (pl S R z).length from HPL.out.symm, copied_all] at h
          rw [HPL.out] at h
          exact h)
        have HW2 : Hid (∀ (W : World), Below wr.heap.size wr W → ∀ j, j < L + 1 → W.cell? ⟨w2.heap.size, j, none⟩ = some (.int .i64 ((pl S R z).getD j 0))) := Lib.hid (fun W hW j hj => cbelow hW (own_cell HW.out j hj))
        clear hown hnx hq' HO
        go_wp2_with fail
        obtain ⟨wo, hwo⟩ : ∃ wo : World, wo = wr := ⟨_, rfl⟩
        rw [← hwo] at HW2 HB ⊢
        clear hwo HW
        go_loopw [11] (fun i wi => ∃ ww : Nat, 2 ≤ ww ∧ (ww ≤ L + 1 ∨ ww = 2) ∧ i = .int .i64 ww ∧ fair (pl S R z) ww ∧ Below wo.heap.size wo wi) (fun i _ => L + 1 - (intOf i).toNat)
        case atStart => exact ⟨2, by omega, by omega, rfl, fair.low _ 2 (by omega), Below.refl _ _⟩
        case round =>
          obtain ⟨ww, hw2, hw, rfl, hfair, hni⟩ := hrel
          have HF := Lib.hid hfair
          have HBI := Lib.hid hni
          by_cases hlw : ww < L + 1
          · have t1 : decide ((ww : Int) ≤ (L : Int)) = true := by simp; omega
            have t1n : decide (ww ≤ L) = true := by simp; omega
            clear hfair hni
            go_wp2_with fail
            obtain ⟨wi0, hwi0⟩ : ∃ wi0 : World, wi0 = wr := ⟨_, rfl⟩
            rw [← hwi0] at HBI ⊢
            clear hwi0
            go_loopw [12] (fun i wj => ∃ j : Nat, 1 ≤ j ∧ j ≤ ww ∧ i = .int .i64 j ∧ fairAt (pl S R z) ww j ∧ Below wo.heap.size wo wj) (fun i _ => ww + 1 - (intOf i).toNat)
            case atStart => exact ⟨1, by omega, by omega, rfl, fairAt.one _ _, HBI.out⟩
            case round =>
              obtain ⟨j, hj1, hj, rfl, hfa, hnj⟩ := hrel
              have HFA := Lib.hid hfa
              have HBJ := Lib.hid hnj
              by_cases h2j : 2 * j ≤ ww
              · have t2 : decide (2 * (j : Int) ≤ (ww : Int)) = true := by simp; omega
                have x1 := HW2.out _ hnj j (by omega)
                have x2 := HW2.out _ hnj (ww - j) (by omega)
                have x3 := HW2.out _ hnj ww (by omega)
                obtain ⟨p1, p2⟩ := pl_bound (z := z) HV.out HZ.out j
                obtain ⟨p3, p4⟩ := pl_bound (z := z) HV.out HZ.out (ww - j)
                have HD : Hid (dear (pl S R z) ww j ↔ (pl S R z).getD j 0 + (pl S R z).getD (ww - j) 0 < (pl S R z).getD ww 0) := Lib.hid ⟨fun h => h.2.2.2, fun h => ⟨hj1, h2j, by rw [HPL.out]; omega, h⟩⟩
                obtain ⟨a1, ha1⟩ : ∃ x, (pl S R z).getD j 0 = x := ⟨_, rfl⟩
                obtain ⟨a2, ha2⟩ : ∃ x, (pl S R z).getD (ww - j) 0 = x := ⟨_, rfl⟩
                obtain ⟨a3, ha3⟩ : ∃ x, (pl S R z).getD ww 0 = x := ⟨_, rfl⟩
                rw [ha1] at x1 p1 p2 HD
                rw [ha2] at x2 p3 p4 HD
                rw [ha3] at x3 HD
                have nu1 : ((ww : Int) - (j : Int)).toNat = ww - j := by omega
                have nu2 : (ww : Int) - (j : Int) < (L : Int) + 1 := by omega
                have nu3 : 0 ≤ (ww : Int) - (j : Int) := by omega
                have nu4 : (j : Int) < (L : Int) + 1 := by omega
                have nu5 : (ww : Int) < (L : Int) + 1 := by omega
                clear hfa hnj ha1 ha2 ha3
                by_cases hd : a1 + a2 < a3
                · have t3 : decide (a1 + a2 < a3) = true := by simp; omega
                  have HFD := Lib.hid (fd_found HC.out (first_of HF.out HFA.out (HD.out.2 hd)))
                  go_wp2_with fail
                  go_quiet (fail)
                  go_wp2_with fail
                  go_ret3
                  exact ⟨ret_eq (by rw [HFD.out.1, HFD.out.2.1, HFD.out.2.2]; rfl), blink C.out (blink HB.out (below_drewN HBJ.out _))⟩
                · have t3 : decide (a1 + a2 < a3) = false := by simp; omega
                  have HFA2 := Lib.hid (HFA.out.succ (fun h => hd (HD.out.1 h)))
                  go_wp2_with fail
                  go_quiet (fail)
                  go_wp2_with fail
                  go_roundw
                  case rel => exact ⟨j + 1, by omega, by omega, by go_num, HFA2.out, below_drewN HBJ.out _⟩
                  case measure => simp [intOf]; omega
              · have t2 : decide (2 * (j : Int) ≤ (ww : Int)) = false := by simp; omega
                have HF2 := Lib.hid (HF.out.succ hfa (by omega))
                clear hfa hnj
                go_wp2_with fail
                go_roundw
                case rel => exact ⟨ww + 1, by omega, by omega, by go_num, HF2.out, HBJ.out⟩
                case measure => simp [intOf]; omega
          · have t1 : decide ((ww : Int) ≤ (L : Int)) = false := by simp; omega
            have t1n : decide (ww ≤ L) = false := by simp; omega
            have HN := Lib.hid (fd_none HC.out (fair.all (P := pl S R z) (fun w' a' hw' => by
              by_cases h2 : ww = 2
              · exact fair.low (pl S R z) 2 (by omega) w' a' (by rw [HPL.out] at hw'; omega)
              · exact hfair w' a' (by rw [HPL.out] at hw'; omega))))
            clear hfair hni
            go_wp2_with fail
            go_ret3
            exact ⟨ret_eq (by rw [HN.out.1, HN.out.2.1, HN.out.2.2]; rfl), blink C.out (blink HB.out HBI.out)⟩
  · have HF := Lib.hid (fd_c hc)
    have HA := Lib.hid (chk_nil S R z)
    obtain ⟨c, hcc⟩ : ∃ c, asked S R z true = c := ⟨_, rfl⟩
    have t1 : (c != 0) = true := by rw [← hcc, ← HA.out]; simpa using hc
    have HC := Lib.hid hcc
    clear hc hcc
    go_enter Tryd.func24, Tryd.ntmps24
    go_wp2_with fail
    refine (asked_any w.heap.size S R z _ _ H.out K.out).mono ?_
    rintro e w2 ⟨rfl, b2⟩
    rw [HC.out]
    have C := Lib.hid (blink (allocB w _) b2)
    clear b2
    go_wp2_with fail
    go_ret3
    exact ⟨ret_eq (by rw [HF.out.1, HF.out.2.1, HF.out.2.2, HA.out, HC.out]; rfl), C.out⟩
end Go.Proofs.YtgibmhafkhmcdaaDoor
