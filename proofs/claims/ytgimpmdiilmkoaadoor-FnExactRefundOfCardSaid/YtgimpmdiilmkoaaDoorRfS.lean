/-
  RefundOf: the model's.
-/
import Derived.Test.YtgimpmdiilmkoaaDoorRfP
import Derived.Test.YtgimpmdiilmkoaaDoorSwS
namespace Go.Proofs.YtgimpmdiilmkoaaDoor
open Go Go.RowKit
set_option linter.unusedVariables false

set_option maxHeartbeats 16000000 in
set_option maxRecDepth 100000 in
theorem srefund_any (v u x : Value) (ps : List Q5) (rs : List Q4) (ms : List Q3) (w : World) (hv : ReadsOd w v ps) (hu : ReadsRt w u rs) (hxr : ReadsMa w x ms) (hfo : FitsOd ps) (hfr : FitsRt rs) (hfm : FitsMa ms) (hx : ps.length ≤ 1048576) (hy : rs.length ≤ 1048576) (hz : ms.length ≤ 1048576) :
    Calls Tryd.prog 48 #[v, u, x] w fun e w' => e = .returned (.tuple #[.int .i64 (rfRes ps rs ms), .int .i64 (rfC ps rs ms)]) ∧ Below w.heap.size w w' := by
  have HV := Lib.hid hv
  have HU := Lib.hid hu
  obtain ⟨a, b, cap, rfl, ha, hc⟩ := cells_or0 hv
  obtain ⟨a2, b2, cap2, rfl, ha2, hc2⟩ := cells_or1 hu
  obtain ⟨a3, b3, cap3, rfl, ha3, hc3⟩ := cells_orM hxr
  clear ha2 hc2
  by_cases g : (vldOd ps && vldRt rs) = true
  · obtain ⟨g1, g2⟩ : vldOd ps = true ∧ vldRt rs = true := by simpa using g
    obtain ⟨hm, hok⟩ := vldOd_spec g1
    obtain ⟨hn, hok2⟩ := vldRt_spec g2
    have HB0 := Lib.hid (bkC_0 g)
    have H2 := Lib.hid (fun h => rf_2 (ms := ms) g h)
    have H0 := Lib.hid (fun h => rf_0 (ms := ms) g h)
    have HO := Lib.hid hok
    obtain ⟨m, hm'⟩ : ∃ m, ps.length = m := ⟨_, rfl⟩
    obtain ⟨n, hn'⟩ : ∃ n, rs.length = n := ⟨_, rfl⟩
    obtain ⟨l, hl'⟩ : ∃ l, ms.length = l := ⟨_, rfl⟩
    have HPM := Lib.hid hm'
    have HPN := Lib.hid hn'
    have HPL := Lib.hid hl'
    rw [hm'] at hm ha HV
    rw [hn'] at hn HU
    rw [hl'] at ha3 hz
    rw [hm', hn', hl']
    have HA := Lib.hid ha
    have HA3 := Lib.hid ha3
    have HC := Lib.hid hc
    have HC3 := Lib.hid hc3
    clear g g1 g2 hok hok2 hm' hn' hl' ha ha3 hc hc3
    go_enter Tryd.func48, Tryd.ntmps48
    go_wp2_with fail
    refine (sasked_any _ _ ps rs true _ HV.out HU.out hfo hfr hx hy).mono ?_
    rintro e w1 ⟨rfl, q1⟩
    rw [HB0.out]
    have HQ := Lib.hid q1
    have hs01 := q1.size
    clear q1
    go_wp2_with fail
    go_loopw [9] (fun i wr => ∃ k : Nat, k ≤ l ∧ i = .int .i64 k ∧ OkMaTo m n ms k ∧ Below w1.heap.size w1 wr) (fun i _ => l - (intOf i).toNat)
    case atStart => exact ⟨0, Nat.zero_le _, rfl, OkMaTo.zero _ _ _, Below.refl _ _⟩
    case round =>
      obtain ⟨k, hk, rfl, hr, hww⟩ := hrel
      have HR := Lib.hid hr
      have HB := Lib.hid hww
      have hwr : w1.heap.size ≤ wr.heap.size := hww.size
      by_cases hlt : k < l
      · obtain rfl := HA3.out (by omega)
        obtain ⟨c0, c1, c2⟩ := ((HC3.out.below HQ.out).below hww) k (by have := HPL.out; omega)
        have hf := hfm.get k (by have := HPL.out; omega)
        obtain ⟨q, hq⟩ : ∃ q, ms.getD k (0, 0, 0) = q := ⟨_, rfl⟩
        rw [hq] at c0 c1 c2 hf
        obtain ⟨x0, x1, x2⟩ := q
        unfold FitMa at hf
        simp only at hf
        obtain ⟨⟨l0, u0⟩, ⟨l1, u1⟩, l2, u2⟩ := hf
        have hkl : (k : Int) < (l : Int) := by omega
        have HOK : Hid (okMa m n (ms.getD k (0, 0, 0)) ↔ ((0 ≤ x0 ∧ x0 ≤ (n : Int) - 1) ∧ (0 ≤ x1 ∧ x1 ≤ (m : Int) - 1) ∧ 0 ≤ x2)) := Lib.hid (by unfold okMa; rw [hq])
        clear hq hr hww
        by_cases t0 : (0 : Int) ≤ x0 ∧ x0 ≤ (n : Int) - 1
        · have d0 := inB_true t0
          by_cases t1 : (0 : Int) ≤ x1 ∧ x1 ≤ (m : Int) - 1
          · have d1 := inB_true t1
            by_cases t2 : x2 < 0
            · have d2 : decide (x2 < 0) = true := decide_eq_true t2
              have HBAD := Lib.hid (H2.out (by rw [HPM.out, HPN.out]; exact allMa_bad (k := k) (by have := HPL.out; omega) (fun h => by have := HOK.out.1 h; omega)))
              clear t0 t1 t2
              go_wp2_with (go_at_call 72; refine (in_any _ _ _ _).mono ?_; rintro e w2 ⟨rfl, hw2⟩; subst hw2)
              go_ret2
              exact ⟨ret_tw' ⟨HBAD.out.2.symm, HBAD.out.1.symm⟩, by repeat (first | exact HQ.out.trans (HB.out.mono hs01) | refine Below.drew ?_ | refine Below.setCell ?_ (by first | (simp; done) | (simp; omega) | omega) _ | refine Below.alloc ?_ (by first | (simp; done) | (simp; omega) | omega) _)⟩
            · have d2 : decide (x2 < 0) = false := decide_eq_false t2
              have HS := Lib.hid (HR.out.succ (HOK.out.2 ⟨t0, t1, by omega⟩))
              clear t0 t1 t2
              go_wp2_with (go_at_call 72; refine (in_any _ _ _ _).mono ?_; rintro e w2 ⟨rfl, hw2⟩; subst hw2)
              go_roundw
              case rel => exact ⟨k + 1, by omega, by go_num, HS.out, by repeat (first | exact HB.out | refine Below.drew ?_ | refine Below.setCell ?_ (by first | (simp; done) | (simp; omega) | omega) _ | refine Below.alloc ?_ (by first | (simp; done) | (simp; omega) | omega) _)⟩
              case measure => simp [intOf]; omega
          · have d1 := inB_false t1
            have HBAD := Lib.hid (H2.out (by rw [HPM.out, HPN.out]; exact allMa_bad (k := k) (by have := HPL.out; omega) (fun h => t1 (HOK.out.1 h).2.1)))
            clear t0 t1
            go_wp2_with (go_at_call 72; refine (in_any _ _ _ _).mono ?_; rintro e w2 ⟨rfl, hw2⟩; subst hw2)
            go_ret2
            exact ⟨ret_tw' ⟨HBAD.out.2.symm, HBAD.out.1.symm⟩, by repeat (first | exact HQ.out.trans (HB.out.mono hs01) | refine Below.drew ?_ | refine Below.setCell ?_ (by first | (simp; done) | (simp; omega) | omega) _ | refine Below.alloc ?_ (by first | (simp; done) | (simp; omega) | omega) _)⟩
        · have d0 := inB_false t0
          have HBAD := Lib.hid (H2.out (by rw [HPM.out, HPN.out]; exact allMa_bad (k := k) (by have := HPL.out; omega) (fun h => t0 (HOK.out.1 h).1)))
          clear t0
          go_wp2_with (go_at_call 72; refine (in_any _ _ _ _).mono ?_; rintro e w2 ⟨rfl, hw2⟩; subst hw2)
          go_ret2
          exact ⟨ret_tw' ⟨HBAD.out.2.symm, HBAD.out.1.symm⟩, by repeat (first | exact HQ.out.trans (HB.out.mono hs01) | refine Below.drew ?_ | refine Below.setCell ?_ (by first | (simp; done) | (simp; omega) | omega) _ | refine Below.alloc ?_ (by first | (simp; done) | (simp; omega) | omega) _)⟩
      · have hk' : k = l := by omega
        have HALL : Hid (OkMaTo m n ms ms.length) := Lib.hid (by rw [HPL.out, ← hk']; exact hr)
        have HRE := Lib.hid (H0.out (by rw [HPM.out, HPN.out]; exact allMa_true HALL.out))
        clear hk' hr hww
        go_wp2_with fail
        go_loopw [11, 12] (fun s i wx => ∃ k : Nat, k ≤ l ∧ i = .int .i64 k ∧ s = .int .i64 (refTo ps ms k) ∧ Below w1.heap.size w1 wx) (fun _ i _ => l - (intOf i).toNat)
        case atStart => exact ⟨0, Nat.zero_le _, rfl, rfl, HB.out⟩
        case round =>
          obtain ⟨k, hk, rfl, rfl, hww⟩ := hrel
          have HB2 := Lib.hid hww
          have hwr2 := hww.size
          obtain ⟨p0, p1⟩ := refTo_in (k := k) HO.out (by have := HPL.out; omega) (fun i hi => HALL.out i (by have := HPL.out; omega)) hfm
          obtain ⟨wt, hwt⟩ : ∃ x, refTo ps ms k = x := ⟨_, rfl⟩
          rw [hwt] at p0 p1 ⊢
          by_cases hlt : k < l
          · obtain rfl := HA3.out (by omega)
            obtain ⟨c0, c1, c2⟩ := ((HC3.out.below HQ.out).below hww) k (by have := HPL.out; omega)
            have hok3 := HALL.out k (by have := HPL.out; omega)
            have hf := hfm.get k (by have := HPL.out; omega)
            obtain ⟨q, hq⟩ : ∃ q, ms.getD k (0, 0, 0) = q := ⟨_, rfl⟩
            rw [hq] at c0 c1 c2 hf hok3
            obtain ⟨x0, x1, x2⟩ := q
            unfold FitMa at hf
            unfold okMa at hok3
            simp only at hf hok3
            obtain ⟨⟨l0, u0⟩, ⟨l1, u1⟩, l2, u2⟩ := hf
            obtain ⟨⟨y0, y1⟩, ⟨y2, y3⟩, y4⟩ := hok3
            obtain ⟨j, rfl⟩ := Int.eq_ofNat_of_zero_le y2
            have hjm : j < m := by omega
            obtain rfl := HA.out (by omega)
            have pr := (price_in HO.out j)
            have e3 := (((HC.out.below HQ.out).below hww) j (by have := HPM.out; omega)).2.2.2.1
            obtain ⟨pc, hpc⟩ : ∃ x, (ps.getD j (0, 0, 0, 0, 0)).2.2.2.1 = x := ⟨_, rfl⟩
            rw [hpc] at e3 pr
            obtain ⟨pr0, pr1⟩ := pr
            have hmul := mul_in y4 u2 pr0 pr1
            obtain ⟨pd, hpd⟩ : ∃ x, x2 * pc = x := ⟨_, rfl⟩
            rw [hpd] at hmul
            obtain ⟨hml0, hml1⟩ := hmul
            have hkl : (k : Int) < (l : Int) := by omega
            have hjl : (j : Int) < (m : Int) := by omega
            have HPD := Lib.hid hpd
            have HN : Hid (refTo ps ms (k + 1) = wt + pd) := Lib.hid (by rw [refTo, hq, hwt]; simp only; rw [Int.toNat_natCast, hpc, hpd])
            clear hq hwt hww hpc hpd y0 y1 y3 l1
            go_wp2_with fail
            go_quiet (fail)
            go_wp2_with fail
            go_roundw
            case rel => exact ⟨k + 1, by omega, by go_num, by rw [HN.out, HPD.out, wr64 pd (by omega), wr64 (wt + pd) (by omega)], by repeat (first | exact HB2.out | exact below_drewN HB2.out _ | refine Below.drew ?_)⟩
            case measure => simp [intOf]; omega
          · have hk' : k = l := by omega
            have HE : Hid (wt = refTo ps ms ms.length) := Lib.hid (by rw [HPL.out, ← hk', hwt])
            clear hk' hwt hww
            go_wp2_with fail
            go_ret2
            exact ⟨ret_tw' ⟨by rw [HRE.out.2, HE.out], HRE.out.1.symm⟩, HQ.out.trans (HB2.out.mono hs01)⟩
  · have g : (vldOd ps && vldRt rs) = false := by simpa using g
    have HB0 := Lib.hid (bkC_1 (fine := true) g)
    have H1 := Lib.hid (rf_1 (ms := ms) g)
    clear g
    go_enter Tryd.func48, Tryd.ntmps48
    go_wp2_with fail
    refine (sasked_any _ _ ps rs true _ HV.out HU.out hfo hfr hx hy).mono ?_
    rintro e w1 ⟨rfl, q1⟩
    rw [HB0.out]
    go_wp2_with fail
    go_ret2
    exact ⟨ret_tw' ⟨H1.out.2.symm, H1.out.1.symm⟩, q1⟩
end Go.Proofs.YtgimpmdiilmkoaaDoor
