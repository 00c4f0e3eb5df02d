/-
  StillWith: the model's.
-/
import Derived.Test.YtgimpmdiilmkoaaDoorSwP
namespace Go.Proofs.YtgimpmdiilmkoaaDoor
open Go Go.RowKit
set_option linter.unusedVariables false

theorem smax0_any (n : Int) (w : World) : Calls Tryd.prog 52 #[.int .i64 0, .int .i64 n] w fun e w' => e = .returned (.int .i64 (mx0 n)) ∧ w' = w := by
  by_cases h : n < 0
  · have d1 : decide (n < 0) = true := decide_eq_true h
    have H := Lib.hid (mx0_neg h)
    clear h
    go_enter Tryd.func52, Tryd.ntmps52
    go_wp2
    go_ret
    exact ⟨ret_int H.out.symm, rfl⟩
  · have d1 : decide (n < 0) = false := decide_eq_false h
    have H := Lib.hid (mx0_pos h)
    clear h
    go_enter Tryd.func52, Tryd.ntmps52
    go_wp2
    go_ret
    exact ⟨ret_int H.out.symm, rfl⟩

set_option maxHeartbeats 1000000 in
theorem sasked_any (v u : Value) (ps : List Q5) (rs : List Q4) (fine : Bool) (w : World) (hv : ReadsOd w v ps) (hu : ReadsRt w u rs) (hfo : FitsOd ps) (hfr : FitsRt rs) (hx : ps.length ≤ 1048576) (hy : rs.length ≤ 1048576) :
    Calls Tryd.prog 50 #[v, u, .bool fine] w fun e w' => e = .returned (.int .i64 (bkC ps rs fine)) ∧ Below w.heap.size w w' := by
  by_cases g1 : vldOd ps = true
  · by_cases g2 : vldRt rs = true
    · have HO := Lib.hid g1
      have HR := Lib.hid g2
      cases fine
      · have HA := Lib.hid (bkC_2 (ps := ps) (rs := rs) (by rw [g1, g2]; rfl))
        clear g1 g2
        go_enter Tryd.func50, Tryd.ntmps50
        go_wp2_with fail
        refine (sokOd_any _ ps _ hv hfo hx).mono ?_
        rintro e w1 ⟨rfl, b1⟩
        rw [HO.out]
        go_wp2_with fail
        refine (sokRt_any _ rs _ (hu.below b1) hfr hy).mono ?_
        rintro e w2 ⟨rfl, b2⟩
        rw [HR.out]
        go_wp2_with fail
        go_ret
        exact ⟨ret_int HA.out.symm, blink b1 b2⟩
      · have HA := Lib.hid (bkC_0 (ps := ps) (rs := rs) (by rw [g1, g2]; rfl))
        clear g1 g2
        go_enter Tryd.func50, Tryd.ntmps50
        go_wp2_with fail
        refine (sokOd_any _ ps _ hv hfo hx).mono ?_
        rintro e w1 ⟨rfl, b1⟩
        rw [HO.out]
        go_wp2_with fail
        refine (sokRt_any _ rs _ (hu.below b1) hfr hy).mono ?_
        rintro e w2 ⟨rfl, b2⟩
        rw [HR.out]
        go_wp2_with fail
        go_ret
        exact ⟨ret_int HA.out.symm, blink b1 b2⟩
    · have g2 : vldRt rs = false := by simpa using g2
      have HO := Lib.hid g1
      have HR := Lib.hid g2
      have HA := Lib.hid (bkC_1 (ps := ps) (rs := rs) (fine := fine) (by rw [g1, g2]; rfl))
      clear g1 g2
      go_enter Tryd.func50, Tryd.ntmps50
      go_wp2_with fail
      refine (sokOd_any _ ps _ hv hfo hx).mono ?_
      rintro e w1 ⟨rfl, b1⟩
      rw [HO.out]
      go_wp2_with fail
      refine (sokRt_any _ rs _ (hu.below b1) hfr hy).mono ?_
      rintro e w2 ⟨rfl, b2⟩
      rw [HR.out]
      go_wp2_with fail
      go_ret
      exact ⟨ret_int HA.out.symm, blink b1 b2⟩
  · have g1 : vldOd ps = false := by simpa using g1
    have HO := Lib.hid g1
    have HA := Lib.hid (bkC_1 (ps := ps) (rs := rs) (fine := fine) (by rw [g1]; rfl))
    clear g1
    go_enter Tryd.func50, Tryd.ntmps50
    go_wp2_with fail
    refine (sokOd_any _ ps _ hv hfo hx).mono ?_
    rintro e w1 ⟨rfl, b1⟩
    rw [HO.out]
    go_wp2_with fail
    go_ret
    exact ⟨ret_int HA.out.symm, b1⟩

/-- A row's cells, or none where the list is empty. -/
theorem cells_or0 {w : World} {v : Value} {ps : List Q5} (h : ReadsOd w v ps) : ∃ a b cap, v = .slice a ps.length cap ∧ (ps.length ≠ 0 → a = some ⟨b, 0, none⟩) ∧ CellsOd w b ps := by
  obtain ⟨a, cap, rfl, h⟩ := h
  by_cases e : ps = []
  · subst e; exact ⟨a, 0, cap, rfl, fun h => absurd rfl h, fun i hi => absurd hi (by simp)⟩
  · obtain ⟨b, h1, h2⟩ := h e; exact ⟨a, b, cap, rfl, fun _ => h1, h2⟩
theorem cells_or1 {w : World} {v : Value} {ps : List Q4} (h : ReadsRt w v ps) : ∃ a b cap, v = .slice a ps.length cap ∧ (ps.length ≠ 0 → a = some ⟨b, 0, none⟩) ∧ CellsRt w b ps := by
  obtain ⟨a, cap, rfl, h⟩ := h
  by_cases e : ps = []
  · subst e; exact ⟨a, 0, cap, rfl, fun h => absurd rfl h, fun i hi => absurd hi (by simp)⟩
  · obtain ⟨b, h1, h2⟩ := h e; exact ⟨a, b, cap, rfl, fun _ => h1, h2⟩

set_option maxHeartbeats 8000000 in
set_option maxRecDepth 100000 in
theorem sstill_any (v u : Value) (ps : List Q5) (rs : List Q4) (buyer item : Int) (w : World) (hv : ReadsOd w v ps) (hu : ReadsRt w u rs) (hfo : FitsOd ps) (hfr : FitsRt rs) (hx : ps.length ≤ 1048576) (hy : rs.length ≤ 1048576) :
    Calls Tryd.prog 14 #[v, u, .int .i64 buyer, .int .i64 item] w fun e w' => e = .returned (.tuple #[.int .i64 (stillRes ps rs buyer item), .int .i64 (bkC ps rs (knownB buyer item))]) ∧ Below w.heap.size w w' := by
  obtain ⟨c, hcd⟩ : ∃ c, bkC ps rs (knownB buyer item) = c := ⟨_, rfl⟩
  obtain ⟨kn, hkn⟩ : ∃ B, knownB buyer item = B := ⟨_, rfl⟩
  have HKN := Lib.hid hkn
  have HCD : Hid (bkC ps rs kn = c) := Lib.hid (by rw [← hkn]; exact hcd)
  have HC2 := Lib.hid hcd
  have HV := Lib.hid hv
  have HU := Lib.hid hu
  obtain ⟨a, b, cap, rfl, ha, hc⟩ := cells_or0 hv
  obtain ⟨a2, b2, cap2, rfl, ha2, hc2⟩ := cells_or1 hu
  have HC := Lib.hid hc
  have HCC := Lib.hid hc2
  have HA := Lib.hid ha
  have HA2 := Lib.hid ha2
  clear hc hc2 ha ha2
  by_cases h : c = 0
  · subst h
    obtain ⟨g1, g2, g3⟩ := bkC_ok HC2.out
    have HRE : Hid (stillRes ps rs buyer item = mx0 (gotTo ps buyer item ps.length - backTo rs buyer item rs.length)) := Lib.hid (if_pos HC2.out)
    obtain ⟨hm, hok⟩ := vldOd_spec g1
    obtain ⟨hn, hok2⟩ := vldRt_spec g2
    have HO := Lib.hid hok
    have HO2 := Lib.hid hok2
    obtain ⟨m, hm'⟩ : ∃ m, ps.length = m := ⟨_, rfl⟩
    obtain ⟨n, hn'⟩ : ∃ n, rs.length = n := ⟨_, rfl⟩
    have HPM := Lib.hid hm'
    have HPN := Lib.hid hn'
    rw [hm'] at hm HA HV
    rw [hn'] at hn HA2 HU
    rw [hm', hn'] at HRE
    rw [hm', hn']
    clear g1 g2 g3 hok hok2 hcd hkn hm' hn'
    go_enter Tryd.func14, Tryd.ntmps14
    go_wp2_with fail
    refine (sknown_any _ _ _).mono ?_
    rintro e w1 ⟨rfl, hw1⟩
    rw [hw1, HKN.out]
    clear hw1 w1
    go_wp2_with fail
    refine (sasked_any _ _ ps rs kn _ HV.out HU.out hfo hfr (by have := HPM.out; omega) (by have := HPN.out; omega)).mono ?_
    rintro e w1 ⟨rfl, q1⟩
    rw [HCD.out]
    have HQ := Lib.hid q1
    go_wp2_with fail
    go_loopw [11, 12] (fun s i wr => ∃ k : Nat, k ≤ m ∧ i = .int .i64 k ∧ s = .int .i64 (gotTo ps buyer item k) ∧ w1 = wr) (fun _ i _ => m - (intOf i).toNat)
    case atStart => exact ⟨0, Nat.zero_le _, rfl, rfl, rfl⟩
    case round =>
      obtain ⟨k, hk, rfl, rfl, hww⟩ := hrel
      obtain ⟨v0, v1⟩ := gotTo_in (ps := ps) (buyer := buyer) (item := item) (k := k) (fun i hi => HO.out i (by have := HPM.out; omega))
      obtain ⟨wt, hwt⟩ : ∃ x, gotTo ps buyer item k = x := ⟨_, rfl⟩
      rw [hwt] at v0 v1 ⊢
      by_cases hlt : k < m
      · obtain rfl := HA.out (by omega)
        obtain ⟨c0, c1, c2, c3, c4⟩ := (HC.out.below HQ.out) k (by have := HPM.out; omega)
        have hf := hfo.get k (by have := HPM.out; omega)
        obtain ⟨q, hq⟩ : ∃ q, ps.getD k (0, 0, 0, 0, 0) = q := ⟨_, rfl⟩
        rw [hq] at c0 c1 c2 c3 c4 hf
        rw [hww] at c0 c1 c2 c3 c4
        obtain ⟨x0, x1, x2, x3, x4⟩ := q
        unfold FitOd at hf
        simp only at hf
        obtain ⟨⟨l0, u0⟩, ⟨l1, u1⟩, ⟨l2, u2⟩, ⟨l3, u3⟩, l4, u4⟩ := hf
        have hkl : (k : Int) < (m : Int) := by omega
        have hm40 : k < 40 := by omega
        by_cases t1 : x0 = buyer
        · by_cases t2 : x1 = item
          · have HN : Hid (gotTo ps buyer item (k + 1) = wt + x2) := Lib.hid (by rw [gotTo, hq, hwt]; simp only; rw [pcs_yes t1 t2])
            have d1 : (x0 == buyer) = true := by simpa using t1
            have d2 : (x1 == item) = true := by simpa using t2
            have HW := Lib.hid hww
            clear hq hwt t1 t2 hww
            go_wp2_with fail
            go_roundw
            case rel => exact ⟨k + 1, by omega, by go_num, by rw [HN.out], HW.out⟩
            case measure => simp [intOf]; omega
          · have HN : Hid (gotTo ps buyer item (k + 1) = wt) := Lib.hid (by rw [gotTo, hq, hwt]; simp only; rw [pcs_no (fun h => t2 h.2)]; omega)
            have d1 : (x0 == buyer) = true := by simpa using t1
            have d2 : (x1 == item) = false := by simpa using t2
            have HW := Lib.hid hww
            clear hq hwt t1 t2 hww
            go_wp2_with fail
            go_roundw
            case rel => exact ⟨k + 1, by omega, by go_num, by rw [HN.out], HW.out⟩
            case measure => simp [intOf]; omega
        · have HN : Hid (gotTo ps buyer item (k + 1) = wt) := Lib.hid (by rw [gotTo, hq, hwt]; simp only; rw [pcs_no (fun h => t1 h.1)]; omega)
          have d1 : (x0 == buyer) = false := by simpa using t1
          have HW := Lib.hid hww
          clear hq hwt t1 hww
          go_wp2_with fail
          go_roundw
          case rel => exact ⟨k + 1, by omega, by go_num, by rw [HN.out], HW.out⟩
          case measure => simp [intOf]; omega
      · have hk' : k = m := by omega
        have HE : Hid (wt = gotTo ps buyer item m) := Lib.hid (by rw [← hk', hwt])
        have hwt2 : 0 ≤ wt ∧ wt ≤ 4000 := by omega
        obtain ⟨wt0, wt1⟩ := hwt2
        have HW := Lib.hid hww
        clear hk' hwt v0 v1 hww
        go_wp2_with fail
        go_loopw [11, 13] (fun s i wr' => ∃ k : Nat, k ≤ n ∧ i = .int .i64 k ∧ s = .int .i64 (wt - backTo rs buyer item k) ∧ wr = wr') (fun _ i _ => n - (intOf i).toNat)
        case atStart => exact ⟨0, Nat.zero_le _, rfl, by simp [backTo], rfl⟩
        case round =>
          obtain ⟨k, hk, rfl, rfl, hww2⟩ := hrel
          obtain ⟨v0, v1⟩ := backTo_in (rs := rs) (buyer := buyer) (item := item) (k := k) (fun i hi => HO2.out i (by have := HPN.out; omega))
          obtain ⟨bt, hbt⟩ : ∃ x, backTo rs buyer item k = x := ⟨_, rfl⟩
          rw [hbt] at v0 v1 ⊢
          by_cases hlt : k < n
          · obtain rfl := HA2.out (by omega)
            obtain ⟨c0, c1, c2, c3⟩ := (HCC.out.below HQ.out) k (by have := HPN.out; omega)
            have hf := hfr.get k (by have := HPN.out; omega)
            obtain ⟨q, hq⟩ : ∃ q, rs.getD k (0, 0, 0, 0) = q := ⟨_, rfl⟩
            rw [hq] at c0 c1 c2 c3 hf
            rw [HW.out, hww2] at c0 c1 c2 c3
            obtain ⟨x0, x1, x2, x3⟩ := q
            unfold FitRt at hf
            simp only at hf
            obtain ⟨⟨l0, u0⟩, ⟨l1, u1⟩, ⟨l2, u2⟩, l3, u3⟩ := hf
            have hkl : (k : Int) < (n : Int) := by omega
            have hm40 : k < 40 := by omega
            by_cases t1 : x0 = buyer
            · by_cases t2 : x1 = item
              · have HN : Hid (backTo rs buyer item (k + 1) = bt + x2) := Lib.hid (by rw [backTo, hq, hbt]; simp only; rw [pcs_yes t1 t2])
                have d1 : (x0 == buyer) = true := by simpa using t1
                have d2 : (x1 == item) = true := by simpa using t2
                have HW2 := Lib.hid hww2
                clear hq hbt t1 t2 hww2
                go_wp2_with fail
                go_roundw
                case rel => exact ⟨k + 1, by omega, by go_num, by rw [HN.out]; go_num, HW2.out⟩
                case measure => simp [intOf]; omega
              · have HN : Hid (backTo rs buyer item (k + 1) = bt) := Lib.hid (by rw [backTo, hq, hbt]; simp only; rw [pcs_no (fun h => t2 h.2)]; omega)
                have d1 : (x0 == buyer) = true := by simpa using t1
                have d2 : (x1 == item) = false := by simpa using t2
                have HW2 := Lib.hid hww2
                clear hq hbt t1 t2 hww2
                go_wp2_with fail
                go_roundw
                case rel => exact ⟨k + 1, by omega, by go_num, by rw [HN.out], HW2.out⟩
                case measure => simp [intOf]; omega
            · have HN : Hid (backTo rs buyer item (k + 1) = bt) := Lib.hid (by rw [backTo, hq, hbt]; simp only; rw [pcs_no (fun h => t1 h.1)]; omega)
              have d1 : (x0 == buyer) = false := by simpa using t1
              have HW2 := Lib.hid hww2
              clear hq hbt t1 hww2
              go_wp2_with fail
              go_roundw
              case rel => exact ⟨k + 1, by omega, by go_num, by rw [HN.out], HW2.out⟩
              case measure => simp [intOf]; omega
          · have hk' : k = n := by omega
            have HE2 : Hid (bt = backTo rs buyer item n) := Lib.hid (by rw [← hk', hbt])
            have HW2 := Lib.hid hww2
            clear hk' hbt hww2
            go_wp2_with fail
            refine (smax0_any _ _).mono ?_
            rintro e w4 ⟨rfl, hw4⟩
            rw [hw4]
            go_wp2_with fail
            go_ret2
            exact ⟨ret_tw' ⟨by rw [HRE.out, HE.out, HE2.out], HC2.out.symm⟩, by rw [← HW2.out, ← HW.out]; exact HQ.out⟩
  · have HRE : Hid (stillRes ps rs buyer item = 0) := Lib.hid (if_neg (by rw [hcd]; exact h))
    have hcz : (c == 0) = false := by simpa using h
    clear hcd hkn
    go_enter Tryd.func14, Tryd.ntmps14
    go_wp2_with fail
    refine (sknown_any _ _ _).mono ?_
    rintro e w1 ⟨rfl, hw1⟩
    rw [hw1, HKN.out]
    clear hw1 w1
    go_wp2_with fail
    refine (sasked_any _ _ ps rs kn _ HV.out HU.out hfo hfr hx hy).mono ?_
    rintro e w1 ⟨rfl, q1⟩
    rw [HCD.out]
    have HQ := Lib.hid q1
    go_wp2_with fail
    go_ret2
    exact ⟨ret_tw' ⟨HRE.out.symm, HC2.out.symm⟩, HQ.out⟩
end Go.Proofs.YtgimpmdiilmkoaaDoor
