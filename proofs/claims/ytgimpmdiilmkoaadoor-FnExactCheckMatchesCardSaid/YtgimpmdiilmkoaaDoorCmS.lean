/-
  CheckMatches: the model's, where the arguments are as told.
-/
import Derived.Test.YtgimpmdiilmkoaaDoorCmC
import Derived.Test.YtgimpmdiilmkoaaDoorToJ
import Derived.Test.YtgimpmdiilmkoaaDoorSwS
import Derived.Deep.RegionLaw
namespace Go.Proofs.YtgimpmdiilmkoaaDoor
open Go Go.RowKit
set_option linter.unusedVariables false

theorem ret_cm {a b : Bool} {c d : Int} (h : a = b) (g : c = d) : Ending.returned (.tuple #[.bool a, .int .i64 c]) = .returned (.tuple #[.bool b, .int .i64 d]) := by rw [h, g]
theorem own_celC {w : World} {B g n cap k : Nat} {xs : List Int} (h : w.ownsRow B 2 1 (.slice (some ⟨g, 0, none⟩) n cap) n (xs.map (Value.int .i64))) (hl : xs.length = n) (hk : k < n) : w.cell? ⟨g, k, none⟩ = some (.int .i64 (xs.getD k 0)) := by
  rw [h.cellAt k (by omega)]
  simp [List.getD, hl, hk]

theorem cm_rows {W : World} {S H m n ri oj k : Nat} {ms : List Q3} {x2 sv hv : Int} (hS : W.ownsRow S 2 1 (.slice (some ⟨S, 0, none⟩) n n) n ((sentRow ms n k).map (Value.int .i64))) (hH : W.ownsRow H 2 1 (.slice (some ⟨H, 0, none⟩) m m) m ((hadRow ms m k).map (Value.int .i64)))
    (hne : S < H) (hr : (mAt ms k).1 = (ri : Int)) (ho : (mAt ms k).2.1 = (oj : Int)) (hx : (mAt ms k).2.2 = x2) (hsv : sentAt ms (ri : Int) k = sv) (hhv : hadAt ms (oj : Int) k = hv) :
    ((W.setCell ⟨S, ri, none⟩ (.int .i64 (sv + x2))).setCell ⟨H, oj, none⟩ (.int .i64 (hv + x2))).ownsRow S 2 1 (.slice (some ⟨S, 0, none⟩) n n) n ((sentRow ms n (k + 1)).map (Value.int .i64)) ∧
    ((W.setCell ⟨S, ri, none⟩ (.int .i64 (sv + x2))).setCell ⟨H, oj, none⟩ (.int .i64 (hv + x2))).ownsRow H 2 1 (.slice (some ⟨H, 0, none⟩) m m) m ((hadRow ms m (k + 1)).map (Value.int .i64)) := by
  have hlS := (hS.lt S rfl).2
  have s1 := (hS.stored ri (.int .i64 (sv + x2))).1
  rw [← List.map_set, ← hx, ← hsv, sentRow_set ms hr, hsv, hx] at s1
  have h1 : (W.setCell ⟨S, ri, none⟩ (.int .i64 (sv + x2))).ownsRow H 2 1 (.slice (some ⟨H, 0, none⟩) m m) m ((hadRow ms m k).map (Value.int .i64)) := own_set hH _ (show S < H from hne)
  have h2 := (h1.stored oj (.int .i64 (hv + x2))).1
  rw [← List.map_set, ← hx, ← hhv, hadRow_set ms ho, hhv, hx] at h2
  refine ⟨⟨s1.1, ?_⟩, h2⟩
  rcases s1.2 with hn | ⟨g, cap, cur, e, hB, hg, rest⟩
  · exact .inl hn
  · refine .inr ⟨g, cap, cur, e, hB, ?_, rest⟩
    have eg : S = g := by simp at e; exact e.1
    rw [heap_setCell_other _ ⟨H, oj, none⟩ g _ (by simp only; omega)]
    exact hg

set_option maxHeartbeats 16000000 in
set_option maxRecDepth 100000 in
theorem scheck_ok (v u x : Value) (ps : List Q5) (rs : List Q4) (ms : List Q3) (days : Int) (w : World) (hv : ReadsOd w v ps) (hu : ReadsRt w u rs) (hxr : ReadsMa w x ms) (hfo : FitsOd ps) (hfr : FitsRt rs) (hfm : FitsMa ms) (g1 : vldOd ps = true) (g2 : vldRt rs = true) (g3 : dayB days = true) (hl : ¬ 100 < ms.length) :
    Calls Tryd.prog 36 #[v, u, .int .i64 days, x] w fun e w' => e = .returned (.tuple #[.bool (rightB ps rs days ms), .int .i64 0]) ∧ Below w.heap.size w w' := by
  obtain ⟨i0, hi, hz0, hz1, hz2⟩ := info_parts info_i64
  have HV := Lib.hid hv
  have HU := Lib.hid hu
  obtain ⟨a, b, cap, rfl, ha, hc⟩ := cells_or0 hv
  obtain ⟨a2, b2, cap2, rfl, ha2, hc2⟩ := cells_or1 hu
  obtain ⟨a3, b3, cap3, rfl, ha3, hc3⟩ := cells_orM hxr
  obtain ⟨hm, hok⟩ := vldOd_spec g1
  obtain ⟨hn, hok2⟩ := vldRt_spec g2
  have HB0 := Lib.hid (show bkC ps rs true = 0 from bkC_0 (by rw [g1, g2]; rfl))
  have HD := Lib.hid g3
  have HBAD : Hid (∀ k, k < ms.length → ¬ cmOk ps rs days ms k → rightB ps rs days ms = false) := Lib.hid (fun k hk h => right_bad hk h)
  obtain ⟨RB, hRB⟩ : ∃ B, rightB ps rs days ms = B := ⟨_, rfl⟩
  rw [hRB] at HBAD ⊢
  have HRS : Hid (∀ r : Nat, r < rs.length → numR rs r < sentAt ms r ms.length → RB = false) := Lib.hid (fun r hr h => by rw [← hRB]; exact right_sent (Nat.le_refl _) hr h)
  have HRH : Hid (∀ o : Nat, o < ps.length → numO ps o < hadAt ms o ms.length → RB = false) := Lib.hid (fun o ho h => by rw [← hRB]; exact right_had (Nat.le_refl _) ho h)
  have HRT : Hid (Right ps rs days ms → RB = true) := Lib.hid (fun h => by rw [← hRB]; exact rightB_true h)
  obtain ⟨m, hm'⟩ : ∃ m, ps.length = m := ⟨_, rfl⟩
  obtain ⟨n, hn'⟩ : ∃ n, rs.length = n := ⟨_, rfl⟩
  obtain ⟨l, hl'⟩ : ∃ l, ms.length = l := ⟨_, rfl⟩
  have HPM := Lib.hid hm'
  have HPN := Lib.hid hn'
  have HPL := Lib.hid hl'
  rw [hm'] at hm ha HV
  rw [hn'] at hn ha2 HU
  rw [hl'] at ha3 hl
  rw [hm', hn', hl']
  have HA := Lib.hid ha
  have HA2 := Lib.hid ha2
  have HA3 := Lib.hid ha3
  have HC := Lib.hid hc
  have HC2 := Lib.hid hc2
  have HC3 := Lib.hid hc3
  have hl100 : l ≤ 100 := by omega
  have hd100 : decide ((100 : Int) < (l : Int)) = false := decide_eq_false (by omega)
  clear g1 g2 g3 hok hok2 hm' hn' hl' ha ha2 ha3 hc hc2 hc3 hRB hv hu hxr hl
  go_enter Tryd.func36, Tryd.ntmps36
  go_wp2_with fail
  refine (sdays_any _ _).mono ?_
  rintro e w1 ⟨rfl, hw1⟩
  rw [hw1, HD.out]
  clear hw1 w1
  go_wp2_with fail
  refine (sasked_any _ _ ps rs true _ HV.out HU.out hfo hfr (by have := HPM.out; omega) (by have := HPN.out; omega)).mono ?_
  rintro e w1 ⟨rfl, q1⟩
  rw [HB0.out]
  have HQ := Lib.hid q1
  have hs01 := q1.size
  clear q1
  go_wp2_with (first
    | (refine wpList_make_full _ rfl _ _ 46 rfl w1.heap.size 2 i0 (.int .i64 0) 1 Tryd.underlying46 hi hz0 hz1 .i64 .i64 _ _ n rfl rfl rfl rfl (by rw [hz2]; omega) (by unfold maxLen; omega) (Nat.le_refl _) ?_; intro w2 hown1 hg1)
    | (refine wpList_make_full _ rfl _ _ 46 rfl w2.heap.size 2 i0 (.int .i64 0) 1 Tryd.underlying46 hi hz0 hz1 .i64 .i64 _ _ m rfl rfl rfl rfl (by rw [hz2]; omega) (by unfold maxLen; omega) (Nat.le_refl _) ?_; intro w3 hown2 hg2))
  have hs12 : w1.heap.size < w2.heap.size := (hown1.lt w1.heap.size rfl).2
  have hs23 : w2.heap.size < w3.heap.size := (hown2.lt w2.heap.size rfl).2
  have hb12 : Below w1.heap.size w1 w2 := (Below.refl _ _).grown hg1 (Nat.le_refl _) (fun k hk => by simp at hk)
  have hb23 : Below w2.heap.size w2 w3 := (Below.refl _ _).grown hg2 (Nat.le_refl _) (fun k hk => by simp at hk)
  have HB13 : Hid (Below w1.heap.size w1 w3) := Lib.hid (hb12.trans (hb23.mono (by omega)))
  have HSE : Hid (w3.ownsRow w1.heap.size 2 1 (.slice (some ⟨w1.heap.size, 0, none⟩) n n) n ((sentRow ms n 0).map (Value.int .i64))) := Lib.hid (by
    rw [sentRow_zero, List.map_replicate]
    have e : (madeCells (Value.int .i64 0).cells (n * 1)).toList = List.replicate n (.int .i64 0) := by rw [Nat.mul_one]; exact toList_madeCells_one _ _
    rw [← e]
    exact row_keep hown1 hb23)
  have HHA : Hid (w3.ownsRow w2.heap.size 2 1 (.slice (some ⟨w2.heap.size, 0, none⟩) m m) m ((hadRow ms m 0).map (Value.int .i64))) := Lib.hid (by
    rw [hadRow_zero, List.map_replicate]
    have e : (madeCells (Value.int .i64 0).cells (m * 1)).toList = List.replicate m (.int .i64 0) := by rw [Nat.mul_one]; exact toList_madeCells_one _ _
    rw [← e]
    exact hown2)
  clear hown1 hown2 hg1 hg2 hb12 hb23
  go_loopw [13] (fun i wr => ∃ k : Nat, k ≤ l ∧ i = .int .i64 k ∧ wr.ownsRow w1.heap.size 2 1 (.slice (some ⟨w1.heap.size, 0, none⟩) n n) n ((sentRow ms n k).map (Value.int .i64)) ∧ wr.ownsRow w2.heap.size 2 1 (.slice (some ⟨w2.heap.size, 0, none⟩) m m) m ((hadRow ms m k).map (Value.int .i64)) ∧ (∀ i, i < k → cmOk ps rs days ms i) ∧ Below w1.heap.size w1 wr) (fun i _ => l - (intOf i).toNat)
  case atStart => exact ⟨0, Nat.zero_le _, rfl, HSE.out, HHA.out, fun i hi => absurd hi (by omega), HB13.out⟩
  case round =>
    obtain ⟨k, hk, rfl, hse, hha, hok, hww⟩ := hrel
    have HS := Lib.hid hse
    have HH := Lib.hid hha
    have HOK := Lib.hid hok
    have HB := Lib.hid hww
    have hwr : w1.heap.size ≤ wr.heap.size := hww.size
    have hwr2 : w2.heap.size < wr.heap.size := (hha.lt w2.heap.size rfl).2
    by_cases hlt : k < l
    · obtain rfl := HA3.out (by omega)
      have hkp : k < ms.length := by have := HPL.out; omega
      obtain ⟨c0, c1, c2⟩ := ((HC3.out.below HQ.out).below hww) k hkp
      have hf := hfm.get k hkp
      have HK : Hid (¬ cmOk ps rs days ms k → RB = false) := Lib.hid (HBAD.out k hkp)
      obtain ⟨q, hq⟩ : ∃ q, mAt ms k = q := ⟨_, rfl⟩
      have hq' : ms.getD k (0, 0, 0) = q := hq
      rw [hq'] at c0 c1 c2 hf
      obtain ⟨x0, x1, x2⟩ := q
      have HQK := Lib.hid hq
      unfold FitMa at hf
      simp only at hf
      obtain ⟨⟨l0, u0⟩, ⟨l1, u1⟩, l2, u2⟩ := hf
      have hkl : (k : Int) < (l : Int) := by omega
      have HFW : Hid (∀ o, Below w.heap.size w (wr.alloc o)) := Lib.hid (fun o => (HQ.out.trans (HB.out.mono hs01)).alloc (by omega) _)
      clear hq hq' hse hha hok hww
      by_cases t0 : (0 : Int) ≤ x0 ∧ x0 ≤ (n : Int) - 1
      · have d0 := inB_true t0
        by_cases t1 : (0 : Int) ≤ x1 ∧ x1 ≤ (m : Int) - 1
        · have d1 := inB_true t1
          by_cases t2 : x2 < 1
          · have d2 : decide (x2 < 1) = true := decide_eq_true t2
            have HR := Lib.hid (HK.out (fun h => by have h2 := h.1.2.2; rw [HQK.out] at h2; simp only at h2; omega))
            clear t0 t1 t2
            go_wp2_with (go_at_call 72; refine (in_any _ _ _ _).mono ?_; rintro e w4 ⟨rfl, hw4⟩; subst hw4)
            go_ret2
            exact ⟨ret_cm HR.out.symm rfl, HFW.out _⟩
          · have d2 : decide (x2 < 1) = false := decide_eq_false t2
            have HIX : Hid (cmIx ps.length rs.length (mAt ms k)) := Lib.hid (by rw [HPM.out, HPN.out, HQK.out]; exact ⟨t0, t1, by simp only; omega⟩)
            obtain ⟨y0, y1⟩ := t0
            obtain ⟨y2, y3⟩ := t1
            obtain ⟨ri, rfl⟩ := Int.eq_ofNat_of_zero_le y0
            obtain ⟨oj, rfl⟩ := Int.eq_ofNat_of_zero_le y2
            have hri : ri < n := by omega
            have hoj : oj < m := by omega
            have hri' : (ri : Int) < (n : Int) := by omega
            have hoj' : (oj : Int) < (m : Int) := by omega
            obtain rfl := HA.out (by omega)
            obtain rfl := HA2.out (by omega)
            obtain ⟨W1, e1⟩ : ∃ V, wr.alloc (.cells #[.int .i8 (ri : Int), .int .i8 (oj : Int), .int .i16 x2] 111) = V := ⟨_, rfl⟩
            have s1 : W1.heap.size = wr.heap.size + 1 := by rw [← e1]; simp
            have hal : Below wr.heap.size wr W1 := by rw [← e1]; exact (Below.refl _ _).alloc (Nat.le_refl _) _
            have f0 : W1.cell? ⟨wr.heap.size, 0, none⟩ = some (.int .i8 (ri : Int)) := by rw [← e1]; simp
            have f1 : W1.cell? ⟨wr.heap.size, 1, none⟩ = some (.int .i8 (oj : Int)) := by rw [← e1]; simp
            have f2 : W1.cell? ⟨wr.heap.size, 2, none⟩ = some (.int .i16 x2) := by rw [← e1]; simp
            have HE1 := Lib.hid e1
            have HAL := Lib.hid hal
            have HFF := Lib.hid (And.intro f0 (And.intro f1 f2))
            obtain ⟨cn, hcn⟩ : ∃ B, canR (ps.getD oj (0, 0, 0, 0, 0)) (rs.getD ri (0, 0, 0, 0)) days = B := ⟨_, rfl⟩
            have HCAN : Hid (∀ W, Below W1.heap.size W1 W → Calls Tryd.prog 73 #[.pointer (some ⟨b, oj * 5, none⟩), .pointer (some ⟨b2, ri * 4, none⟩), .int .i64 days] W fun e w' => e = .returned (.bool cn) ∧ Below W.heap.size W w') := Lib.hid (fun W hb => by
              have hbw : Below w.heap.size w W := ((HQ.out.trans (HB.out.mono hs01)).trans (hal.mono (by omega))).trans (hb.mono (by omega))
              have e5 := (HC.out.below hbw) oj (by have := HPM.out; omega)
              have e4 := (HC2.out.below hbw) ri (by have := HPN.out; omega)
              have fo := hfo.get oj (by have := HPM.out; omega)
              have fr := hfr.get ri (by have := HPN.out; omega)
              rw [← hcn]
              generalize ps.getD oj (0, 0, 0, 0, 0) = oq at e5 fo ⊢
              generalize rs.getD ri (0, 0, 0, 0) = rq at e4 fr ⊢
              obtain ⟨o0, o1, o2, o3, o4⟩ := oq
              obtain ⟨r0, r1, r2, r3⟩ := rq
              exact scan_any b b2 ri oj o0 o1 o2 o3 o4 r0 r1 r2 r3 days fo.2.2.2.2 fr.2.2.2 W e5.1 e5.2.1 e5.2.2.2.2 e4.1 e4.2.1 e4.2.2.2)
            have HCN : Hid (canR (ps.getD (mAt ms k).2.1.toNat (0, 0, 0, 0, 0)) (rs.getD (mAt ms k).1.toNat (0, 0, 0, 0)) days = cn) := Lib.hid (by rw [HQK.out]; simp only [Int.toNat_natCast]; exact hcn)
            clear hcn e1 hal y0 y1 y2 y3 t2
            go_wp2_with (go_at_call 72; refine (in_any _ _ _ _).mono ?_; rintro e w4 ⟨rfl, hw4⟩; subst hw4)
            rw [HE1.out]
            obtain ⟨wo, rfl⟩ : ∃ V, V = wr := ⟨wr, rfl⟩
            cases cn
            · have HR := Lib.hid (HK.out (fun h => by have h2 := h.2.1; rw [HCN.out] at h2; cases h2))
              go_region_law (go_simp; go_at_call 73; refine (HCAN.out _ ((Below.refl _ _).drew)).mono ?_; rintro e w5 ⟨rfl, b5⟩)
              all_goals
                go_wp2_with fail
                go_ret2
                exact ⟨ret_cm HR.out.symm rfl, ((HQ.out.trans (HB.out.mono hs01)).trans ((HAL.out.drew).mono (by omega))).trans (b5.mono (show w.heap.size ≤ W1.heap.size by omega))⟩
            · go_region_law (go_simp; go_at_call 73; refine (HCAN.out _ ((Below.refl _ _).drew)).mono ?_; rintro e w5 ⟨rfl, b5⟩)
              all_goals
                have E5 : Below wo.heap.size wo w5 := (HAL.out.drew).trans (b5.mono (show wo.heap.size ≤ W1.heap.size by omega))
                have HE5 := Lib.hid E5
                have hs5 := E5.size
                have hs5' : wo.heap.size + 1 ≤ w5.heap.size := by have h : W1.heap.size ≤ w5.heap.size := b5.size; omega
                have g0 := (b5.cell (p := ⟨wo.heap.size, 0, none⟩) (show wo.heap.size < W1.heap.size by omega)).trans HFF.out.1
                have g1 := (b5.cell (p := ⟨wo.heap.size, 1, none⟩) (show wo.heap.size < W1.heap.size by omega)).trans HFF.out.2.1
                have g2 := (b5.cell (p := ⟨wo.heap.size, 2, none⟩) (show wo.heap.size < W1.heap.size by omega)).trans HFF.out.2.2
                have HGG := Lib.hid (And.intro g0 (And.intro g1 g2))
                clear E5 b5 g0 g1 g2 f0 f1 f2 c0 c1 c2
                go_wp2_with fail
                go_loopw [15] (fun i wr => ∃ j : Nat, j ≤ k ∧ i = .int .i64 j ∧ (∀ j', j' < j → ¬ ((mAt ms j').1 = (ri : Int) ∧ (mAt ms j').2.1 = (oj : Int))) ∧ Below w5.heap.size w5 wr) (fun i _ => k - (intOf i).toNat)
                case atStart => exact ⟨0, Nat.zero_le _, rfl, fun j' hj => absurd hj (by omega), Below.refl _ _⟩
                case round =>
                  obtain ⟨j, hj, rfl, hnp, hwj⟩ := hrel
                  have HNP := Lib.hid hnp
                  have HBJ := Lib.hid hwj
                  have hwjs := hwj.size
                  have g0 := (hwj.cell (p := ⟨wo.heap.size, 0, none⟩) (by simp only; omega)).trans HGG.out.1
                  have g1 := (hwj.cell (p := ⟨wo.heap.size, 1, none⟩) (by simp only; omega)).trans HGG.out.2.1
                  have g2 := (hwj.cell (p := ⟨wo.heap.size, 2, none⟩) (by simp only; omega)).trans HGG.out.2.2
                  by_cases hjk : j < k
                  · obtain ⟨c0, c1, c2⟩ := (((HC3.out.below HQ.out).below HB.out).below (HE5.out.trans (hwj.mono hs5))) j (by have := HPL.out; omega)
                    obtain ⟨p, hp⟩ : ∃ p, mAt ms j = p := ⟨_, rfl⟩
                    have hp' : ms.getD j (0, 0, 0) = p := hp
                    rw [hp'] at c0 c1 c2
                    obtain ⟨p0, p1, p2⟩ := p
                    simp only at c0 c1 c2
                    have HPJ := Lib.hid hp
                    have hjk' : (j : Int) < (k : Int) := by omega
                    have hjl' : (j : Int) < (l : Int) := by omega
                    have hjl : j < l := by omega
                    clear hp hp' hnp hwj
                    by_cases t3 : p0 = (ri : Int)
                    · have e3 : (p0 == (ri : Int)) = true := by simpa using t3
                      by_cases t4 : p1 = (oj : Int)
                      · have e4 : (p1 == (oj : Int)) = true := by simpa using t4
                        have HR := Lib.hid (HK.out (fun h => h.2.2 j hjk (by rw [HPJ.out, HQK.out]; exact ⟨t3, t4⟩)))
                        clear t3 t4
                        go_wp2_with fail
                        go_quiet (fail)
                        go_wp2_with fail
                        go_ret2
                        exact ⟨ret_cm HR.out.symm rfl, below_drewN ((HQ.out.trans (HB.out.mono hs01)).trans ((HE5.out.trans (HBJ.out.mono hs5)).mono (by omega))) _⟩
                      · have e4 : (p1 == (oj : Int)) = false := by simpa using t4
                        have HN2 : Hid (∀ j', j' < j + 1 → ¬ ((mAt ms j').1 = (ri : Int) ∧ (mAt ms j').2.1 = (oj : Int))) := Lib.hid (fun j' hj' => by
                          by_cases e : j' = j
                          · subst e; rw [HPJ.out]; exact fun h => t4 h.2
                          · exact HNP.out j' (by omega))
                        clear t3 t4
                        go_wp2_with fail
                        go_quiet (fail)
                        go_wp2_with fail
                        go_roundw
                        case rel => exact ⟨j + 1, by omega, by go_num, HN2.out, below_drewN HBJ.out _⟩
                        case measure => simp [intOf]; omega
                    · have e3 : (p0 == (ri : Int)) = false := by simpa using t3
                      have HN2 : Hid (∀ j', j' < j + 1 → ¬ ((mAt ms j').1 = (ri : Int) ∧ (mAt ms j').2.1 = (oj : Int))) := Lib.hid (fun j' hj' => by
                        by_cases e : j' = j
                        · subst e; rw [HPJ.out]; exact fun h => t3 h.1
                        · exact HNP.out j' (by omega))
                      clear t3
                      go_wp2_with fail
                      go_quiet (fail)
                      go_wp2_with fail
                      go_roundw
                      case rel => exact ⟨j + 1, by omega, by go_num, HN2.out, below_drewN HBJ.out _⟩
                      case measure => simp [intOf]; omega
                  · have hjk' : j = k := by omega
                    have hcm : cmOk ps rs days ms k := ⟨HIX.out, HCN.out, by rw [HQK.out]; rw [← hjk']; exact hnp⟩
                    have HOK2 : Hid (∀ i, i < k + 1 → cmOk ps rs days ms i) := Lib.hid (fun i hi => by
                      by_cases e : i = k
                      · subst e; exact hcm
                      · exact HOK.out i (by omega))
                    have hwrj : Below wo.heap.size wo wr := HE5.out.trans (hwj.mono hs5)
                    have rS := row_keep HS.out hwrj
                    have rH := row_keep HH.out hwrj
                    have hnum : ∀ i, i < k → 1 ≤ (mAt ms i).2.2 := fun i hi => (HOK.out i hi).1.2.2
                    have bS := sentAt_in (r := (ri : Int)) hfm (show k ≤ ms.length by omega) hnum
                    have bH := hadAt_in (r := (oj : Int)) hfm (show k ≤ ms.length by omega) hnum
                    have kS := own_celC rS (sentRow_len ms n k) hri
                    have kH := own_celC rH (hadRow_len ms m k) hoj
                    rw [sentRow_get ms hri] at kS
                    rw [hadRow_get ms hoj] at kH
                    obtain ⟨sv, hsv⟩ : ∃ q, sentAt ms (ri : Int) k = q := ⟨_, rfl⟩
                    obtain ⟨hv, hhv⟩ : ∃ q, hadAt ms (oj : Int) k = q := ⟨_, rfl⟩
                    rw [hsv] at kS bS
                    rw [hhv] at kH bH
                    have fS := rS.frozenAt ri
                    have fH := rH.frozenAt oj
                    have HROWS := Lib.hid (cm_rows (x2 := x2) rS rH hs12 (by rw [HQK.out]) (by rw [HQK.out]) (by rw [HQK.out]) hsv hhv)
                    obtain ⟨bS0, bS1⟩ := bS
                    obtain ⟨bH0, bH1⟩ := bH
                    have hSH : w1.heap.size ≠ w2.heap.size := by omega
                    have hSB : w1.heap.size ≠ wo.heap.size := by omega
                    have hHB : w2.heap.size ≠ wo.heap.size := by omega
                    have HBF : Hid (Below w1.heap.size w1 wr) := Lib.hid (HB.out.trans (hwrj.mono hwr))
                    have yH : ∀ v, (wr.setCell ⟨w1.heap.size, ri, none⟩ v).cell? ⟨w2.heap.size, oj, none⟩ = some (.int .i64 hv) := fun v => bset_far hSH kH
                    have y1 : ∀ v, (wr.setCell ⟨w1.heap.size, ri, none⟩ v).cell? ⟨wo.heap.size, 1, none⟩ = some (.int .i8 (oj : Int)) := fun v => bset_far hSB g1
                    have y2 : ∀ v, (wr.setCell ⟨w1.heap.size, ri, none⟩ v).cell? ⟨wo.heap.size, 2, none⟩ = some (.int .i16 x2) := fun v => bset_far hSB g2
                    clear rS rH hsv hhv hcm hjk' hnp hwj hwrj hnum
                    go_wp2_with fail
                    go_region
                    all_goals
                      go_wp2_with fail
                      go_region
                      all_goals
                        go_wp2_with fail
                        go_roundw
                        case rel => exact ⟨k + 1, by omega, by go_num, HROWS.out.1, HROWS.out.2, HOK2.out, by repeat (first | exact HBF.out | refine Below.drew ?_ | refine Below.setCell ?_ (by simp only; omega) _)⟩
                        case measure => simp [intOf]; omega
        · have d1 := inB_false t1
          have HR := Lib.hid (HK.out (fun h => by have h2 := h.1.2.1; rw [HQK.out, HPM.out] at h2; exact t1 h2))
          clear t0 t1
          go_wp2_with (go_at_call 72; refine (in_any _ _ _ _).mono ?_; rintro e w4 ⟨rfl, hw4⟩; subst hw4)
          go_ret2
          exact ⟨ret_cm HR.out.symm rfl, HFW.out _⟩
      · have d0 := inB_false t0
        have HR := Lib.hid (HK.out (fun h => by have h2 := h.1.1; rw [HQK.out, HPN.out] at h2; exact t0 h2))
        clear t0
        go_wp2_with (go_at_call 72; refine (in_any _ _ _ _).mono ?_; rintro e w4 ⟨rfl, hw4⟩; subst hw4)
        go_ret2
        exact ⟨ret_cm HR.out.symm rfl, HFW.out _⟩
    · have hk' : k = l := by omega
      have hkl' : k = ms.length := by have := HPL.out; omega
      have HALL : Hid (∀ i, i < ms.length → cmOk ps rs days ms i) := Lib.hid (by rw [← hkl']; exact hok)
      have hnum : ∀ i, i < ms.length → 1 ≤ (mAt ms i).2.2 := fun i hi => (HALL.out i hi).1.2.2
      have HNUM := Lib.hid hnum
      have HS2 : Hid (wr.ownsRow w1.heap.size 2 1 (.slice (some ⟨w1.heap.size, 0, none⟩) n n) n ((sentRow ms n ms.length).map (Value.int .i64))) := Lib.hid (by rw [← hkl']; exact hse)
      have HH2 : Hid (wr.ownsRow w2.heap.size 2 1 (.slice (some ⟨w2.heap.size, 0, none⟩) m m) m ((hadRow ms m ms.length).map (Value.int .i64))) := Lib.hid (by rw [← hkl']; exact hha)
      clear hse hha hok hww hkl' hk' hnum
      obtain ⟨wo, rfl⟩ : ∃ V, V = wr := ⟨wr, rfl⟩
      go_wp2_with fail
      go_loopw [16] (fun i wr => ∃ r : Nat, r ≤ n ∧ i = .int .i64 r ∧ (∀ r' : Nat, r' < r → sentAt ms r' ms.length ≤ numR rs r') ∧ Below wo.heap.size wo wr) (fun i _ => n - (intOf i).toNat)
      case atStart => exact ⟨0, Nat.zero_le _, rfl, fun r' hr' => absurd hr' (by omega), Below.refl _ _⟩
      case round =>
        obtain ⟨r, hr, rfl, hpass, hwj⟩ := hrel
        have HPASS := Lib.hid hpass
        have HBJ := Lib.hid hwj
        have hwjs := hwj.size
        by_cases hrn : r < n
        · obtain rfl := HA2.out (by omega)
          have hrp : r < rs.length := by have := HPN.out; omega
          have kS := own_celC (row_keep HS2.out hwj) (sentRow_len ms n _) hrn
          rw [sentRow_get ms hrn] at kS
          have kR := ((((HC2.out.below HQ.out).below HB.out).below hwj) r hrp).2.2.1
          have fr := (hfr.get r hrp).2.2.1
          have bS := sentAt_in (r := (r : Int)) hfm (Nat.le_refl ms.length) HNUM.out
          have hnr : (rs.getD r (0, 0, 0, 0)).2.2.1 = numR rs r := rfl
          rw [hnr] at kR fr
          have HSR := HRS.out r hrp
          obtain ⟨sv, hsv⟩ : ∃ q, sentAt ms (r : Int) ms.length = q := ⟨_, rfl⟩
          obtain ⟨nv, hnv⟩ : ∃ q, numR rs r = q := ⟨_, rfl⟩
          rw [hsv] at kS bS HSR
          rw [hnv] at kR fr HSR
          obtain ⟨bS0, bS1⟩ := bS
          obtain ⟨fr0, fr1⟩ := fr
          have hri : (r : Int) < (n : Int) := by omega
          have HSV := Lib.hid (And.intro hsv hnv)
          clear hsv hnv hnr hpass hwj
          by_cases t : nv < sv
          · have d1 : decide (nv < sv) = true := decide_eq_true t
            have HR := Lib.hid (HSR t)
            clear HSR
            go_wp2_with fail
            go_quiet (fail)
            go_wp2_with fail
            go_ret2
            exact ⟨ret_cm HR.out.symm rfl, below_drewN ((HQ.out.trans (HB.out.mono hs01)).trans (HBJ.out.mono (by omega))) _⟩
          · have d1 : decide (nv < sv) = false := decide_eq_false t
            have HN2 : Hid (∀ r' : Nat, r' < r + 1 → sentAt ms r' ms.length ≤ numR rs r') := Lib.hid (fun r' hr' => by
              by_cases e : r' = r
              · subst e; rw [HSV.out.1, HSV.out.2]; omega
              · exact HPASS.out r' (by omega))
            clear HSR t
            go_wp2_with fail
            go_quiet (fail)
            go_wp2_with fail
            go_roundw
            case rel => exact ⟨r + 1, by omega, by go_num, HN2.out, below_drewN HBJ.out _⟩
            case measure => simp [intOf]; omega
        · have hrn' : r = n := by omega
          have HP1 : Hid (∀ r : Nat, r < rs.length → sentAt ms r ms.length ≤ numR rs r) := Lib.hid (fun r' hr' => hpass r' (by have := HPN.out; omega))
          obtain ⟨wp, rfl⟩ : ∃ V, V = wr := ⟨wr, rfl⟩
          clear hpass hrn'
          go_wp2_with fail
          go_loopw [17] (fun i wr => ∃ r : Nat, r ≤ m ∧ i = .int .i64 r ∧ (∀ r' : Nat, r' < r → hadAt ms r' ms.length ≤ numO ps r') ∧ Below wo.heap.size wo wr) (fun i _ => m - (intOf i).toNat)
          case atStart => exact ⟨0, Nat.zero_le _, rfl, fun r' hr' => absurd hr' (by omega), HBJ.out⟩
          case round =>
            obtain ⟨r2, hr2, rfl, hpass, hwq⟩ := hrel
            have HPASS2 := Lib.hid hpass
            have HBQ := Lib.hid hwq
            have hwqs := hwq.size
            by_cases hrn : r2 < m
            · obtain rfl := HA.out (by omega)
              have hrp : r2 < ps.length := by have := HPM.out; omega
              have kS := own_celC (row_keep HH2.out hwq) (hadRow_len ms m _) hrn
              rw [hadRow_get ms hrn] at kS
              have kR := ((((HC.out.below HQ.out).below HB.out).below hwq) r2 hrp).2.2.1
              have fr := (hfo.get r2 hrp).2.2.1
              have bS := hadAt_in (r := (r2 : Int)) hfm (Nat.le_refl ms.length) HNUM.out
              have hnr : (ps.getD r2 (0, 0, 0, 0, 0)).2.2.1 = numO ps r2 := rfl
              rw [hnr] at kR fr
              have HSR := HRH.out r2 hrp
              obtain ⟨sv, hsv⟩ : ∃ q, hadAt ms (r2 : Int) ms.length = q := ⟨_, rfl⟩
              obtain ⟨nv, hnv⟩ : ∃ q, numO ps r2 = q := ⟨_, rfl⟩
              rw [hsv] at kS bS HSR
              rw [hnv] at kR fr HSR
              obtain ⟨bS0, bS1⟩ := bS
              obtain ⟨fr0, fr1⟩ := fr
              have hri : (r2 : Int) < (m : Int) := by omega
              have HSV := Lib.hid (And.intro hsv hnv)
              clear hsv hnv hnr hpass hwq hwj
              by_cases t : nv < sv
              · have d1 : decide (nv < sv) = true := decide_eq_true t
                have HR := Lib.hid (HSR t)
                clear HSR
                go_wp2_with fail
                go_quiet (fail)
                go_wp2_with fail
                go_ret2
                exact ⟨ret_cm HR.out.symm rfl, below_drewN ((HQ.out.trans (HB.out.mono hs01)).trans (HBQ.out.mono (by omega))) _⟩
              · have d1 : decide (nv < sv) = false := decide_eq_false t
                have HN2 : Hid (∀ r' : Nat, r' < r2 + 1 → hadAt ms r' ms.length ≤ numO ps r') := Lib.hid (fun r' hr' => by
                  by_cases e : r' = r2
                  · subst e; rw [HSV.out.1, HSV.out.2]; omega
                  · exact HPASS2.out r' (by omega))
                clear HSR t
                go_wp2_with fail
                go_quiet (fail)
                go_wp2_with fail
                go_roundw
                case rel => exact ⟨r2 + 1, by omega, by go_num, HN2.out, below_drewN HBQ.out _⟩
                case measure => simp [intOf]; omega
            · have hrn' : r2 = m := by omega
              have HR : Hid (RB = true) := Lib.hid (HRT.out ⟨HALL.out, HP1.out, fun r' hr' => hpass r' (by have := HPM.out; omega)⟩)
              clear hpass hrn' hwq hwj
              go_wp2_with fail
              go_ret2
              exact ⟨ret_cm HR.out.symm rfl, (HQ.out.trans (HB.out.mono hs01)).trans (HBQ.out.mono (by omega))⟩
end Go.Proofs.YtgimpmdiilmkoaaDoor
