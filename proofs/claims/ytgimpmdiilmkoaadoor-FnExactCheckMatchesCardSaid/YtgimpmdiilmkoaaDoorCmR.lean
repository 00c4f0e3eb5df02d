/-
  areRight: the program's.
-/
import Derived.Test.YtgimpmdiilmkoaaDoorCmA
import Derived.Test.YtgimpmdiilmkoaaDoorBlk
import Derived.BigRegion
import Derived.Laws.AppendOwn
namespace Go.Proofs.YtgimpmdiilmkoaaDoor
open Go Go.RowKit
set_option linter.unusedVariables false

theorem z40_eq : ((List.replicate 40 (0 : Int)).map (Value.int .i64)).toArray = #[.int .i64 0, .int .i64 0, .int .i64 0, .int .i64 0, .int .i64 0, .int .i64 0, .int .i64 0, .int .i64 0, .int .i64 0, .int .i64 0, .int .i64 0, .int .i64 0, .int .i64 0, .int .i64 0, .int .i64 0, .int .i64 0, .int .i64 0, .int .i64 0, .int .i64 0, .int .i64 0, .int .i64 0, .int .i64 0, .int .i64 0, .int .i64 0, .int .i64 0, .int .i64 0, .int .i64 0, .int .i64 0, .int .i64 0, .int .i64 0, .int .i64 0, .int .i64 0, .int .i64 0, .int .i64 0, .int .i64 0, .int .i64 0, .int .i64 0, .int .i64 0, .int .i64 0, .int .i64 0] := rfl
theorem BlockI.z {W : World} {T : TypeId} {n : Nat} (hn : W.heap.size = n) : BlockI (W.alloc (.cells #[.int .i64 0, .int .i64 0, .int .i64 0, .int .i64 0, .int .i64 0, .int .i64 0, .int .i64 0, .int .i64 0, .int .i64 0, .int .i64 0, .int .i64 0, .int .i64 0, .int .i64 0, .int .i64 0, .int .i64 0, .int .i64 0, .int .i64 0, .int .i64 0, .int .i64 0, .int .i64 0, .int .i64 0, .int .i64 0, .int .i64 0, .int .i64 0, .int .i64 0, .int .i64 0, .int .i64 0, .int .i64 0, .int .i64 0, .int .i64 0, .int .i64 0, .int .i64 0, .int .i64 0, .int .i64 0, .int .i64 0, .int .i64 0, .int .i64 0, .int .i64 0, .int .i64 0, .int .i64 0] T)) n T (List.replicate 40 0) := by subst hn; exact BlockI.new W T (List.replicate 40 0)

set_option maxHeartbeats 4000000 in
set_option maxRecDepth 100000 in
theorem iright_any (a a2 a3 : Option Addr) (b b2 b3 m cap n cap2 l cap3 : Nat) (days : Int) (ps : List Q5) (rs : List Q4) (ms : List Q3) (hpm : ps.length = m) (hpn : rs.length = n) (hpl : ms.length = l) (hm : m ≤ 40) (hn : n ≤ 40) (hl : l ≤ 100)
    (ha : m ≠ 0 → a = some ⟨b, 0, none⟩) (ha2 : n ≠ 0 → a2 = some ⟨b2, 0, none⟩) (ha3 : l ≠ 0 → a3 = some ⟨b3, 0, none⟩) (hfo : FitsOd ps) (hfr : FitsRt rs) (hfm : FitsMa ms) (hnr : ∀ r : Nat, r < n → 0 ≤ numR rs r) (hno : ∀ o : Nat, o < m → 0 ≤ numO ps o) (w : World) (hc : CellsSo w b (ps.map soldO)) (hc2 : CellsSe w b2 rs) (hc3 : CellsMa w b3 ms) :
    Calls Tryd.prog 75 #[.agg #[.slice a m cap, .slice a2 n cap2, .int .i64 days], .slice a3 l cap3] w fun e w' => e = .returned (.bool (rightB ps rs days ms)) ∧ Below w.heap.size w w' := by
  obtain ⟨i0, hi, hz0, hz1, hz2⟩ := info_parts info_match
  have HPM := Lib.hid hpm
  have HPN := Lib.hid hpn
  have HPL := Lib.hid hpl
  have HA := Lib.hid ha
  have HA2 := Lib.hid ha2
  have HA3 := Lib.hid ha3
  have HC := Lib.hid hc
  have HC2 := Lib.hid hc2
  have HC3 := Lib.hid hc3
  have HFO := Lib.hid hfo
  have HFR := Lib.hid hfr
  have HFM := Lib.hid hfm
  have HNN := Lib.hid hnr
  have HNP := Lib.hid hno
  have HBAD : Hid (∀ k, k < ms.length → ¬ cmOk ps rs days ms k → rightB ps rs days ms = false) := Lib.hid (fun k hk h => right_bad hk h)
  obtain ⟨RB, hRB⟩ : ∃ B, rightB ps rs days ms = B := ⟨_, rfl⟩
  rw [hRB] at HBAD ⊢
  have HRS : Hid (∀ k, k ≤ ms.length → ∀ r : Nat, r < rs.length → numR rs r < sentAt ms r k → RB = false) := Lib.hid (fun k hk r hr h => by rw [← hRB]; exact right_sent hk hr h)
  have HRH : Hid (∀ k, k ≤ ms.length → ∀ o : Nat, o < ps.length → numO ps o < hadAt ms o k → RB = false) := Lib.hid (fun k hk o ho h => by rw [← hRB]; exact right_had hk ho h)
  have HRT : Hid (Right ps rs days ms → RB = true) := Lib.hid (fun h => by rw [← hRB]; exact rightB_true h)
  clear hpm hpn hpl ha ha2 ha3 hc hc2 hc3 hfo hfr hfm hnr hno hRB
  go_enter Tryd.func75, Tryd.ntmps75
  go_wp2_with fail
  obtain ⟨W0, e0⟩ : ∃ V, ((w.alloc (.cells #[.slice a m cap, .slice a2 n cap2, .int .i64 days] 84)).alloc (.cells #[.int .i64 0, .int .i64 0, .int .i64 0, .int .i64 0, .int .i64 0, .int .i64 0, .int .i64 0, .int .i64 0, .int .i64 0, .int .i64 0, .int .i64 0, .int .i64 0, .int .i64 0, .int .i64 0, .int .i64 0, .int .i64 0, .int .i64 0, .int .i64 0, .int .i64 0, .int .i64 0, .int .i64 0, .int .i64 0, .int .i64 0, .int .i64 0, .int .i64 0, .int .i64 0, .int .i64 0, .int .i64 0, .int .i64 0, .int .i64 0, .int .i64 0, .int .i64 0, .int .i64 0, .int .i64 0, .int .i64 0, .int .i64 0, .int .i64 0, .int .i64 0, .int .i64 0, .int .i64 0] 150)).alloc (.cells #[.int .i64 0, .int .i64 0, .int .i64 0, .int .i64 0, .int .i64 0, .int .i64 0, .int .i64 0, .int .i64 0, .int .i64 0, .int .i64 0, .int .i64 0, .int .i64 0, .int .i64 0, .int .i64 0, .int .i64 0, .int .i64 0, .int .i64 0, .int .i64 0, .int .i64 0, .int .i64 0, .int .i64 0, .int .i64 0, .int .i64 0, .int .i64 0, .int .i64 0, .int .i64 0, .int .i64 0, .int .i64 0, .int .i64 0, .int .i64 0, .int .i64 0, .int .i64 0, .int .i64 0, .int .i64 0, .int .i64 0, .int .i64 0, .int .i64 0, .int .i64 0, .int .i64 0, .int .i64 0] 150) = V := ⟨_, rfl⟩
  have s0 : W0.heap.size = w.heap.size + 3 := by rw [← e0]; simp
  have bb0 : BlkA W0 w.heap.size 84 #[.slice a m cap, .slice a2 n cap2, .int .i64 days] := by rw [← e0]; exact ((BlkA.new rfl _ _).alloc _).alloc _
  have z0 : W0.cell? ⟨w.heap.size, 0, none⟩ = some (.slice a m cap) := by rw [bb0.at]; rfl
  have z1 : W0.cell? ⟨w.heap.size, 1, none⟩ = some (.slice a2 n cap2) := by rw [bb0.at]; rfl
  have z2 : W0.cell? ⟨w.heap.size, 2, none⟩ = some (.int .i64 days) := by rw [bb0.at]; rfl
  have HS0 : Hid (BlockI W0 (w.heap.size + 1) 150 (sentRow ms 40 0)) := Lib.hid (by rw [← e0, sentRow_zero]; exact (BlockI.z (by simp)).alloc _)
  have HH0 : Hid (BlockI W0 (w.heap.size + 2) 150 (hadRow ms 40 0)) := Lib.hid (by rw [← e0, hadRow_zero]; exact BlockI.z (by simp))
  have HB0 : Hid (Below w.heap.size w W0) := Lib.hid (by rw [← e0]; exact (((Below.refl _ _).alloc (Nat.le_refl _) _).alloc (by simp) _).alloc (by simp; omega) _)
  have HZ := Lib.hid (And.intro z0 (And.intro z1 z2))
  rw [e0]
  clear e0 bb0 z0 z1 z2
  go_loopw [5, 13] (fun v i wr => ∃ k : Nat, k ≤ l ∧ i = .int .i64 k ∧ BlockI wr (w.heap.size + 1) 150 (sentRow ms 40 k) ∧ BlockI wr (w.heap.size + 2) 150 (hadRow ms 40 k) ∧ OwnMa 111 (w.heap.size + 3) wr v (pairRow ms k) ∧ (∀ i, i < k → cmOk ps rs days ms i) ∧ (∀ r : Nat, r < n → sentAt ms r k ≤ numR rs r) ∧ (∀ o : Nat, o < m → hadAt ms o k ≤ numO ps o) ∧ Below (w.heap.size + 1) W0 wr) (fun _ i _ => l - (intOf i).toNat)
  case atStart => exact ⟨0, Nat.zero_le _, rfl, HS0.out, HH0.out, World.ownsRow_nil _ _ _ _, fun i hi => absurd hi (by omega), fun r hr => HNN.out r hr, fun r hr => HNP.out r hr, Below.refl _ _⟩
  case round =>
    obtain ⟨k, hk, rfl, hse, hha, hown, hok, hsl, hhl, hww⟩ := hrel
    have HS := Lib.hid hse
    have HH := Lib.hid hha
    have HOK := Lib.hid hok
    have HSL := Lib.hid hsl
    have HHL := Lib.hid hhl
    have HB := Lib.hid hww
    have hwr : W0.heap.size ≤ wr.heap.size := hww.size
    have HW : Hid (Below w.heap.size w wr) := Lib.hid (HB0.out.trans (hww.mono (by omega)))
    by_cases hlt : k < l
    · obtain rfl := HA3.out (by omega)
      have hkp : k < ms.length := by have := HPL.out; omega
      obtain ⟨c0, c1, c2⟩ := (HC3.out.below HW.out) k hkp
      have hf := HFM.out.get k hkp
      have HK : Hid (¬ cmOk ps rs days ms k → RB = false) := Lib.hid (HBAD.out k hkp)
      obtain ⟨q, hq⟩ : ∃ q, mAt ms k = q := ⟨_, rfl⟩
      have hq' : ms.getD k (0, 0, 0) = q := hq
      rw [hq'] at c0 c1 c2 hf
      obtain ⟨x0, x1, x2⟩ := q
      have HQK := Lib.hid hq
      unfold FitMa at hf
      simp only at hf
      obtain ⟨⟨l0, u0⟩, ⟨l1, u1⟩, l2, u2⟩ := hf
      have hkl : (k : Int) < (l : Int) := by omega
      have HO := Lib.hid hown
      obtain ⟨av, bv, cv, rfl, hav, hcv⟩ := cells_orM hown.reads
      rw [pairRow_len] at hav HO ⊢
      have HAV := Lib.hid hav
      have HCV := Lib.hid hcv
      have z0 := (hww.cell (p := ⟨w.heap.size, 0, none⟩) (by simp only; omega)).trans HZ.out.1
      have z1 := (hww.cell (p := ⟨w.heap.size, 1, none⟩) (by simp only; omega)).trans HZ.out.2.1
      have z2 := (hww.cell (p := ⟨w.heap.size, 2, none⟩) (by simp only; omega)).trans HZ.out.2.2
      have hal : Below wr.heap.size wr (wr.alloc (.cells #[.int .i8 x0, .int .i8 x1, .int .i16 x2] 111)) := (Below.refl _ _).alloc (Nat.le_refl _) _
      have za0 := (hal.cell (p := ⟨w.heap.size, 0, none⟩) (by simp only; omega)).trans z0
      have za1 := (hal.cell (p := ⟨w.heap.size, 1, none⟩) (by simp only; omega)).trans z1
      have za2 := (hal.cell (p := ⟨w.heap.size, 2, none⟩) (by simp only; omega)).trans z2
      have xl1 : w.heap.size < wr.heap.size := by omega
      have xl2 : w.heap.size ≠ wr.heap.size := by omega
      clear hq hq' hse hha hok hsl hhl hww hown hav hcv
      go_wp2_with fail
      obtain ⟨W1, e1⟩ : ∃ V, wr.alloc (.cells #[.int .i8 x0, .int .i8 x1, .int .i16 x2] 111) = V := ⟨_, rfl⟩
      have s1 : W1.heap.size = wr.heap.size + 1 := by rw [← e1]; simp
      have f0 : W1.cell? ⟨wr.heap.size, 0, none⟩ = some (.int .i8 x0) := by rw [← e1]; simp
      have f1 : W1.cell? ⟨wr.heap.size, 1, none⟩ = some (.int .i8 x1) := by rw [← e1]; simp
      have f2 : W1.cell? ⟨wr.heap.size, 2, none⟩ = some (.int .i16 x2) := by rw [← e1]; simp
      rw [e1] at hal za0 za1 za2 ⊢
      clear e1 z0 z1 z2 c0 c1 c2
      refine (ihas_any _ _ _ _ _ _ _ _ _ _ hm hn ⟨l0, u0⟩ ⟨l1, u1⟩ _).mono ?_
      rintro e w2 ⟨rfl, b2'⟩
      have hs2 := b2'.size
      have HX2 : Hid (Below wr.heap.size wr w2) := Lib.hid (hal.trans (b2'.mono (by omega)))
      have y0 := (b2'.cell (p := ⟨w.heap.size, 0, none⟩) (by simp only; omega)).trans za0
      have y1 := (b2'.cell (p := ⟨w.heap.size, 1, none⟩) (by simp only; omega)).trans za1
      have y2 := (b2'.cell (p := ⟨w.heap.size, 2, none⟩) (by simp only; omega)).trans za2
      have g0 := (b2'.cell (p := ⟨wr.heap.size, 0, none⟩) (by simp only; omega)).trans f0
      have g1 := (b2'.cell (p := ⟨wr.heap.size, 1, none⟩) (by simp only; omega)).trans f1
      have g2 := (b2'.cell (p := ⟨wr.heap.size, 2, none⟩) (by simp only; omega)).trans f2
      have HFIN : Hid (∀ W, Below w2.heap.size w2 W → Below w.heap.size w W) := Lib.hid (fun W hb => HW.out.trans ((HX2.out.trans (hb.mono (by omega))).mono (by omega)))
      clear b2' hal za0 za1 za2 f0 f1 f2 xl1 xl2
      by_cases t : (0 ≤ x0 ∧ x0 < (n : Int)) ∧ (0 ≤ x1 ∧ x1 < (m : Int))
      · rw [hasB_true t]
        by_cases t4 : x2 < 1
        · have d4 : decide (x2 < 1) = true := decide_eq_true t4
          have HR := Lib.hid (HK.out (fun h => by have h2 := h.1.2.2; rw [HQK.out] at h2; simp only at h2; omega))
          clear t t4
          go_wp2_with fail
          go_ret
          exact ⟨ret_bool HR.out.symm, HFIN.out _ (Below.refl _ _)⟩
        · have d4 : decide (x2 < 1) = false := decide_eq_false t4
          have HIX : Hid (cmIx ps.length rs.length (mAt ms k)) := Lib.hid (by rw [HPM.out, HPN.out, HQK.out]; exact ⟨by simp only; omega, by simp only; omega, by simp only; omega⟩)
          obtain ⟨⟨t0, t1⟩, t2, t3⟩ := t
          obtain ⟨ri, rfl⟩ := Int.eq_ofNat_of_zero_le t0
          obtain ⟨oj, rfl⟩ := Int.eq_ofNat_of_zero_le t2
          have hri : ri < n := by omega
          have hoj : oj < m := by omega
          obtain rfl := HA.out (by omega)
          obtain rfl := HA2.out (by omega)
          have d5 := (HC.out.below (HFIN.out _ (Below.refl _ _))) oj (by simp; have := HPM.out; omega)
          have d6 := (HC2.out.below (HFIN.out _ (Below.refl _ _))) ri (by have := HPN.out; omega)
          rw [soldO_get (by have := HPM.out; omega)] at d5
          have fo := HFO.out.get oj (by have := HPM.out; omega)
          have fr := HFR.out.get ri (by have := HPN.out; omega)
          obtain ⟨cn, hcn⟩ : ∃ B, canR (ps.getD oj (0, 0, 0, 0, 0)) (rs.getD ri (0, 0, 0, 0)) days = B := ⟨_, rfl⟩
          have HCN : Hid (canR (ps.getD (mAt ms k).2.1.toNat (0, 0, 0, 0, 0)) (rs.getD (mAt ms k).1.toNat (0, 0, 0, 0)) days = cn) := Lib.hid (by rw [HQK.out]; simp only [Int.toNat_natCast]; exact hcn)
          have HNR : Hid (numR rs ri = (rs.getD ri (0, 0, 0, 0)).2.2.1) := Lib.hid rfl
          have HNO : Hid (numO ps oj = (ps.getD oj (0, 0, 0, 0, 0)).2.2.1) := Lib.hid rfl
          generalize ps.getD oj (0, 0, 0, 0, 0) = oq at d5 fo hcn HNO
          generalize rs.getD ri (0, 0, 0, 0) = rq at d6 fr hcn HNR
          obtain ⟨o0, o1, o2, o3, o4⟩ := oq
          obtain ⟨r0, r1, r2, r3⟩ := rq
          obtain ⟨k0, k1, k2, k3, k4⟩ := d5
          obtain ⟨j0, j1, j2, j3⟩ := d6
          have HCAN := Lib.hid (ican_any b b2 m cap n cap2 ri oj o0 o1 o2 o3 o4 r0 r1 r2 r3 days hm hn hoj hri fo.2.2.2.2 fr.2.2.2 w2 k0 k1 k2 k3 k4 j0 j1 j2 j3)
          rw [hcn] at HCAN
          have fo2 := fo.2.2.1
          have fr2 := fr.2.2.1
          simp only at fo2 fr2 HNO HNR k2 j2
          obtain ⟨fo2a, fo2b⟩ := fo2
          obtain ⟨fr2a, fr2b⟩ := fr2
          have HK2 := Lib.hid (And.intro k2 j2)
          clear hcn fo fr k0 k1 k2 k3 k4 j0 j1 j2 j3 t4
          go_wp2_with fail
          refine HCAN.out.mono ?_
          rintro e w3 ⟨rfl, b3'⟩
          cases cn
          · have HR := Lib.hid (HK.out (fun h => by have h2 := h.2.1; rw [HCN.out] at h2; cases h2))
            go_wp2_with fail
            go_ret
            exact ⟨ret_bool HR.out.symm, HFIN.out _ b3'⟩
          · have hs3 := b3'.size
            have HX3 : Hid (Below wr.heap.size wr w3) := Lib.hid (HX2.out.trans (b3'.mono (by omega)))
            have m0 := (b3'.cell (p := ⟨w.heap.size, 0, none⟩) (by simp only; omega)).trans y0
            have m1 := (b3'.cell (p := ⟨w.heap.size, 1, none⟩) (by simp only; omega)).trans y1
            have n0 := (b3'.cell (p := ⟨wr.heap.size, 0, none⟩) (by simp only; omega)).trans g0
            have n1 := (b3'.cell (p := ⟨wr.heap.size, 1, none⟩) (by simp only; omega)).trans g1
            have n2 := (b3'.cell (p := ⟨wr.heap.size, 2, none⟩) (by simp only; omega)).trans g2
            have k2 := (b3'.cell (p := ⟨b, oj * 5 + 2, none⟩) (World.block_lt_of_cell? w2 _ HK2.out.1)).trans HK2.out.1
            have j2 := (b3'.cell (p := ⟨b2, ri * 4 + 2, none⟩) (World.block_lt_of_cell? w2 _ HK2.out.2)).trans HK2.out.2
            have rS : BlockI w3 (w.heap.size + 1) 150 (sentRow ms 40 k) := HS.out.below HX3.out (by omega)
            have rH : BlockI w3 (w.heap.size + 2) 150 (hadRow ms 40 k) := HH.out.below HX3.out (by omega)
            have kS := rS.cell ri (by rw [sentRow_len]; omega)
            have kH := rH.cell oj (by rw [hadRow_len]; omega)
            rw [sentRow_get ms (by omega)] at kS
            rw [hadRow_get ms (by omega)] at kH
            have fS := rS.frozen ri
            have fH := rH.frozen oj
            have hnum : ∀ i, i < k → 1 ≤ (mAt ms i).2.2 := fun i hi => (HOK.out i hi).1.2.2
            have bS := sentAt_in (r := (ri : Int)) HFM.out (show k ≤ ms.length by omega) hnum
            have bH := hadAt_in (r := (oj : Int)) HFM.out (show k ≤ ms.length by omega) hnum
            obtain ⟨sv, hsv⟩ : ∃ q, sentAt ms (ri : Int) k = q := ⟨_, rfl⟩
            obtain ⟨hv, hhv⟩ : ∃ q, hadAt ms (oj : Int) k = q := ⟨_, rfl⟩
            rw [hsv] at kS bS
            rw [hhv] at kH bH
            have HSV := Lib.hid hsv
            have HHV := Lib.hid hhv
            have HRS3 := Lib.hid rS
            have HRH3 := Lib.hid rH
            have HB3 := Lib.hid b3'
            have HK3 := Lib.hid (And.intro k2 j2)
            have HM3 := Lib.hid (And.intro m0 m1)
            have HN3 := Lib.hid (And.intro n0 (And.intro n1 n2))
            obtain ⟨bS0, bS1⟩ := bS
            obtain ⟨bH0, bH1⟩ := bH
            have hSH : w.heap.size + 1 ≠ w.heap.size + 1 + 1 := by omega
            have hSB : w.heap.size + 1 ≠ wr.heap.size := by omega
            have hHB : w.heap.size + 1 + 1 ≠ wr.heap.size := by omega
            have yH : ∀ v, (w3.setCell ⟨w.heap.size + 1, ri, none⟩ v).cell? ⟨w.heap.size + 1 + 1, oj, none⟩ = some (.int .i64 hv) := fun v => bset_far hSH kH
            have y1' : ∀ v, (w3.setCell ⟨w.heap.size + 1, ri, none⟩ v).cell? ⟨wr.heap.size, 1, none⟩ = some (.int .i8 (oj : Int)) := fun v => bset_far hSB n1
            have y2' : ∀ v, (w3.setCell ⟨w.heap.size + 1, ri, none⟩ v).cell? ⟨wr.heap.size, 2, none⟩ = some (.int .i16 x2) := fun v => bset_far hSB n2
            have hri40 : (ri : Int) < 40 := by omega
            have hoj40 : (oj : Int) < 40 := by omega
            have hri40' : ri < 40 := by omega
            have hoj40' : oj < 40 := by omega
            clear rS rH hsv hhv hnum b3' y0 y1 y2 g0 g1 g2 k2 j2 m0 m1
            go_wp2_with fail
            go_region
            all_goals
              go_wp2_with fail
              go_region
              all_goals
                go_wp2_with fail
                obtain ⟨Wb, eb⟩ : ∃ V, (w3.setCell ⟨w.heap.size + 1, ri, none⟩ (.int .i64 (sv + x2))).setCell ⟨w.heap.size + 1 + 1, oj, none⟩ (.int .i64 (hv + x2)) = V := ⟨_, rfl⟩
                have sb : Wb.heap.size = w3.heap.size := by rw [← eb]; simp
                have hDD : Below w3.heap.size Wb Wb.drew.drew := ((Below.refl _ _).drew).drew
                have oS : BlockI Wb (w.heap.size + 1) 150 (sentRow ms 40 (k + 1)) := by
                  have h := (HRS3.out.set ri (sv + x2)).other ⟨w.heap.size + 1 + 1, oj, none⟩ (.int .i64 (hv + x2)) (by simp only; omega)
                  rw [eb] at h
                  rw [← sentRow_set ms (n := 40) (k := k) (i := ri) (by rw [HQK.out]), HSV.out, HQK.out]
                  exact h
                have oH : BlockI Wb (w.heap.size + 2) 150 (hadRow ms 40 (k + 1)) := by
                  have h := (HRH3.out.other ⟨w.heap.size + 1, ri, none⟩ (.int .i64 (sv + x2)) (by simp only; omega)).set oj (hv + x2)
                  rw [← hadRow_set ms (m := 40) (k := k) (j := oj) (by rw [HQK.out]), HHV.out, HQK.out]
                  rw [← eb]
                  exact h
                have hbb : b < w.heap.size := World.block_lt_of_cell? w _ ((HC.out oj (by simp; have := HPM.out; omega)).1)
                have hbb2 : b2 < w.heap.size := World.block_lt_of_cell? w _ ((HC2.out ri (by have := HPN.out; omega)).1)
                have far : ∀ (B o : Nat) (u : Value), B ≠ w.heap.size + 1 → B ≠ w.heap.size + 2 → w3.cell? ⟨B, o, none⟩ = some u → Wb.cell? ⟨B, o, none⟩ = some u := fun B o u h1 h2 h => by
                  rw [← eb]; exact bset_far (fun e => h2 e.symm) (bset_far (fun e => h1 e.symm) h)
                have n0b := far (wr.heap.size) (0) _ (by omega) (by omega) HN3.out.1
                have n1b := far (wr.heap.size) (1) _ (by omega) (by omega) HN3.out.2.1
                have m0b := far (w.heap.size) (0) _ (by omega) (by omega) HM3.out.1
                have m1b := far (w.heap.size) (1) _ (by omega) (by omega) HM3.out.2
                have k2b : Wb.cell? ⟨b, oj * 5 + 2, none⟩ = some (.int .i16 o2) := far (b) (oj * 5 + 2) _ (by omega) (by omega) HK3.out.1
                have j2b := far (b2) (ri * 4 + 2) _ (by omega) (by omega) HK3.out.2
                have oSb := oS.cell ri (by rw [sentRow_len]; omega)
                have oHb := oH.cell oj (by rw [hadRow_len]; omega)
                rw [sentRow_get ms (by omega), sentAt_up (by rw [HQK.out]) (by rw [HQK.out]), HSV.out] at oSb
                rw [hadRow_get ms (by omega), hadAt_up (by rw [HQK.out]) (by rw [HQK.out]), HHV.out] at oHb
                have oHb : Wb.cell? ⟨w.heap.size + 1 + 1, oj, none⟩ = some (.int .i64 (hv + x2)) := oHb
                have HOS := Lib.hid oS
                have HOH := Lib.hid oH
                have HOWN : Hid (OwnMa 111 (w.heap.size + 3) Wb (.slice av k cv) (pairRow ms k)) := Lib.hid (by
                  have h : OwnMa 111 (w.heap.size + 3) w3 (.slice av k cv) (pairRow ms k) := HO.out.below HX3.out
                  unfold OwnMa at h ⊢
                  rw [← eb]
                  exact own_set (own_set h _ (by simp only; omega)) _ (by simp only; omega))
                have HBB : Hid (Below (w.heap.size + 1) W0 Wb) := Lib.hid (by rw [← eb]; exact ((HB.out.trans (HX3.out.mono (by omega))).setCell (by simp only; omega) _).setCell (by simp only; omega) _)
                have HFB : Hid (Below w.heap.size w Wb) := Lib.hid (HB0.out.trans (HBB.out.mono (by omega)))
                rw [eb]
                clear oS oH far eb yH y1' y2' n0 n1 n2 kS kH fS fH hDD
                have HSV1 : Hid (sentAt ms (ri : Int) (k + 1) = sv + x2) := Lib.hid (by rw [sentAt_up (by rw [HQK.out]) (by rw [HQK.out]), HSV.out])
                have HHV1 : Hid (hadAt ms (oj : Int) (k + 1) = hv + x2) := Lib.hid (by rw [hadAt_up (by rw [HQK.out]) (by rw [HQK.out]), HHV.out])
                by_cases v1 : r2 < sv + x2
                · have d7 : decide (r2 < sv + x2) = true := decide_eq_true v1
                  have HR := Lib.hid (HRS.out (k + 1) hkp ri (by have := HPN.out; omega) (by rw [HNR.out, HSV1.out]; exact v1))
                  clear v1
                  go_quiet (fail)
                  go_wp2_with fail
                  go_ret
                  exact ⟨ret_bool HR.out.symm, below_drewN HFB.out _⟩
                · have d7 : decide (r2 < sv + x2) = false := decide_eq_false v1
                  by_cases v2 : o2 < hv + x2
                  · have d8 : decide (o2 < hv + x2) = true := decide_eq_true v2
                    have HR := Lib.hid (HRH.out (k + 1) hkp oj (by have := HPM.out; omega) (by rw [HNO.out, HHV1.out]; exact v2))
                    clear v1 v2
                    go_quiet (fail)
                    go_wp2_with fail
                    go_ret
                    exact ⟨ret_bool HR.out.symm, below_drewN HFB.out _⟩
                  · have d8 : decide (o2 < hv + x2) = false := decide_eq_false v2
                    have HSL1 : Hid (∀ r : Nat, r < n → sentAt ms r (k + 1) ≤ numR rs r) := Lib.hid (sent_step (x2 := x2) HSL.out (by rw [HQK.out]) (by rw [HQK.out]) (by rw [HSV.out, HNR.out]; omega))
                    have HHL1 : Hid (∀ o : Nat, o < m → hadAt ms o (k + 1) ≤ numO ps o) := Lib.hid (had_step (x2 := x2) HHL.out (by rw [HQK.out]) (by rw [HQK.out]) (by rw [HHV.out, HNO.out]; omega))
                    clear v1 v2
                    go_quiet (fail)
                    go_wp2_with fail
                    obtain ⟨W5, e5⟩ : ∃ V, (Wb.drewN (1 + (1 + nq))).alloc (.cells #[.int .i8 (ri : Int), .int .i8 (oj : Int), .int .i16 0] 111) = V := ⟨_, rfl⟩
                    have s5 : W5.heap.size = w3.heap.size + 1 := by rw [← e5, ← sb]; simp
                    have bb5 : BlkA W5 w3.heap.size 111 #[.int .i8 (ri : Int), .int .i8 (oj : Int), .int .i16 0] := by rw [← e5]; exact BlkA.new (by simp [sb]) _ _
                    have p0 : W5.cell? ⟨w3.heap.size, 0, none⟩ = some (.int .i8 (ri : Int)) := by rw [bb5.at]; rfl
                    have p1 : W5.cell? ⟨w3.heap.size, 1, none⟩ = some (.int .i8 (oj : Int)) := by rw [bb5.at]; rfl
                    have p2 : W5.cell? ⟨w3.heap.size, 2, none⟩ = some (.int .i16 0) := by rw [bb5.at]; rfl
                    have hX5 : Below Wb.heap.size Wb W5 := by rw [← e5]; exact (below_drewN (Below.refl _ _) _).alloc (by simp) _
                    rw [e5]
                    clear e5 bb5
                    obtain ⟨a', b', cap', he, ha', hc'⟩ := cells_orM (HOWN.out.below hX5).reads
                    simp only [Value.slice.injEq] at he
                    obtain ⟨rfl, hjunk, rfl⟩ := he
                    clear hjunk
                    rw [pairRow_len] at ha'
                    refine (containsM_any _ b' k _ (pairRow ms k) _ _ _ (pairRow_len ms k) (by omega) ha' _ hc').mono ?_
                    rintro e w6 ⟨rfl, b6⟩
                    have hs6 := b6.size
                    have HFN6 : Hid (Below w.heap.size w w6) := Lib.hid ((HFB.out.trans (hX5.mono (by omega))).trans (b6.mono (by omega)))
                    obtain ⟨hb, hhb⟩ : ∃ B, hasM (pairRow ms k) ((ri : Int), (oj : Int), 0) = B := ⟨_, rfl⟩
                    rw [hhb]
                    cases hb
                    · have HOK2 : Hid (∀ i, i < k + 1 → cmOk ps rs days ms i) := Lib.hid (fun i hi => by
                        by_cases e : i = k
                        · subst e; exact ⟨HIX.out, HCN.out, by rw [HQK.out]; exact pair_no hhb⟩
                        · exact HOK.out i (by omega))
                      have q0 := (b6.cell (p := ⟨w3.heap.size, 0, none⟩) (by simp only; omega)).trans p0
                      have q1 := (b6.cell (p := ⟨w3.heap.size, 1, none⟩) (by simp only; omega)).trans p1
                      have q2 := (b6.cell (p := ⟨w3.heap.size, 2, none⟩) (by simp only; omega)).trans p2
                      have hown6 := (HOWN.out.below hX5).below b6
                      unfold OwnMa at hown6
                      rw [pairRow_len] at hown6
                      have HS6 : Hid (BlockI w6 (w.heap.size + 1) 150 (sentRow ms 40 (k + 1))) := Lib.hid ((HOS.out.below hX5 (by omega)).below b6 (by omega))
                      have HH6 : Hid (BlockI w6 (w.heap.size + 2) 150 (hadRow ms 40 (k + 1))) := Lib.hid ((HOH.out.below hX5 (by omega)).below b6 (by omega))
                      have HB6 : Hid (Below (w.heap.size + 1) W0 w6) := Lib.hid ((HBB.out.trans (hX5.mono (by omega))).trans (b6.mono (by omega)))
                      clear hhb p0 p1 p2 ha' hc' b6 hX5
                      go_wp2_with (at_builtin; refine wpList_append_own _ rfl _ _ 55 rfl (w.heap.size + 3) 111 i0 (.agg #[.int .i8 0, .int .i8 0, .int .i16 0]) 3 4 Tryd.underlying55 hi hz0 hz1 hz2 rfl (by decide) _ _ _ rfl (hown6.alloc _) ⟨w6.heap.size, 0, none⟩ 1 1 [.int .i8 (ri : Int), .int .i8 (oj : Int), .int .i16 0] rfl rfl ?c1 ?c2 ?c3 ?c4 ?c5 ?_)
                      case c1 =>
                        intro j u hj
                        match j, hj with
                        | 0, hj => simp at hj; subst hj; simp [Addr.add]
                        | 1, hj => simp at hj; subst hj; simp [Addr.add]
                        | 2, hj => simp at hj; subst hj; simp [Addr.add]
                      case c2 => intro u hu; simp at hu; rcases hu with rfl | rfl | rfl <;> rfl
                      case c3 => unfold maxLen; omega
                      case c4 => omega
                      case c5 => simp; omega
                      intro v' w7 hown' hgrow _
                      have hG : Below (w.heap.size + 3) (w6.alloc (.cells #[.int .i8 (ri : Int), .int .i8 (oj : Int), .int .i16 0] 111)) w7 := (Below.refl _ _).grown hgrow (by simp; omega) (fun j hj => (hown6.lt j hj).1)
                      have HO7 : Hid (OwnMa 111 (w.heap.size + 3) w7 v' (pairRow ms (k + 1))) := Lib.hid (by
                        unfold OwnMa
                        rw [pairRow_len, pairRow_succ, flatMa_append, HQK.out]
                        exact hown')
                      have HS7 : Hid (BlockI w7 (w.heap.size + 1) 150 (sentRow ms 40 (k + 1))) := Lib.hid ((HS6.out.alloc _).below hG (by omega))
                      have HH7 : Hid (BlockI w7 (w.heap.size + 2) 150 (hadRow ms 40 (k + 1))) := Lib.hid ((HH6.out.alloc _).below hG (by omega))
                      have HB7 : Hid (Below (w.heap.size + 1) W0 w7) := Lib.hid ((HB6.out.alloc (by omega) _).trans (hG.mono (by omega)))
                      clear hown' hgrow hown6 hG q0 q1 q2
                      go_wp2
                      go_roundw
                      case rel => exact ⟨k + 1, by omega, by go_num, HS7.out, HH7.out, HO7.out, HOK2.out, HSL1.out, HHL1.out, HB7.out⟩
                      case measure => simp [intOf]; omega
                    · have HR := Lib.hid (HK.out (fun h => by
                        obtain ⟨j, hj, e1, e2⟩ := pair_yes hhb
                        exact h.2.2 j hj (by rw [HQK.out]; exact ⟨e1, e2⟩)))
                      clear hhb p0 p1 p2 ha' hc' b6 hX5
                      go_wp2_with fail
                      go_ret
                      exact ⟨ret_bool HR.out.symm, HFN6.out⟩
      · have HT := hasB_false t
        rw [HT]
        have HR := Lib.hid (HK.out (fun h => by have h2 := h.1; rw [HPM.out, HPN.out, HQK.out] at h2; unfold cmIx at h2; simp only at h2; omega))
        clear t HT
        go_wp2_with fail
        go_ret
        exact ⟨ret_bool HR.out.symm, HFIN.out _ (Below.refl _ _)⟩
    · have hk' : k = ms.length := by have := HPL.out; omega
      have HR : Hid (RB = true) := Lib.hid (HRT.out ⟨by rw [← hk']; exact hok, by rw [← hk', HPN.out]; exact hsl, by rw [← hk', HPM.out]; exact hhl⟩)
      clear hk' hse hha hok hsl hhl hww hown
      go_wp2_with fail
      go_ret
      exact ⟨ret_bool HR.out.symm, HW.out⟩
end Go.Proofs.YtgimpmdiilmkoaaDoor
