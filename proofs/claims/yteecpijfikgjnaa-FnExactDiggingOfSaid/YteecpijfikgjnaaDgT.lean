/-
  The model's digging, and its DiggingOf.
-/
import Derived.Test.YteecpijfikgjnaaDgS
namespace Go.Proofs.Yteecpijfikgjnaa
open Go Go.RowKit
set_option linter.unusedVariables false

set_option maxHeartbeats 1000000 in
set_option maxRecDepth 100000 in
theorem sdigL_any (v u : Value) (lb ln : Nat) (ps : List (Int × Int)) (L V : List Int) (hvl : vldQ ps = true) (hfit : FitsQ ps) (hL : visB (idxI ps.length) L = true) (hV : visB (stopsL ps) V = true) (w : World) (hv : ReadsQ w v ps) (hl : ReadsI w (.slice (some ⟨lb, 0, none⟩) ln ln) L) (hu : ReadsI w u V) :
    Calls Try.prog 24 #[v, .slice (some ⟨lb, 0, none⟩) ln ln, u] w fun e w' => e = .returned (.int .i64 (digSum ps V L V.length)) ∧ Below w.heap.size w w' := by
  obtain ⟨i0, hi, hz0, hz1, hz2⟩ := info_parts info_i64
  obtain ⟨h10, hok⟩ := vldQ_spec hvl
  have hV9 := (okW hV).1
  have hLl := (load_mem hL).1
  have hL10 : L.length ≤ 10 := by omega
  have HST : Hid (∀ k, k < V.length → 0 ≤ V.getD k 0 ∧ V.getD k 0 ≤ 8) := Lib.hid (okW hV).2
  have HIN : Hid (∀ x, x ∈ L → 0 ≤ x ∧ x < (ps.length : Int)) := Lib.hid (fun x hx => load_all hL hx)
  have HFT := Lib.hid hfit
  have HOWN := Lib.hid (sownI_any lb ln L w hl (by omega))
  have HBD : Hid (∀ k, (0 ≤ digSum ps V L k ∧ digSum ps V L k ≤ 10 * (k : Int))) := Lib.hid (fun k => digSum_bd ps V L hL10 k)
  obtain ⟨va, vc, rfl, hva⟩ := hv
  have HVA := Lib.hid hva
  obtain ⟨a, cap, rfl, ha⟩ := hu
  have HA := Lib.hid ha
  obtain ⟨len, hlen⟩ : ∃ n, V.length = n := ⟨_, rfl⟩
  have HL := Lib.hid hlen
  obtain ⟨pn, hpn⟩ : ∃ n, ps.length = n := ⟨_, rfl⟩
  have HPN := Lib.hid hpn
  rw [hlen] at hV9 ⊢
  rw [hpn] at h10 ⊢
  clear ha hva hlen hvl hL hV hl hok hfit hpn hLl
  go_enter Try.func24, Try.ntmps24
  go_wp2_with fail
  refine HOWN.out.mono ?_
  rintro e w2 ⟨n0, rfl, o2, b2⟩
  have HB2 := Lib.hid b2
  have HO2 : Hid (OwnI w.heap.size w2 n0 (nowK ps V L 0)) := Lib.hid (by rw [nowK_zero]; exact o2)
  clear b2 o2 HOWN
  go_wp2_with fail
  go_loopw [7, 8, 9] (fun s nv i wr => ∃ k : Nat, k ≤ len ∧ i = .int .i64 k ∧ s = .int .i64 (digSum ps V L k) ∧ OwnI w.heap.size wr nv (nowK ps V L k) ∧ Below w.heap.size w wr) (fun _ _ i _ => len - (intOf i).toNat)
  case atStart => exact ⟨0, Nat.zero_le _, rfl, rfl, HO2.out, HB2.out⟩
  case round =>
    obtain ⟨k, hk, rfl, rfl, hown, hnx⟩ := hrel
    obtain ⟨wo, rfl⟩ : ∃ W, W = wr := ⟨_, rfl⟩
    have HB := Lib.hid hnx
    by_cases hlt : k < len
    · have hlt' : k < V.length := by rw [HL.out]; exact hlt
      have hk0 : (0 : Int) ≤ (k : Int) := by omega
      obtain ⟨b, rfl, hc⟩ := HA.out (fun h => by rw [h] at hlt'; simp at hlt')
      have HCU := Lib.hid hc
      obtain ⟨hs0, hs8⟩ := HST.out k hlt'
      obtain ⟨hd0, hd1⟩ := HBD.out k
      obtain ⟨na, nc, rfl, hna⟩ := OwnI.reads hown
      have HNA := Lib.hid hna
      have hnl : (nowK ps V L k).length ≤ 10 := Nat.le_trans (nowK_len ps V L k) hL10
      have HNX2 : Hid (restK ps V L k (nowK ps V L k).length = nowK ps V L (k + 1)) := Lib.hid (restK_all hlt')
      have HNXT : Hid (digSum ps V L (k + 1) = digSum ps V L k + (digTo (V.getD k 0) (stk ps (nowK ps V L k)) (nowK ps V L k).length).2) := Lib.hid rfl
      have HMEM : Hid (∀ j, j < (nowK ps V L k).length → 0 ≤ (nowK ps V L k).getD j 0 ∧ (nowK ps V L k).getD j 0 < (ps.length : Int)) := Lib.hid (fun j hj => HIN.out _ (nowK_mem (getD_mem hj)))
      obtain ⟨N, hN⟩ : ∃ N, (nowK ps V L k).length = N := ⟨_, rfl⟩
      have HN := Lib.hid hN
      have hDB : Hid (∀ j, j ≤ N → 0 ≤ (digTo (V.getD k 0) (stk ps (nowK ps V L k)) j).2 ∧ (digTo (V.getD k 0) (stk ps (nowK ps V L k)) j).2 ≤ (j : Int)) := Lib.hid (fun j hj => digTo_bd _ _ j (by rw [stk_len, hN]; exact hj))
      have hDS : Hid (∀ j, j < N → digTo (V.getD k 0) (stk ps (nowK ps V L k)) (j + 1) = stepD (V.getD k 0) (digTo (V.getD k 0) (stk ps (nowK ps V L k)) j) (stopAt ps ((nowK ps V L k).getD j 0))) := Lib.hid (fun j hj => by rw [digTo_succ _ _ (by rw [stk_len, hN]; exact hj), stk_get _ _ _ (by rw [hN]; exact hj)])
      have HYES : Hid (∀ j, j < N → stopAt ps ((nowK ps V L k).getD j 0) ≠ V.getD k 0 → restK ps V L k (j + 1) = restK ps V L k j ++ [(nowK ps V L k).getD j 0]) := Lib.hid (fun j hj h => restK_yes (by rw [hN]; exact hj) h)
      have HNO : Hid (∀ j, j < N → stopAt ps ((nowK ps V L k).getD j 0) = V.getD k 0 → restK ps V L k (j + 1) = restK ps V L k j) := Lib.hid (fun j hj h => restK_no (by rw [hN]; exact hj) h)
      rw [hN] at hnl HNX2 HNXT HMEM ⊢
      have cxk : wo.cell? ⟨b, k, none⟩ = some (.int .i64 (V.getD k 0)) := (hc.below hnx) k hlt'
      have HCX := Lib.hid cxk
      obtain ⟨sk, hsk⟩ : ∃ s, V.getD k 0 = s := ⟨_, rfl⟩
      rw [hsk] at hs0 hs8 HNXT hDB hDS HYES HNO HCX
      obtain ⟨sm, hsm⟩ : ∃ s, digSum ps V L k = s := ⟨_, rfl⟩
      rw [hsm] at hd0 hd1 HNXT ⊢
      have hwr : w.heap.size ≤ wo.heap.size := hnx.size
      have HOR : Hid ((wo.alloc (.cells #[] 2)).ownsRow wo.heap.size 2 1 (.slice (some ⟨wo.heap.size, 0, none⟩) 0 0) 0 []) := Lib.hid (World.ownsRow_made wo #[] 0 (Nat.le_refl _) (Nat.zero_le _) rfl)
      have HB1 : Hid (Below wo.heap.size wo (wo.alloc (.cells #[] 2))) := Lib.hid ((Below.refl _ _).alloc (Nat.le_refl _) _)
      clear hN hsk hsm hna hc hnx hlt' hown cxk HA
      go_wp2_with fail
      go_loopw [7, 10, 11, 12] (fun s g mb i wr => ∃ j : Nat, j ≤ N ∧ i = .int .i64 j ∧ s = .int .i64 (sm + (digTo sk (stk ps (nowK ps V L k)) j).2) ∧ mb = .bool (digTo sk (stk ps (nowK ps V L k)) j).1 ∧ wr.ownsRow wo.heap.size 2 1 g (restK ps V L k j).length ((restK ps V L k j).map (Value.int .i64)) ∧ Below wo.heap.size wo wr) (fun _ _ _ i _ => N - (intOf i).toNat)
      case atStart => exact ⟨0, Nat.zero_le _, rfl, by rw [digTo_zero]; simp, by rw [digTo_zero], by rw [restK_zero]; exact HOR.out, HB1.out⟩
      case round =>
        obtain ⟨j, hj, rfl, rfl, rfl, hor, hni⟩ := hrel
        have HBI := Lib.hid hni
        have HOI := Lib.hid hor
        by_cases hjl : j < N
        · have hj0 : (0 : Int) ≤ (j : Int) := by omega
          have hjN : (j : Int) < (N : Int) := by omega
          obtain ⟨hx0, hx1⟩ := HMEM.out j hjl
          obtain ⟨nb, rfl, hnc⟩ := HNA.out (fun h => by have := HN.out; rw [h] at this; simp at this; omega)
          have cn : wr.cell? ⟨nb, j, none⟩ = some (.int .i64 ((nowK ps V L k).getD j 0)) := (hnc.below hni) j (by rw [HN.out]; exact hjl)
          have hyes := HYES.out j hjl
          have hno := HNO.out j hjl
          have hds := hDS.out j hjl
          obtain ⟨he0, he1⟩ := hDB.out j hj
          have hrl : (restK ps V L k j).length ≤ 10 := Nat.le_trans (restK_len ps V L k j) hL10
          obtain ⟨x, hx⟩ : ∃ x : Nat, (nowK ps V L k).getD j 0 = (x : Int) := ⟨((nowK ps V L k).getD j 0).toNat, by omega⟩
          rw [hx] at hx1 cn hyes hno hds
          rw [stopAt, Int.toNat_natCast] at hyes hno hds
          obtain ⟨vb, rfl, hvc⟩ := HVA.out (fun h => by rw [h] at hx1; simp at hx1; omega)
          obtain ⟨cv, _⟩ := (hvc.below (blink HB.out hni)) x (by omega)
          have hf := HFT.out.get x (by omega)
          obtain ⟨q, hq⟩ : ∃ q, ps.getD x (0, 0) = q := ⟨_, rfl⟩
          rw [hq] at cv hyes hno hds hf
          obtain ⟨y, z⟩ := q
          unfold FitQ at hf
          simp only at hf hyes hno hds cv
          have hf1 := hf.1.1
          have hf2 := hf.1.2
          have cu : wr.cell? ⟨b, k, none⟩ = some (.int .i64 sk) := (hni.cell (p := ⟨b, k, none⟩) (World.block_lt_of_cell? wo _ HCX.out)).trans HCX.out
          have hxp : (x : Int) < (pn : Int) := by rw [← HPN.out]; exact hx1
          have hx00 : (0 : Int) ≤ (x : Int) := by omega
          obtain ⟨st, hst⟩ : ∃ st, digTo sk (stk ps (nowK ps V L k)) j = st := ⟨_, rfl⟩
          rw [hst] at hds he0 he1 ⊢
          obtain ⟨mt, ct⟩ := st
          simp only at he0 he1 ⊢
          obtain ⟨rk, hrk⟩ : ∃ rk, restK ps V L k j = rk := ⟨_, rfl⟩
          rw [hrk] at hyes hno HOI hrl
          obtain ⟨un, hun⟩ : ∃ n, rk.length = n := ⟨_, rfl⟩
          rw [hun] at hrl HOI
          have HUN := Lib.hid hun
          have HYS := Lib.hid hyes
          have HNS := Lib.hid hno
          have HDS := Lib.hid hds
          have hwi : wo.heap.size ≤ wr.heap.size := hni.size
          clear hst hrk hun hyes hno hds hq hvc hnc hx hni hor hf hx0 HNA HVA
          by_cases he : y = sk
          · have te : (y == sk) = true := by simp [he]
            have HR2 := Lib.hid (HNS.out he)
            have HD2 : Hid (digTo sk (stk ps (nowK ps V L k)) (j + 1) = (true, ct)) := Lib.hid (by rw [HDS.out]; unfold stepD; rw [if_pos he])
            clear he HYS HNS HDS
            go_wp2_with fail
            go_quiet (fail)
            go_wp2_with fail
            go_roundw
            case rel => exact ⟨j + 1, by omega, by go_num, by rw [HD2.out], by rw [HD2.out], by rw [HR2.out, HUN.out]; exact HOI.out, below_drewN HBI.out _⟩
            case measure => simp [intOf]; omega
          · have te : (y == sk) = false := by simp [he]
            have HR2 := Lib.hid (HYS.out he)
            clear HYS HNS
            cases mt
            · have HD2 : Hid (digTo sk (stk ps (nowK ps V L k)) (j + 1) = (false, ct)) := Lib.hid (by rw [HDS.out]; unfold stepD; rw [if_neg he]; simp)
              clear he HDS
              go_wp2_with fail
              go_quiet (fail)
              obtain ⟨wq, hwq⟩ : ∃ W, wr.drewN nq = W := ⟨_, rfl⟩
              have hown : wq.ownsRow wo.heap.size 2 1 u10 un (rk.map (Value.int .i64)) := by rw [← hwq]; exact own_below HOI.out (bdrewN nq)
              have cq : wq.cell? ⟨nb, j, none⟩ = some (.int .i64 (x : Int)) := by rw [← hwq]; exact ((bdrewN nq).cell (p := ⟨nb, j, none⟩) (World.block_lt_of_cell? wr _ cn)).trans cn
              have HBQ : Hid (Below wo.heap.size wo wq) := Lib.hid (by rw [← hwq]; exact below_drewN HBI.out nq)
              have hwqs : wo.heap.size ≤ wq.heap.size := HBQ.out.size
              rw [hwq]
              clear hwq cn cv cu
              go_wp2_with (at_builtin; refine wpList_append_own _ rfl _ _ 23 rfl wo.heap.size 2 i0 (.int .i64 0) 1 8 Try.underlying23 hi hz0 hz1 hz2 rfl (by decide) _ _ _ rfl (hown.alloc _) ⟨wq.heap.size, 0, none⟩ 1 1 [.int .i64 (x : Int)] rfl rfl ?c1 ?c2 ?c3 ?c4 ?c5 ?_)
              case c1 =>
                intro i u hi
                match i, hi with
                | 0, hi => simp at hi; subst hi; simp [Addr.add]
              case c2 => intro u hu; simp at hu; subst hu; rfl
              case c3 => unfold maxLen; omega
              case c4 => omega
              case c5 => simp; omega
              intro v' w3 hown' hgrow _
              have HO' : Hid (w3.ownsRow wo.heap.size 2 1 v' (restK ps V L k (j + 1)).length ((restK ps V L k (j + 1)).map (Value.int .i64))) := Lib.hid (by
                rw [HR2.out, List.map_append, List.length_append, HUN.out]; exact hown')
              have HB' : Hid (Below wo.heap.size wo w3) := Lib.hid ((HBQ.out.alloc hwqs _).grown hgrow (by simp; omega) (fun i hi => (hown.lt i hi).1))
              clear hown' hgrow hown cq
              go_wp2
              go_roundw
              case rel => exact ⟨j + 1, by omega, by go_num, by rw [HD2.out], by rw [HD2.out], HO'.out, HB'.out⟩
              case measure => simp [intOf]; omega
            · have HD2 : Hid (digTo sk (stk ps (nowK ps V L k)) (j + 1) = (true, ct + 1)) := Lib.hid (by rw [HDS.out]; unfold stepD; rw [if_neg he]; simp)
              clear he HDS
              go_wp2_with fail
              go_quiet (fail)
              obtain ⟨wq, hwq⟩ : ∃ W, wr.drewN nq = W := ⟨_, rfl⟩
              have hown : wq.ownsRow wo.heap.size 2 1 u10 un (rk.map (Value.int .i64)) := by rw [← hwq]; exact own_below HOI.out (bdrewN nq)
              have cq : wq.cell? ⟨nb, j, none⟩ = some (.int .i64 (x : Int)) := by rw [← hwq]; exact ((bdrewN nq).cell (p := ⟨nb, j, none⟩) (World.block_lt_of_cell? wr _ cn)).trans cn
              have HBQ : Hid (Below wo.heap.size wo wq) := Lib.hid (by rw [← hwq]; exact below_drewN HBI.out nq)
              have hwqs : wo.heap.size ≤ wq.heap.size := HBQ.out.size
              rw [hwq]
              clear hwq cn cv cu
              go_wp2_with (at_builtin; refine wpList_append_own _ rfl _ _ 23 rfl wo.heap.size 2 i0 (.int .i64 0) 1 8 Try.underlying23 hi hz0 hz1 hz2 rfl (by decide) _ _ _ rfl (hown.alloc _) ⟨wq.heap.size, 0, none⟩ 1 1 [.int .i64 (x : Int)] rfl rfl ?c1 ?c2 ?c3 ?c4 ?c5 ?_)
              case c1 =>
                intro i u hi
                match i, hi with
                | 0, hi => simp at hi; subst hi; simp [Addr.add]
              case c2 => intro u hu; simp at hu; subst hu; rfl
              case c3 => unfold maxLen; omega
              case c4 => omega
              case c5 => simp; omega
              intro v' w3 hown' hgrow _
              have HO' : Hid (w3.ownsRow wo.heap.size 2 1 v' (restK ps V L k (j + 1)).length ((restK ps V L k (j + 1)).map (Value.int .i64))) := Lib.hid (by
                rw [HR2.out, List.map_append, List.length_append, HUN.out]; exact hown')
              have HB' : Hid (Below wo.heap.size wo w3) := Lib.hid ((HBQ.out.alloc hwqs _).grown hgrow (by simp; omega) (fun i hi => (hown.lt i hi).1))
              clear hown' hgrow hown cq
              go_wp2
              go_roundw
              case rel => exact ⟨j + 1, by omega, by go_num, by rw [HD2.out]; go_num, by rw [HD2.out], HO'.out, HB'.out⟩
              case measure => simp [intOf]; omega
        · have hj' : j = N := by omega
          have HO2 : Hid (OwnI w.heap.size wr u10 (nowK ps V L (k + 1))) := Lib.hid (by
            rw [hj', HNX2.out] at hor
            exact own_mono hor hwr)
          have HSE : Hid (digSum ps V L (k + 1) = sm + (digTo sk (stk ps (nowK ps V L k)) j).2) := Lib.hid (by rw [hj']; exact HNXT.out)
          have hd2 := (hDB.out j hj)
          clear hor hni hj'
          go_wp2_with fail
          go_roundw
          case rel => exact ⟨k + 1, by omega, by go_num, by rw [HSE.out], HO2.out, blink HB.out HBI.out⟩
          case measure => simp [intOf]; omega
    · have hk' : k = len := by omega
      clear hnx hown
      go_wp2_with fail
      go_ret
      exact ⟨by rw [hk']; rfl, HB.out⟩

set_option maxHeartbeats 1000000 in
theorem sdg_any (v : Value) (b1 n1 b2 n2 : Nat) (ps : List (Int × Int)) (L V : List Int) (w : World) (hv : ReadsQ w v ps) (hu1 : ReadsI w (.slice (some ⟨b1, 0, none⟩) n1 n1) L) (hu2 : ReadsI w (.slice (some ⟨b2, 0, none⟩) n2 n2) V) (hfit : FitsQ ps) (hxq : ps.length ≤ 1048576) (hx1 : L.length ≤ 1048576) (hx2 : V.length ≤ 1048576) :
    Calls Try.prog 12 #[v, .slice (some ⟨b1, 0, none⟩) n1 n1, .slice (some ⟨b2, 0, none⟩) n2 n2] w fun e w' => e = .returned (.tuple #[.int .i64 (dgR ps L V), .int .i64 (dgC ps L V)]) ∧ Below w.heap.size w w' := by
  have HV := Lib.hid hv
  have HU1 := Lib.hid hu1
  have HU2 := Lib.hid hu2
  have HF := Lib.hid hfit
  have HOK := Lib.hid (sokQ_any v ps w hv hfit hxq)
  have hn1 : L.length = n1 := by obtain ⟨a', c', e, _⟩ := hu1; injection e with e1 e2 e3; exact e2.symm
  obtain ⟨va, vc, rfl, hva⟩ := hv
  clear hu1 hu2 hva hfit
  go_enter Try.func12, Try.ntmps12
  go_wp2_with fail
  refine HOK.out.mono ?_
  rintro e w2 ⟨rfl, b2⟩
  have HB2 := Lib.hid b2
  clear HOK b2
  cases hvl : vldQ ps
  · have HR : Hid (dgR ps L V = 0 ∧ dgC ps L V = 1) := Lib.hid ⟨by simp [dgR, hvl], by simp [dgC, hvl]⟩
    clear hvl
    go_wp2_with fail
    go_ret2
    rw [HR.out.1, HR.out.2]
    exact ⟨rfl, HB2.out⟩
  · have HVL := Lib.hid hvl
    have HI := Lib.hid (seach_any ps.length b1 n1 L hn1 hxq (by omega) w2 (HU1.out.below HB2.out))
    clear hvl
    go_wp2_with fail
    refine HI.out.mono ?_
    rintro e w3 ⟨rfl, b3⟩
    have HB3 := Lib.hid (blink HB2.out b3)
    clear b3 HI
    cases hvb : visB (idxI ps.length) L
    · have HR : Hid (dgR ps L V = 0 ∧ dgC ps L V = 4) := Lib.hid ⟨by simp [dgR, dgOk, hvb], by simp [dgC, dgOk, hvb, HVL.out]⟩
      clear hvb
      go_wp2_with fail
      go_ret2
      rw [HR.out.1, HR.out.2]
      exact ⟨rfl, HB3.out⟩
    · have HLD := Lib.hid hvb
      have HS := Lib.hid (sstopsL_any _ ps w3 (HV.out.below HB3.out) HVL.out)
      clear hvb
      go_wp2_with fail
      refine HS.out.mono ?_
      rintro e w4 ⟨u4, rfl, o4, b4⟩
      have HB4 := Lib.hid (blink HB3.out b4)
      have HI2 := Lib.hid (svis_any u4 (some ⟨b2, 0, none⟩) n2 (stopsL ps) V w4 o4.reads (stops_len20 ps) (stops_asc ps) (HU2.out.below HB4.out) hx2)
      clear b4 HS o4
      go_wp2_with fail
      refine HI2.out.mono ?_
      rintro e w5 ⟨rfl, b5⟩
      have HB5 := Lib.hid (blink HB4.out b5)
      clear b5 HI2
      cases hvs : visB (stopsL ps) V
      · have HR : Hid (dgR ps L V = 0 ∧ dgC ps L V = 4) := Lib.hid ⟨by simp [dgR, dgOk, hvs], by simp [dgC, dgOk, hvs, HVL.out]⟩
        clear hvs
        go_wp2_with fail
        go_ret2
        rw [HR.out.1, HR.out.2]
        exact ⟨rfl, HB5.out⟩
      · have HR : Hid (dgR ps L V = digSum ps V L V.length ∧ dgC ps L V = 0) := Lib.hid ⟨by simp [dgR, dgOk, hvs, HLD.out, HVL.out], by simp [dgC, dgOk, hvs, HLD.out, HVL.out]⟩
        have HAL := Lib.hid (sdigL_any _ _ b1 n1 ps L V HVL.out HF.out HLD.out hvs w5 (HV.out.below HB5.out) (HU1.out.below HB5.out) (HU2.out.below HB5.out))
        clear hvs
        go_wp2_with fail
        refine HAL.out.mono ?_
        rintro e w6 ⟨rfl, b6⟩
        have HB6 := Lib.hid (blink HB5.out b6)
        clear b6 HAL
        go_wp2_with fail
        go_ret2
        rw [HR.out.1, HR.out.2]
        exact ⟨rfl, HB6.out⟩
end Go.Proofs.Yteecpijfikgjnaa
