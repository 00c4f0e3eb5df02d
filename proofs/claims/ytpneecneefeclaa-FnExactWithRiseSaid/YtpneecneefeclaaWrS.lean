/-
  A table with higher prices: the model's.
-/
import Derived.Test.YtpneecneefeclaaWrP
namespace Go.Proofs.Ytpneecneefeclaa
open Go Go.RowKit
set_option linter.unusedVariables false

theorem rise_div {p x : Int} (hp : 0 ≤ p ∧ p ≤ 100) (hx : 0 ≤ x ∧ x ≤ 10000) : (x * (100 + p) + 99).tdiv 100 = riseN p x := by
  have h := (rise_bd hp hx).1
  rw [Int.tdiv_eq_ediv_of_nonneg (by omega)]
  rfl
theorem inB_specW {n lo hi : Int} (h : inB n lo hi = true) : lo ≤ n ∧ n ≤ hi := of_decide_eq_true h
/-- What a table that is not told leaves. -/
theorem wr_fail {w W : World} {B2 : Nat} {T : TypeId} (hb : Blk2 W B2 T nilS nilS) (hB : Below w.heap.size w W) (hl : w.heap.size ≤ B2) :
    ((W.setCell ⟨B2, 0, none⟩ nilS).setCell ⟨B2, 1, none⟩ nilS).cell? ⟨B2, 0, none⟩ = some nilS ∧ ((W.setCell ⟨B2, 0, none⟩ nilS).setCell ⟨B2, 1, none⟩ nilS).cell? ⟨B2, 1, none⟩ = some nilS ∧ Below w.heap.size w ((W.setCell ⟨B2, 0, none⟩ nilS).setCell ⟨B2, 1, none⟩ nilS) := by
  have h := (hb.set0 nilS).set1 nilS
  exact ⟨h.at0, h.at1, (hB.setCell hl _).setCell hl _⟩

set_option maxHeartbeats 1600000 in
set_option maxRecDepth 100000 in
theorem swr_any (v : Value) (S : List Int) (R : List (List Int)) (p : Int) (w : World) (hv : ReadsT w v S R) (k : TabOk S R) :
    Calls Try.prog 5 #[v, .int .i64 p] w (RetRt w (wrS S R p) (wrR S R p) (wrC S R p)) := by
  obtain ⟨o0, ho0, oz0, oz1, oz2⟩ := info_parts info_h
  obtain ⟨i0, hi, hz0, hz1, hz2⟩ := info_parts info_i16
  obtain ⟨rs, hrs⟩ : ∃ r, wrS S R p = r := ⟨_, rfl⟩
  obtain ⟨rr, hrr⟩ : ∃ r, wrR S R p = r := ⟨_, rfl⟩
  obtain ⟨rc, hrc⟩ : ∃ r, wrC S R p = r := ⟨_, rfl⟩
  rw [hrs, hrr, hrc]
  have HNO : Hid (∀ c, wrC S R p = c → c ≠ 0 → rs = [] ∧ rr = [] ∧ rc = c) := Lib.hid (fun c h hc => by rw [← hrs, ← hrr, ← hrc]; obtain ⟨e1, e2⟩ := wr_no h hc; exact ⟨e1, e2, h⟩)
  have HYES : Hid (wrC S R p = 0 → rs = S ∧ rr = R.map (riseR p) ∧ rc = 0) := Lib.hid (fun h => by rw [← hrs, ← hrr, ← hrc]; obtain ⟨e1, e2⟩ := wr_yes h; exact ⟨e1, e2, h⟩)
  obtain ⟨v1, v2, rfl, h1, h2⟩ := hv
  obtain ⟨a, cap, rfl, hA⟩ := h1
  obtain ⟨b, c2, rfl, hB⟩ := h2
  have hv1 : ReadsH w (.slice a S.length cap) S := ⟨a, cap, rfl, hA⟩
  have hv2 : ReadsM w (.slice b R.length c2) R := ⟨b, c2, rfl, hB⟩
  obtain ⟨n, hn⟩ : ∃ n, S.length = n := ⟨_, rfl⟩
  obtain ⟨m, hm⟩ : ∃ m, R.length = m := ⟨_, rfl⟩
  rw [hn] at hv1
  rw [hm] at hv2
  rw [hn, hm]
  have HN := Lib.hid hn
  have HM := Lib.hid hm
  have HK := Lib.hid k
  -- the two boxes: the argument's, the result's
  have B10 : Blk2 ((w.alloc (.cells #[.slice a n cap, .slice b m c2] 27)).alloc (.cells #[nilS, nilS] 27)) w.heap.size 27 (.slice a n cap) (.slice b m c2) := (Blk2.new rfl _ _ _).alloc _
  obtain ⟨B2, hB2⟩ : ∃ B, w.heap.size + 1 = B := ⟨_, rfl⟩
  have B20 : Blk2 ((w.alloc (.cells #[.slice a n cap, .slice b m c2] 27)).alloc (.cells #[nilS, nilS] 27)) B2 27 nilS nilS := Blk2.new (by simp; exact hB2) _ _ _
  have b10 : Below w.heap.size w ((w.alloc (.cells #[.slice a n cap, .slice b m c2] 27)).alloc (.cells #[nilS, nilS] 27)) := (((Below.refl _ _).alloc (Nat.le_refl _) _).alloc (by simp) _)
  obtain ⟨W1, hW1⟩ : ∃ W, (w.alloc (.cells #[.slice a n cap, .slice b m c2] 27)).alloc (.cells #[nilS, nilS] 27) = W := ⟨_, rfl⟩
  have HW1 := Lib.hid hW1
  rw [hW1] at B10 B20 b10
  have HB10 := Lib.hid B10
  have HB20 := Lib.hid B20
  have HC1 := Lib.hid b10
  have HB2 := Lib.hid hB2
  have hwB : w.heap.size ≤ B2 := by omega
  have h21 : B2 < W1.heap.size := B20.lt
  have HV1 := Lib.hid (hv1.below b10)
  have HV2 := Lib.hid (hv2.below b10)
  have HAT : Hid (AtT W1 w.heap.size S R) := Lib.hid ⟨_, _, _, B10, hv1.below b10, hv2.below b10⟩
  have HAS := Lib.hid (asked_any w.heap.size S R 0 (inB p 0 100) W1 HAT.out k)
  obtain ⟨ca, hca⟩ : ∃ c, asked S R 0 (inB p 0 100) = c := ⟨_, rfl⟩
  have HCA := Lib.hid hca
  rw [hca] at HAS
  clear hrs hrr hrc hA hB hv1 hv2 hn hm k B10 B20 b10 hW1 hB2 hca
  go_enter Try.func5, Try.ntmps5
  go_wp2_with fail
  rw [HW1.out]
  refine (in_any p 0 100 W1).mono ?_
  rintro e wq ⟨rfl, hww⟩
  obtain rfl : W1 = wq := hww.symm
  go_wp2_with fail
  refine HAS.out.mono ?_
  rintro e w2 ⟨rfl, b2⟩
  have hs2 : W1.heap.size ≤ w2.heap.size := b2.size
  have HC2 := Lib.hid (HC1.out.trans (b2.mono (by omega)))
  have HB12 := Lib.hid (HB10.out.below b2)
  have HB22 := Lib.hid (HB20.out.below b2)
  have HV12 := Lib.hid (HV1.out.below b2)
  have HV22 := Lib.hid (HV2.out.below b2)
  clear b2 HAS
  by_cases hc0 : ca = 0
  rotate_left
  · have hcq : wrC S R p = ca := by
      rw [← HCA.out]
      cases hv : vldT S R with
      | false => rw [wrC_1 p hv, asked_1 _ _ hv]
      | true =>
        have hz : inB 0 0 (R.length - 1) = true := inB_true (by have := (vldT_spec hv).2.1; omega)
        cases hf : inB p 0 100 with
        | false => rw [asked_2 hv (.inr rfl), wrC_2 hv (fun h => by rw [inB_true h] at hf; cases hf)]
        | true => exact absurd (by rw [← HCA.out, hf, asked_0 hv hz rfl]) hc0
    obtain ⟨e1, e2, e3⟩ := HNO.out ca hcq hc0
    have tc : (ca != 0) = true := by simpa using hc0
    subst e1; subst e2
    have E3 := Lib.hid e3
    obtain ⟨z0, z1, hBF⟩ := wr_fail HB22.out HC2.out hwB
    have HZ0 := Lib.hid z0
    have HZ1 := Lib.hid z1
    have HBF := Lib.hid hBF
    have y0 := HB22.out.at0
    have y1 := HB22.out.at1
    have yf0 := HB22.out.frozen 0
    have yf1 := HB22.out.frozen 1
    clear hc0 hcq z0 z1 hBF e3
    rw [HB2.out]
    go_wp2_with fail
    have z0 := HZ0.out
    have z1 := HZ1.out
    exact bodyPost_ret (v := .tuple #[.agg #[nilS, nilS], .int .i64 ca]) (by simp [results, Try.results5, go_sem, z0, z1]) rfl ⟨_, by rw [E3.out], ownT_nil _ _ _ HBF.out.size, HBF.out⟩
  · subst hc0
    obtain ⟨hvt, hp⟩ : vldT S R = true ∧ (0 ≤ p ∧ p ≤ 100) := by
      cases hv : vldT S R with
      | false => have h := HCA.out; rw [asked_1 _ _ hv] at h; cases h
      | true =>
        cases hf : inB p 0 100 with
        | true => exact ⟨rfl, inB_specW hf⟩
        | false => have h := HCA.out; rw [hf, asked_2 hv (.inr rfl)] at h; cases h
    have HVT := Lib.hid hvt
    have HP := Lib.hid hp
    have hp0 := hp.1
    have hp1 := hp.2
    have HNE : Hid (S ≠ []) := Lib.hid (vldT_okS hvt).ne
    have hn10 : n ≤ 10 := by have := (vldT_okS hvt).2.1; have := HN.out; omega
    have hm6 : m ≤ 6 := by have := (vldT_spec hvt).2.2.1; have := HM.out; omega
    have hm1 : 1 ≤ m := by have := (vldT_spec hvt).2.1; have := HM.out; omega
    obtain ⟨bs, hbs, hcs⟩ : ∃ bs, a = some ⟨bs, 0, none⟩ ∧ CellsH w2 bs S := by
      obtain ⟨a', cap', e1, e2⟩ := HV12.out
      injection e1 with e1 _ _
      subst e1
      obtain ⟨bs, e3, e4⟩ := e2 HNE.out
      exact ⟨bs, e3, e4⟩
    obtain ⟨bR, hbR⟩ : ∃ bR, b = some ⟨bR, 0, none⟩ := by
      obtain ⟨a', cap', e1, e2⟩ := HV22.out
      injection e1 with e1 _ _
      subst e1
      obtain ⟨bR, e3, _⟩ := e2 (fun e => by have := HM.out; rw [e] at this; simp at this; omega)
      exact ⟨bR, e3⟩
    subst hbs; subst hbR
    have bA : Below w2.heap.size w2 (w2.alloc (.cells #[] 39)) := (Below.refl _ _).alloc (Nat.le_refl _) _
    have HOA : Hid ((w2.alloc (.cells #[] 39)).ownsRow (B2 + 1) 39 1 (.slice (some ⟨w2.heap.size, 0, none⟩) 0 0) 0 []) := Lib.hid (World.ownsRow_made w2 #[] 0 (by omega) (Nat.zero_le _) rfl)
    have hnews : ∀ j u, (S.map (Value.int .i16))[j]? = some u → (w2.alloc (.cells #[] 39)).cell? ((⟨bs, 0, none⟩ : Addr).add j) = some u := by
      intro j u hj
      have hjl : j < S.length := by
        have := (List.getElem?_eq_some_iff.1 hj).1
        simpa using this
      rw [addr_add, Nat.zero_add]
      rw [(hcs.below bA) j hjl]
      simp [hjl] at hj
      simp [List.getD, hjl, hj]
    have HNEWS := Lib.hid hnews
    have HBA := Lib.hid bA
    have HB2A := Lib.hid (HB22.out.alloc (.cells #[] 39))
    have q0 := (HB12.out.alloc (.cells #[] 39)).at0
    have q1 := (HB12.out.alloc (.cells #[] 39)).at1
    clear hnews bA hcs hvt hp
    rw [HB2.out]
    go_wp2_with (at_builtin; refine wpList_append_own _ rfl _ _ 22 rfl (B2 + 1) 39 i0 (.int .i16 0) 1 2 Try.underlying22 hi hz0 hz1 hz2 rfl (by decide) _ _ _ rfl HOA.out ⟨bs, 0, none⟩ n cap (S.map (Value.int .i16)) rfl (by simp; exact HN.out) HNEWS.out (ints_oneCell .i16 S) ?f3 ?f4 ?f5 ?_)
    case f3 => unfold maxLen; omega
    case f4 => omega
    case f5 => first | omega | (simp; omega)
    intro v' w3 hown' hgrow _
    have HOS : Hid (OwnH (B2 + 1) w3 v' S) := Lib.hid (by
      unfold OwnH
      rw [HN.out]
      simpa using hown')
    obtain ⟨a3, c3, hv3⟩ := own_is HOS.out
    rw [HN.out] at hv3
    subst hv3
    have hs3 : w2.heap.size < w3.heap.size := by have := hgrow.size; simp at this; omega
    have b23 : Below w2.heap.size w2 w3 := HBA.out.grown hgrow (by simp) (fun q hq => by
      have h : w2.heap.size = q := by simpa [Value.ownBlock] using hq
      omega)
    have HB13 := Lib.hid (HB12.out.below b23)
    have HB23 := Lib.hid (HB22.out.below b23)
    have HV3 := Lib.hid (HV22.out.below b23)
    have HC3 := Lib.hid (HC2.out.trans (b23.mono (by omega)))
    obtain ⟨B6, hB6⟩ : ∃ B, w3.heap.size = B := ⟨_, rfl⟩
    have b34 : Below w3.heap.size w3 (w3.alloc (.cells #[.slice a3 n c3, nilS] 27)) := (Below.refl _ _).alloc (Nat.le_refl _) _
    have HST : Hid (TabW 27 (w3.alloc (.cells #[.slice a3 n c3, nilS] 27)) B2 B6 0 S (R.map (riseR p)) (.slice a3 n c3) nilS []) := Lib.hid ⟨HB23.out.below b34, Blk2.new hB6 _ _ _, by omega, HOS.out.below b34, fun q hq => by have := (HOS.out.block q hq).2; omega, World.ownsRow_nil _ _ _ _, fun j hj => absurd hj (by omega), fun i j _ hj => absurd hj (by omega)⟩
    have HB34 := Lib.hid b34
    have HB6 := Lib.hid hB6
    clear hown' hgrow b23 b34 q0 q1
    go_wp2_with fail
    go_loopw [8] (fun iv wr => ∃ (k : Nat) (u2 : Value) (us : List Value), k ≤ m ∧ iv = .int .i64 k ∧ TabW 27 wr B2 B6 k S (R.map (riseR p)) (.slice a3 n c3) u2 us ∧ (∀ z, z < k → ∀ i, i < (R.getD z []).length → riseN p ((R.getD z []).getD i 0) ≤ 10000) ∧ Below w3.heap.size w3 wr) (fun i _ => m - (intOf i).toNat)
    case atStart => exact ⟨0, nilS, [], Nat.zero_le _, rfl, HST.out, fun z hz => absurd hz (by omega), HB34.out⟩
    case round =>
      obtain ⟨wo, hwo⟩ : ∃ wo, wo = wr := ⟨_, rfl⟩
      subst hwo
      obtain ⟨k, u2, us, hk, rfl, htw, hok, hb⟩ := hrel
      have HTW := Lib.hid htw
      have HOK := Lib.hid hok
      have HB := Lib.hid hb
      have hwo3 : w3.heap.size ≤ wo.heap.size := hb.size
      obtain ⟨a2, c2', hu2⟩ := own_is htw.o
      have HBW : Hid (Below w.heap.size w wo) := Lib.hid (HC3.out.trans (hb.mono (by omega)))
      have h6l : B6 < wo.heap.size := htw.b6.lt
      by_cases hlt : k < m
      · have hkR : k < R.length := by have := HM.out; omega
        have hkm : (k : Int) < (m : Int) := by omega
        have hk0 : (0 : Int) ≤ (k : Int) := by omega
        obtain ⟨xs, hxs⟩ : ∃ xs, R.getD k [] = xs := ⟨_, rfl⟩
        have hokN := vldT_okR HVT.out hkR
        rw [hxs] at hokN
        obtain ⟨u, hu, hru⟩ : ∃ u, w3.cell? ⟨bR, k, none⟩ = some u ∧ ReadsH w3 u xs := by
          obtain ⟨a', cap', e1, e2⟩ := HV3.out
          injection e1 with e1 _ _
          obtain ⟨bq, e3, e4⟩ := e2 (fun e => by rw [e] at hkR; simp at hkR)
          rw [e3] at e1
          injection e1 with e1
          injection e1 with e1
          subst e1
          rw [← hxs]
          exact e4 k hkR
        obtain ⟨au, cu, rfl, hcu⟩ := hru
        obtain ⟨bu, rfl, hcu2⟩ := hcu hokN.ne
        obtain ⟨nx, hnx⟩ : ∃ n, xs.length = n := ⟨_, rfl⟩
        rw [hnx] at hu
        have HNX := Lib.hid hnx
        have HCU := Lib.hid hcu2
        have HU := Lib.hid hu
        have HXS := Lib.hid hxs
        have HOKN := Lib.hid hokN
        have hnx10 : nx ≤ 10 := by have := hokN.2.1; omega
        have y0 := (HB13.out.below hb).at0
        have y1 := (HB13.out.below hb).at1
        have HOI : Hid (OwnH wo.heap.size (wo.alloc (.cells #[] 39)) (.slice (some ⟨wo.heap.size, 0, none⟩) 0 0) (riseR p (xs.take 0))) := Lib.hid (World.ownsRow_made wo #[] 0 (Nat.le_refl _) (Nat.zero_le _) rfl)
        have HBI : Hid (Below wo.heap.size wo (wo.alloc (.cells #[] 39))) := Lib.hid ((Below.refl _ _).alloc (Nat.le_refl _) _)
        clear hxs hokN hcu hcu2 hnx hu htw hok hb
        go_wp2_with fail
        go_loopw [9, 10] (fun bv jv wr => ∃ j : Nat, j ≤ nx ∧ jv = .int .i64 j ∧ OwnH wo.heap.size wr bv (riseR p (xs.take j)) ∧ (∀ i, i < j → riseN p (xs.getD i 0) ≤ 10000) ∧ Below wo.heap.size wo wr) (fun _ i _ => nx - (intOf i).toNat)
        case atStart => exact ⟨0, Nat.zero_le _, rfl, HOI.out, fun i hi => absurd hi (by omega), HBI.out⟩
        case round =>
          obtain ⟨j, hj, rfl, hoi, hoks, hbi⟩ := hrel
          have hwi : wo.heap.size ≤ wr.heap.size := hbi.size
          obtain ⟨ba, bc, hbv⟩ := own_is hoi
          have hbl : (riseR p (xs.take j)).length = j := by rw [riseR_len, List.length_take, HNX.out]; omega
          rw [hbl] at hbv
          subst hbv
          have HBL := Lib.hid hbl
          have HOJ := Lib.hid hoi
          have HBJ := Lib.hid hbi
          have HOKS := Lib.hid hoks
          have HB3R : Hid (Below w3.heap.size w3 wr) := Lib.hid (HB.out.trans (hbi.mono hwo3))
          have HTWR := Lib.hid (HTW.out.below hbi)
          have HBWR : Hid (Below w.heap.size w wr) := Lib.hid (HBW.out.trans (hbi.mono (by omega)))
          have z0 := (HB13.out.below HB3R.out).at0
          have z1 := (HB13.out.below HB3R.out).at1
          have zu : wr.cell? ⟨bR, k, none⟩ = some (.slice (some ⟨bu, 0, none⟩) nx cu) := (HB3R.out.cell (p := ⟨bR, k, none⟩) (World.block_lt_of_cell? w3 _ HU.out)).trans HU.out
          clear hoi hbi hbl hoks
          by_cases hjl : j < nx
          · have hjx : j < xs.length := by have := HNX.out; omega
            have hjn : (j : Int) < (nx : Int) := by omega
            have hj0 : (0 : Int) ≤ (j : Int) := by omega
            have zc := (HCU.out.below HB3R.out) j hjx
            obtain ⟨x, hx⟩ : ∃ x, xs.getD j 0 = x := ⟨_, rfl⟩
            have hxb := HOKN.out.2.2 j hjx
            rw [hx] at zc hxb
            have HX := Lib.hid hx
            have hy := rise_bd HP.out hxb
            have hy0 := hy.1
            have hy1 := hy.2
            have hx0 := hxb.1
            have hx1 := hxb.2
            have hdv := rise_div HP.out hxb
            obtain ⟨d, hd⟩ : ∃ d, riseN p x = d := ⟨_, rfl⟩
            have hd0 : 0 ≤ d ∧ d ≤ 20001 := by
              rw [← hd]
              unfold riseN
              omega
            have hd1 := hd0.1
            have hd2 := hd0.2
            have HD := Lib.hid hd
            rw [hd] at hdv
            have HSN : Hid (riseR p (xs.take (j + 1)) = riseR p (xs.take j) ++ [d]) := Lib.hid (by rw [riseR_snoc p xs j hjx, hx, hd])
            have w0 := HTWR.out.b2.at0
            have w1' := HTWR.out.b2.at1
            have wf0 := HTWR.out.b2.frozen 0
            have wf1 := HTWR.out.b2.frozen 1
            clear hx hxb hy hd hd0
            by_cases hbig : 10000 < d
            · have t1 : decide ((10000 : Int) < d) = true := decide_eq_true hbig
              have h3 : wrC S R p = 3 := wrC_3 HVT.out HP.out (fun h => by
                have := h k hkR j (by rw [HXS.out]; exact hjx)
                rw [HXS.out, HX.out, HD.out] at this
                omega)
              obtain ⟨e1, e2, e3⟩ := HNO.out 3 h3 (by decide)
              subst e1; subst e2; subst e3
              obtain ⟨s0, s1, hBF⟩ := wr_fail HTWR.out.b2 HBWR.out hwB
              have HZ0 := Lib.hid s0
              have HZ1 := Lib.hid s1
              have HBF := Lib.hid hBF
              clear h3 hbig s0 s1 hBF
              go_wp2_with fail
              have s0 := HZ0.out
              have s1 := HZ1.out
              exact bodyPost_ret (v := .tuple #[.agg #[nilS, nilS], .int .i64 3]) (by simp [results, Try.results5, go_sem, s0, s1]) rfl ⟨_, rfl, ownT_nil _ _ _ HBF.out.size, HBF.out⟩
            have t1 : decide ((10000 : Int) < d) = false := decide_eq_false hbig
            have HOKS2 : Hid (∀ i, i < j + 1 → riseN p (xs.getD i 0) ≤ 10000) := Lib.hid (fun i hi => by
              by_cases e : i = j
              · subst e; rw [HX.out, HD.out]; omega
              · exact HOKS.out i (by omega))
            have HOA2 : Hid ((wr.alloc (.cells #[.int .i16 d] 39)).ownsRow wo.heap.size 39 1 (.slice ba j bc) j ((riseR p (xs.take j)).map (Value.int .i16))) := Lib.hid (by have h := World.ownsRow.alloc (show wr.ownsRow wo.heap.size 39 1 (.slice ba j bc) (riseR p (xs.take j)).length ((riseR p (xs.take j)).map (Value.int .i16)) from HOJ.out) (.cells #[.int .i16 d] 39); rw [HBL.out] at h; exact h)
            have HBA2 : Hid (Below wo.heap.size wo (wr.alloc (.cells #[.int .i16 d] 39))) := Lib.hid (HBJ.out.alloc hwi _)
            clear w0 w1' wf0 wf1
            go_wp2_with (at_builtin; refine wpList_append_own _ rfl _ _ 22 rfl wo.heap.size 39 i0 (.int .i16 0) 1 2 Try.underlying22 hi hz0 hz1 hz2 rfl (by decide) _ _ _ rfl HOA2.out ⟨wr.heap.size, 0, none⟩ 1 1 [.int .i16 d] rfl rfl (cell_one_new _ _ _) (one_i16 _) ?g3 ?g4 ?g5 ?_)
            case g3 => unfold maxLen; omega
            case g4 => omega
            case g5 => first | omega | (simp; omega)
            intro v' w9 hown' hgrow _
            have HO9 : Hid (OwnH wo.heap.size w9 v' (riseR p (xs.take (j + 1)))) := Lib.hid (by
              rw [HSN.out]
              unfold OwnH
              rw [List.map_append, List.length_append, HBL.out]
              exact hown')
            have HB9 : Hid (Below wo.heap.size wo w9) := Lib.hid (HBA2.out.grown hgrow (by simp; omega) (fun q e => (HOA2.out.lt q e).1))
            clear hown' hgrow
            go_wp2_with fail
            go_roundw
            case rel => exact ⟨j + 1, by omega, by go_num, HO9.out, HOKS2.out, HB9.out⟩
            case measure => simp [intOf]; omega
          · have hjn : j = nx := by omega
            subst hjn
            have HOX : Hid (OwnH wo.heap.size wr (.slice ba j bc) (riseR p xs)) := Lib.hid (by have h := HOJ.out; rw [List.take_of_length_le (by rw [HNX.out]; exact Nat.le_refl _)] at h; exact h)
            have HQ : Hid ((R.map (riseR p)).getD k [] = riseR p xs) := Lib.hid (by rw [← HXS.out]; simp [List.getD, hkR])
            have HOK2 : Hid (∀ z, z < k + 1 → ∀ i, i < (R.getD z []).length → riseN p ((R.getD z []).getD i 0) ≤ 10000) := Lib.hid (fun z hz i hi => by
              by_cases e : z = k
              · subst e; rw [HXS.out] at hi ⊢; exact HOKS.out i (by have := HNX.out; omega)
              · exact HOK.out z (by omega) i hi)
            have q0 := HTWR.out.b6.at0
            have q1 := HTWR.out.b6.at1
            have qf0 := HTWR.out.b6.frozen 0
            have qf1 := HTWR.out.b6.frozen 1
            rw [hu2] at q1
            have HOWA : Hid ((wr.alloc (.cells #[.slice ba j bc] 22)).ownsRow (B6 + 1) 22 1 (.slice a2 k c2') k us) := Lib.hid (by
              have h := World.ownsRow.alloc HTWR.out.o (.cells #[.slice ba j bc] 22)
              rw [hu2] at h
              exact h)
            have HB6A : Hid (Blk2 (wr.alloc (.cells #[.slice ba j bc] 22)) B6 27 (.slice a3 n c3) u2) := Lib.hid (HTWR.out.b6.alloc _)
            have HBVA : Hid (Below w3.heap.size w3 (wr.alloc (.cells #[.slice ba j bc] 22))) := Lib.hid (HB3R.out.alloc (by omega) _)
            have HU2 := Lib.hid hu2
            clear hu2
            go_wp2_with (at_builtin; refine wpList_append_own_at _ rfl _ _ 23 rfl (B6 + 1) 22 o0 (.slice none 0 0) 1 24 Try.underlying23 ho0 oz0 oz1 oz2 rfl (by decide) _ _ _ rfl HOWA.out ⟨wr.heap.size, 0, none⟩ 1 1 [.slice ba j bc] rfl rfl (cell_one_new _ _ _) (fun u hu => by simp at hu; subst hu; rfl) ?d3 ?d4 ?d5 ?_)
            case d3 => unfold maxLen; omega
            case d4 => omega
            case d5 => first | (simp; omega) | omega
            intro v' w9 hown' hgrow _ _
            obtain ⟨a9, c9, hv9⟩ := own_is hown'
            subst hv9
            have HTE := Lib.hid (TabW.more (T := 27) HTW.out HBJ.out HOX.out HQ.out hown' (by rw [HU2.out]; exact hgrow))
            have hb69 : Blk2 w9 B6 27 (.slice a3 n c3) u2 := blk_grown HB6A.out hgrow (fun q hq => by have := (HOWA.out.lt q hq).1; omega)
            have HBV9 : Hid (Below w3.heap.size w3 w9) := Lib.hid (HBVA.out.grown hgrow (by simp; omega) (fun q hq => by have := (HOWA.out.lt q hq).1; omega))
            have HBE9 : Hid (Below w3.heap.size w3 (w9.setCell ⟨B6, 1, none⟩ (.slice a9 (k + 1) c9))) := Lib.hid (HBV9.out.setCell (by simp; omega) _)
            have p0 := hb69.at0
            have p1 := hb69.at1
            have pf0 := hb69.frozen 0
            have pf1 := hb69.frozen 1
            rw [HU2.out] at p1
            clear hown' hgrow hb69 q0 q1 qf0 qf1
            go_wp2_with fail
            go_roundw
            case rel => exact ⟨k + 1, _, _, by omega, by go_num, HTE.out, HOK2.out, HBE9.out⟩
            case measure => simp [intOf]; omega
      · have hkm : k = m := by omega
        subst hkm
        obtain ⟨e1, e2, e3⟩ := HYES.out (wrC_0 HVT.out HP.out (fun z hz => HOK.out z (by have := HM.out; omega)))
        subst e3
        have HOWN := Lib.hid (htw.own (by rw [List.length_map]; exact HM.out))
        have h6 := (htw.b2.set0 (.slice a3 n c3)).set1 u2
        have HZ0 := Lib.hid h6.at0
        have HZ1 := Lib.hid h6.at1
        have x0 := htw.b6.at0
        have x1 := htw.b6.at1
        have x2 := (HB13.out.below hb).at0
        have x3 := (HB13.out.below hb).at1
        have y0 := htw.b2.at0
        have y1 := htw.b2.at1
        have yf0 := htw.b2.frozen 0
        have yf1 := htw.b2.frozen 1
        have HBF : Hid (Below w.heap.size w ((wo.setCell ⟨B2, 0, none⟩ (.slice a3 n c3)).setCell ⟨B2, 1, none⟩ u2)) := Lib.hid ((HBW.out.setCell hwB _).setCell hwB _)
        have HOE : Hid (OwnTD w.heap.size ((wo.setCell ⟨B2, 0, none⟩ (.slice a3 n c3)).setCell ⟨B2, 1, none⟩ u2).heap.size ((wo.setCell ⟨B2, 0, none⟩ (.slice a3 n c3)).setCell ⟨B2, 1, none⟩ u2) (.agg #[.slice a3 n c3, u2]) rs rr) := Lib.hid (by
          rw [e1, e2]
          exact ((HOWN.out.out (koutSet wo ⟨B2, 0, none⟩ _) (.inr (Nat.le_refl _))).out (koutSet _ ⟨B2, 1, none⟩ u2) (.inr (Nat.le_refl _))).mono (by omega) (by simp))
        rw [hu2] at x1 HZ0 HZ1 HBF HOE
        clear htw hok hb h6 e1 e2 hu2
        go_wp2_with fail
        have z0 := HZ0.out
        have z1 := HZ1.out
        exact bodyPost_ret (v := .tuple #[.agg #[.slice a3 n c3, .slice a2 k c2'], .int .i64 0]) (by simp [results, Try.results5, go_sem, z0, z1]) rfl ⟨_, rfl, HOE.out, HBF.out⟩
end Go.Proofs.Ytpneecneefeclaa
