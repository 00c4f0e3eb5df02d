/-
  The program's prices by weight, and its FirstDearer.
-/
import Derived.Test.YtgibmhafkhmcdaaDoorDearS
namespace Go.Proofs.YtgibmhafkhmcdaaDoor
open Go Go.RowKit
set_option linter.unusedVariables false

theorem take_snoc0 {xs : List Int} {k : Nat} (h : k < xs.length) : xs.take (k + 1) = xs.take k ++ [xs.getD k 0] := by
  rw [List.take_succ_eq_append_getElem h]; simp [List.getD, h]
set_option maxHeartbeats 4000000 in
set_option maxRecDepth 100000 in
theorem byWeight_any (v : Value) (S : List Int) (R : List (List Int)) (z : Int) (w : World) (hv : ReadsT w v S R) (k : TabOk S R) (hvl : vldT S R = true) (hz : inB z 0 (R.length - 1) = true) :
    Calls Tryd.prog 49 #[v, .int .i64 z] w fun e w' => ∃ u, e = .returned u ∧ OwnI w.heap.size w' u (pl S R z) ∧ Below w.heap.size w w' := by
  have hzb := inB_spec hz
  obtain ⟨zn, rfl⟩ : ∃ zn : Nat, z = zn := ⟨z.toNat, by omega⟩
  obtain ⟨v1, v2, rfl, ⟨a, cap, rfl, ha⟩, ⟨b, c2, rfl, hb⟩⟩ := hv
  have HAT : Hid (AtT (w.alloc (.cells #[.slice a S.length cap, .slice b R.length c2] 29)) w.heap.size S R) := Lib.hid (AtT.box ⟨a, cap, rfl, ha⟩ ⟨b, c2, rfl, hb⟩)
  obtain ⟨hs1, hs2, hs3⟩ := vldS_spec (vldT_spec hvl).1
  have hlb := lastS_bound (vldT_spec hvl).1
  obtain ⟨L, hL⟩ : ∃ L : Nat, lastS S = L := ⟨(lastS S).toNat, by omega⟩
  have HPL : Hid ((pl S R zn).length = L + 1) := Lib.hid (by rw [pl_len, hL]; simp)
  have HL := Lib.hid hL
  have HR := Lib.hid hs3
  have HV := Lib.hid hvl
  have HS := Lib.hid ha
  obtain ⟨i0, hi, hz0, hz1, hz2⟩ := info_parts info_i64
  have hl2 : L ≤ 2000 := by omega
  obtain ⟨m, hm⟩ : ∃ m, S.length = m := ⟨_, rfl⟩
  obtain ⟨r, hr⟩ : ∃ r, R.length = r := ⟨_, rfl⟩
  have hzr : zn < r := by omega
  have hmb : m ≤ 10 := by omega
  have hm1 : 1 ≤ m := by omega
  have HM := Lib.hid hm
  have HRR := Lib.hid hr
  have hrb : r ≤ 1048576 := by have := k.rl; omega
  rw [hm, hr] at HAT ⊢
  clear ha hb k hvl hz hs1 hs2 hs3 hlb hL hm hr hzb
  go_enter Tryd.func49, Tryd.ntmps49
  go_wp2_with fail
  obtain ⟨W0, hW0⟩ : ∃ W0, w.alloc (.cells #[.slice a m cap, .slice b r c2] 29) = W0 := ⟨_, rfl⟩
  have hs0 : W0.heap.size = w.heap.size + 1 := by rw [← hW0]; simp
  have HC : Hid (Below w.heap.size w W0) := Lib.hid (by rw [← hW0]; exact allocB _ _)
  rw [hW0] at HAT ⊢
  have HO0 : Hid ((W0.alloc (.cells #[.int .i64 0] 2)).ownsRow W0.heap.size 2 1 (.slice (some ⟨w.heap.size + 1, 0, none⟩) 1 1) 1 (((pl S R zn).take 1).map (Value.int .i64))) := Lib.hid (by
    have h := World.ownsRow_lit (base := W0.heap.size) (e := 2) (size := 1) W0 #[.int .i64 0] 1 (Nat.le_refl _) (by unfold maxLen; omega) rfl
    rw [hs0] at h ⊢
    have e : ((pl S R zn).take 1).map (Value.int .i64) = [.int .i64 0] := by rw [take_snoc0 (by rw [HPL.out]; omega), pl_0]; rfl
    rw [e]; exact h)
  have HB0 : Hid (Below W0.heap.size W0 (W0.alloc (.cells #[.int .i64 0] 2))) := Lib.hid (allocB _ _)
  clear hW0
  go_loopw [5, 12] (fun u i wr => ∃ q : Nat, q ≤ m ∧ i = .int .i64 q ∧ wr.ownsRow W0.heap.size 2 1 u ((prevH S q).toNat + 1) (((pl S R zn).take ((prevH S q).toNat + 1)).map (Value.int .i64)) ∧ Below W0.heap.size W0 wr) (fun _ i _ => m - (intOf i).toNat)
  case atStart => exact ⟨0, Nat.zero_le _, rfl, HO0.out, HB0.out⟩
  case round =>
    obtain ⟨q, hq, rfl, hown, hnx⟩ := hrel
    have HB := Lib.hid hnx
    have HO := Lib.hid hown
    by_cases hlt : q < m
    · obtain ⟨g, rfl, hc⟩ := HS.out (by intro e; have := HM.out; rw [e] at this; simp at this; omega)
      have cx := hc.below (blink HC.out hnx) q (by have := HM.out; omega)
      have hok := HR.out q (by have := HM.out; omega)
      have hle := rise_le_last HR.out (i := q) (by have := HM.out; omega)
      rw [HL.out] at hle
      have HMID : Hid (∀ n : Int, prevH S q < n → n ≤ S.getD q 0 → stp S n = q) := Lib.hid (fun n h1 h2 => stp_mid HR.out (by have := HM.out; omega) h1 h2)
      have HPV : Hid (prevH S (q + 1) = S.getD q 0) := Lib.hid (by rw [prevH, if_neg (by omega), Nat.add_sub_cancel])
      obtain ⟨hpv0, hpv1⟩ := RiseT.prev (S := S) (k := q) (fun i hi => HR.out i (by have := HM.out; omega))
      unfold okS at hok
      obtain ⟨x, hx⟩ : ∃ x, S.getD q 0 = x := ⟨_, rfl⟩
      obtain ⟨p, hp⟩ : ∃ p, prevH S q = p := ⟨_, rfl⟩
      rw [hx] at cx hok hle HMID HPV
      rw [hp] at hok hpv0 hpv1 HMID HO
      obtain ⟨hok1, hok2, hok3⟩ := hok
      obtain ⟨xn, rfl⟩ : ∃ xn : Nat, x = xn := ⟨x.toNat, by omega⟩
      obtain ⟨pn, rfl⟩ : ∃ pn : Nat, p = pn := ⟨p.toNat, by omega⟩
      have HQ : Hid (wr.ownsRow W0.heap.size 2 1 u5 (pn + 1) (((pl S R zn).take (pn + 1)).map (Value.int .i64))) := Lib.hid (by have h := HO.out; rw [Int.toNat_natCast] at h; exact h)
      have hx1 : (xn : Int) ≤ 32767 := by omega
      have hx2 : -32768 ≤ (xn : Int) := by omega
      clear hc hown hnx hx hp HO
      go_wp2_with fail
      obtain ⟨wo, hwo⟩ : ∃ wo : World, wo = wr := ⟨_, rfl⟩
      rw [← hwo] at HQ HB ⊢
      clear hwo cx
      go_loopw [5] (fun u wj => ∃ q2 : Nat, pn + 1 ≤ q2 ∧ q2 ≤ xn + 1 ∧ wj.ownsRow W0.heap.size 2 1 u q2 (((pl S R zn).take q2).map (Value.int .i64)) ∧ Below W0.heap.size W0 wj) (fun u _ => match u with | .slice _ n _ => xn + 1 - n | _ => 0)
      case atStart => exact ⟨pn + 1, by omega, by omega, HQ.out, HB.out⟩
      case round =>
        obtain ⟨q2, hq2, hq3, hown, hnj⟩ := hrel
        have HBJ := Lib.hid hnj
        obtain ⟨gu, cu, rfl⟩ : ∃ gu cu, u5 = .slice (some ⟨gu, 0, none⟩) q2 cu := by
          rcases hown.2 with ⟨_, h0⟩ | ⟨gu, cu, cur, h1, _⟩
          · omega
          · exact ⟨gu, cu, h1⟩
        have hwj : W0.heap.size ≤ wr.heap.size := hnj.size
        by_cases hl2 : q2 ≤ xn
        · have t1 : decide ((q2 : Int) ≤ (xn : Int)) = true := by simp; omega
          obtain ⟨gb, c2', gr, cr, c1, d1, x1⟩ := (HAT.out.below hnj).price HV.out (z := zn) (by rw [HRR.out]; exact hzr) (q := q) (by rw [HM.out]; exact hlt)
          have hpb := prc_bound (z := zn) HV.out (inB_true (by have := HRR.out; omega)) (n := q2) (by rw [HMID.out q2 (by omega) (by omega), HM.out]; exact hlt)
          have HG : Hid ((pl S R zn).take (q2 + 1) = (pl S R zn).take q2 ++ [prc S R zn q2]) := Lib.hid (by
            rw [take_snoc0 (by rw [HPL.out]; omega), pl_get S R zn q2 (by rw [HL.out]; simp; omega) (by omega)])
          have hp : (R.getD zn []).getD q 0 = prc S R zn q2 := by unfold prc; rw [HMID.out q2 (by omega) (by omega)]; simp
          rw [hp] at x1
          rw [HRR.out] at c1
          rw [HM.out] at d1
          have HLT : Hid (((pl S R zn).take q2).length = q2) := Lib.hid (by rw [List.length_take, HPL.out]; omega)
          obtain ⟨pp, hpp⟩ : ∃ pp, prc S R zn q2 = pp := ⟨_, rfl⟩
          rw [hpp] at x1 hpb HG
          obtain ⟨pb1, pb2⟩ := hpb
          have hown0 := hown
          clear hnj hp hpp
          go_wp2_with (at_builtin; refine wpList_append_own _ rfl _ _ 35 rfl W0.heap.size 2 i0 (.int .i64 0) 1 8 Tryd.underlying35 hi hz0 hz1 hz2 rfl (by decide) _ _ _ rfl (hown0.alloc _) ⟨wr.heap.size, 0, none⟩ 1 1 [.int .i64 pp] rfl rfl ?c1 ?c2 ?c3 ?c4 ?c5 ?_)
          case c1 =>
            intro j u hj
            match j, hj with
            | 0, hj => simp at hj; subst hj; simp [Addr.add]
          case c2 => intro u hu; simp at hu; subst hu; rfl
          case c3 => unfold maxLen; omega
          case c4 => omega
          case c5 => simp; omega
          intro v' w3 hown' hgrow _
          have HO' : Hid (w3.ownsRow W0.heap.size 2 1 v' (q2 + 1) (((pl S R zn).take (q2 + 1)).map (Value.int .i64))) := Lib.hid (by
            rw [HG.out, List.map_append, hs0, List.map_take]; exact hown')
          have HB' : Hid (Below W0.heap.size W0 w3) := Lib.hid ((HBJ.out.alloc hwj _).grown hgrow (by simp; omega) (fun j hj => (hown0.lt j hj).1))
          have hv' : ∃ gv cv, v' = .slice (some ⟨gv, 0, none⟩) (q2 + 1) cv := by
            rcases hown'.2 with ⟨_, h0⟩ | ⟨gu, cu, cur, h1, _⟩
            · omega
            · exact ⟨gu, cu, h1⟩
          obtain ⟨gv, cv, rfl⟩ := hv'
          clear hown' hgrow hown hown0
          go_wp2_with fail
          go_roundw
          case rel => exact ⟨q2 + 1, by omega, by omega, HO'.out, HB'.out⟩
          case measure => simp; omega
        · have t1 : decide ((q2 : Int) ≤ (xn : Int)) = false := by simp; omega
          have HO2 : Hid (wr.ownsRow W0.heap.size 2 1 (.slice (some ⟨gu, 0, none⟩) q2 cu) ((prevH S (q + 1)).toNat + 1) (((pl S R zn).take ((prevH S (q + 1)).toNat + 1)).map (Value.int .i64))) := Lib.hid (by
            rw [HPV.out, Int.toNat_natCast, show xn + 1 = q2 by omega]; exact hown)
          clear hown hnj
          go_wp2_with fail
          go_roundw
          case rel => exact ⟨q + 1, by omega, by go_num, HO2.out, HBJ.out⟩
          case measure => simp [intOf]; omega
    · have hq' : q = m := by omega
      have HE : Hid (OwnI w.heap.size wr u5 (pl S R zn)) := Lib.hid (by
        have h := hown
        have e : prevH S q = L := by
          have := HL.out
          unfold lastS at this
          rw [prevH, if_neg (by omega), hq', ← HM.out]; exact this
        rw [e, Int.toNat_natCast, List.take_of_length_le (by rw [HPL.out]; omega)] at h
        exact OwnI.mono (B := W0.heap.size) (show OwnI W0.heap.size wr u5 (pl S R zn) from by unfold OwnI; rw [HPL.out]; exact h) (by rw [hs0]; exact Nat.le_succ _))
      clear hq' hown hnx HO
      go_wp2_with fail
      go_ret
      exact ⟨_, rfl, HE.out, blink HC.out HB.out⟩
set_option maxHeartbeats 4000000 in
set_option maxRecDepth 100000 in
theorem iDear_ok (v : Value) (S : List Int) (R : List (List Int)) (z : Int) (w : World) (hv : ReadsT w v S R) (k : TabOk S R) (a0 a1 a2 : Addr) (E : Errs3 w a0 a1 a2) :
    Calls Tryd.prog 25 #[v, .int .i64 z] w fun e w' => e = .returned (.tuple #[.int .i64 (fdX S R z), .int .i64 (fdA S R z), .int .i64 (fdK S R z)]) ∧ Below w.heap.size w w' := by
  obtain ⟨v1, v2, rfl, ⟨a, cap, rfl, ha⟩, ⟨b, c2, rfl, hb⟩⟩ := hv
  have H0 : Hid (ReadsT w (.agg #[.slice a S.length cap, .slice b R.length c2]) S R) := Lib.hid ⟨_, _, rfl, ⟨a, cap, rfl, ha⟩, ⟨b, c2, rfl, hb⟩⟩
  have K := Lib.hid k
  have HE := Lib.hid E
  clear ha hb k E
  go_enter Tryd.func25, Tryd.ntmps25
  go_wp2_with fail
  refine (check_any _ _ S R z [] a0 a1 a2 _ (H0.out.below (allocB _ _)) ⟨none, 0, rfl, fun h => absurd rfl h⟩ K.out (by simp) (HE.out.below (allocB _ _))).mono ?_
  rintro e w2 ⟨rfl, b2⟩
  have q := (Blk2.new (w := w) rfl _ _ _).below b2
  have g0 := q.at0
  have g1 := q.at1
  have C := Lib.hid (blink (allocB w _) b2)
  clear q b2
  by_cases hc : chk S R z [] = 0
  · rw [hc, errOf_0]
    obtain ⟨hc1, hc2, hc3, hc4⟩ := chk_spec hc
    have hlb := lastS_bound (vldT_spec hc1).1
    obtain ⟨L, hL⟩ : ∃ L : Nat, lastS S = L := ⟨(lastS S).toNat, by omega⟩
    have HPL : Hid ((pl S R z).length = L + 1) := Lib.hid (by rw [pl_len, hL]; simp)
    have hl2 : L ≤ 2000 := by omega
    have HC := Lib.hid hc
    have HV := Lib.hid hc1
    have HZ := Lib.hid hc2
    clear hc hc1 hc2 hc3 hc4 hlb hL
    go_wp2_with fail
    refine (byWeight_any _ S R z _ (H0.out.below C.out) K.out HV.out HZ.out).mono ?_
    rintro e w3 ⟨u, rfl, o3, b3⟩
    have C3 := Lib.hid (blink C.out b3)
    rcases o3.cases with ⟨_, h0⟩ | ⟨g, cu, rfl, hg1, hg2, hcu, _, hcells, _⟩
    · exact absurd h0 (fun h => by have := HPL.out; rw [h] at this; simp at this)
    have HW2 : Hid (∀ (W : World), Below w3.heap.size w3 W → ∀ j, j < L + 1 → W.cell? ⟨g, j, none⟩ = some (.int .i64 ((pl S R z).getD j 0))) := Lib.hid (fun W hW j hj => cbelow hW (hcells j (by rw [HPL.out]; exact hj)))
    rw [HPL.out]
    clear o3 b3 hcells hcu hg1 hg2
    go_wp2_with fail
    go_loopw [24] (fun i wi => ∃ ww : Nat, ww ≤ L + 1 ∧ i = .int .i64 ww ∧ fair (pl S R z) ww ∧ Below w3.heap.size w3 wi) (fun i _ => L + 1 - (intOf i).toNat)
    case atStart => exact ⟨0, by omega, rfl, fair.low _ 0 (by omega), Below.refl _ _⟩
    case round =>
      obtain ⟨ww, hw, rfl, hfair, hni⟩ := hrel
      have HF := Lib.hid hfair
      have HBI := Lib.hid hni
      by_cases hlw : ww < L + 1
      · have t1 : decide ((ww : Int) < (L : Int) + 1) = true := by simp; omega
        have t1n : decide (ww < L + 1) = true := by simp; omega
        have x3 := HW2.out _ hni ww hlw
        obtain ⟨a3', ha3⟩ : ∃ x, (pl S R z).getD ww 0 = x := ⟨_, rfl⟩
        rw [ha3] at x3
        have HA3 := Lib.hid ha3
        clear hfair hni ha3
        go_wp2_with fail
        clear x3
        obtain ⟨wi0, hwi0⟩ : ∃ wi0 : World, wi0 = wr := ⟨_, rfl⟩
        rw [← hwi0] at HBI ⊢
        clear hwi0
        go_loopw [11] (fun i wj => ∃ j : Nat, 1 ≤ j ∧ j ≤ ww + 1 ∧ i = .int .i64 j ∧ fairAt (pl S R z) ww j ∧ Below w3.heap.size w3 wj) (fun i _ => ww + 1 - (intOf i).toNat)
        case atStart => exact ⟨1, by omega, by omega, rfl, fairAt.one _ _, HBI.out⟩
        case round =>
          obtain ⟨j, hj1, hj, rfl, hfa, hnj⟩ := hrel
          have HFA := Lib.hid hfa
          have HBJ := Lib.hid hnj
          by_cases h2j : 2 * j ≤ ww
          · have t2 : decide ((j : Int) ≤ (ww : Int) / 2) = true := by simp; omega
            have t2n : decide (j ≤ ww / 2) = true := by simp; omega
            have x1 := HW2.out _ hnj j (by omega)
            have x2 := HW2.out _ hnj (ww - j) (by omega)
            obtain ⟨p1, p2⟩ := pl_bound (z := z) HV.out HZ.out j
            obtain ⟨p3, p4⟩ := pl_bound (z := z) HV.out HZ.out (ww - j)
            have HD : Hid (dear (pl S R z) ww j ↔ (pl S R z).getD j 0 + (pl S R z).getD (ww - j) 0 < (pl S R z).getD ww 0) := Lib.hid ⟨fun h => h.2.2.2, fun h => ⟨hj1, h2j, by rw [HPL.out]; omega, h⟩⟩
            obtain ⟨a1', ha1⟩ : ∃ x, (pl S R z).getD j 0 = x := ⟨_, rfl⟩
            obtain ⟨a2', ha2⟩ : ∃ x, (pl S R z).getD (ww - j) 0 = x := ⟨_, rfl⟩
            rw [ha1] at x1 p1 p2 HD
            rw [ha2] at x2 p3 p4 HD
            rw [HA3.out] at HD
            have nu1 : ((ww : Int) - (j : Int)).toNat = ww - j := by omega
            have nu2 : (ww : Int) - (j : Int) < (L : Int) + 1 := by omega
            have nu3 : 0 ≤ (ww : Int) - (j : Int) := by omega
            have nu4 : (j : Int) < (L : Int) + 1 := by omega
            clear hfa hnj ha1 ha2
            by_cases hd : a1' + a2' < a3'
            · have t3 : decide (a1' + a2' < a3') = true := by simp; omega
              have HFD := Lib.hid (fd_found HC.out (first_of HF.out HFA.out (HD.out.2 hd)))
              go_wp2_with fail
              go_quiet (fail)
              go_wp2_with fail
              go_ret3
              exact ⟨ret_eq (by rw [HFD.out.1, HFD.out.2.1, HFD.out.2.2]; rfl), blink C3.out (below_drewN HBJ.out _)⟩
            · have t3 : decide (a1' + a2' < a3') = false := by simp; omega
              have HFA2 := Lib.hid (HFA.out.succ (fun h => hd (HD.out.1 h)))
              go_wp2_with fail
              go_quiet (fail)
              go_wp2_with fail
              go_roundw
              case rel => exact ⟨j + 1, by omega, by omega, by go_num, HFA2.out, below_drewN HBJ.out _⟩
              case measure => simp [intOf]; omega
          · have t2 : decide ((j : Int) ≤ (ww : Int) / 2) = false := by simp; omega
            have t2n : decide (j ≤ ww / 2) = false := by simp; omega
            have HF2 := Lib.hid (HF.out.succ hfa (by omega))
            clear hfa hnj
            go_wp2_with fail
            go_roundw
            case rel => exact ⟨ww + 1, by omega, by go_num, HF2.out, HBJ.out⟩
            case measure => simp [intOf]; omega
      · have hw' : ww = L + 1 := by omega
        have HN := Lib.hid (fd_none HC.out (fair.all (P := pl S R z) (by rw [HPL.out, ← hw']; exact hfair)))
        clear hfair hni hw'
        go_wp2_with fail
        go_ret3
        exact ⟨ret_eq (by rw [HN.out.1, HN.out.2.1, HN.out.2.2]; rfl), blink C3.out HBI.out⟩
  · rw [errOf_ptr hc]
    have HF := Lib.hid (fd_c hc)
    have HK : Hid (chk S R z [] = 1 ∨ chk S R z [] = 2 ∨ chk S R z [] = 3) := Lib.hid (by rcases chk_cases S R z [] with h | h | h | h; exact absurd h hc; exact .inl h; exact .inr (.inl h); exact .inr (.inr h))
    clear hc
    go_wp2_with fail
    refine (code_of a0 a1 a2 _ HK.out _ (HE.out.below C.out)).mono ?_
    rintro e w4 ⟨rfl, rfl⟩
    go_wp2_with fail
    go_ret3
    exact ⟨ret_eq (by rw [HF.out.1, HF.out.2.1, HF.out.2.2]; rfl), C.out⟩
end Go.Proofs.YtgibmhafkhmcdaaDoor
