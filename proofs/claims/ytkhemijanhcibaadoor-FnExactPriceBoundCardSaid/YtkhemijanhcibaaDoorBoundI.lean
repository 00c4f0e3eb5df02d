/-
  The implementation's PriceBound.
-/
import Derived.Test.YtkhemijanhcibaaDoorBoundP
import Derived.Test.YtkhemijanhcibaaDoorLoadsI
import Derived.Test.YtkhemijanhcibaaDoorJoin
import Derived.IntWalk
namespace Go.Proofs.YtkhemijanhcibaaDoor
open Go Go.RowKit
set_option linter.unusedVariables false

/-- No row that the slice of slices holds is longer than its room. -/
def CapsM (w : World) (v : Value) (R : List (List Int)) : Prop := ∀ b len cap, v = .slice (some ⟨b, 0, none⟩) len cap → ∀ j, j < R.length → ∃ a n c, w.cell? ⟨b, j, none⟩ = some (.slice a n c) ∧ n ≤ c
theorem CapsM.below {w w' : World} {v : Value} {R : List (List Int)} (h : CapsM w v R) (hb : Below w.heap.size w w') : CapsM w' v R := fun b len cap e j hj => by
  obtain ⟨a, n, c, h1, h2⟩ := h b len cap e j hj
  exact ⟨a, n, c, cbelow hb h1, h2⟩
theorem OwnM.caps {B : Nat} {w : World} {v : Value} {R : List (List Int)} (h : OwnM B w v R) : CapsM w v R := by
  obtain ⟨us, B2, hB, h1, h2, h3⟩ := h
  have hus : us.length = R.length := by simpa using h1.1
  rcases h1.2 with ⟨rfl, h0⟩ | ⟨g, cap, cur, rfl, hb, hg, hn, hm, _, _⟩
  · intro b len cap e; cases e
  · intro b len c e j hj
    cases e
    have hc : w.cell? ⟨g, j, none⟩ = some (us.getD j nilS) := by
      rw [World.ownsRow.cellAt h1 j (by omega)]
      simp [List.getD, show j < us.length by omega]
    rcases (h2.1 j hj).cases with ⟨hv, _⟩ | ⟨g', cap', hv, _, _, hle, _⟩
    · exact ⟨none, 0, 0, by rw [hc, hv], by omega⟩
    · exact ⟨_, _, cap', by rw [hc, hv], hle⟩
def CapsT (w : World) (v : Value) (R : List (List Int)) : Prop := ∀ u1 u2, v = .agg #[u1, u2] → CapsM w u2 R
theorem CapsT.below {w w' : World} {v : Value} {R : List (List Int)} (h : CapsT w v R) (hb : Below w.heap.size w w') : CapsT w' v R := fun u1 u2 e => (h u1 u2 e).below hb
theorem OwnT.caps {B : Nat} {w : World} {v : Value} {S : List Int} {R : List (List Int)} (h : OwnT B w v S R) : CapsT w v R := by
  obtain ⟨u1, u2, B2, rfl, h1, h2, h3, h4⟩ := h
  intro x1 x2 e
  cases e
  exact h2.caps

set_option maxHeartbeats 2000000 in
set_option maxRecDepth 100000 in
theorem min16_any (g f n cap : Nat) (L : List Int) (w : World) (h1 : 1 ≤ n) (hn : n ≤ 10) (hc : ∀ i, i < n → w.cell? ⟨g, f + i, none⟩ = some (.int .i16 (L.getD (f + i) 0))) :
    Calls Tryd.prog 60 #[.slice (some ⟨g, f, none⟩) n cap] w fun e w' => e = .returned (.int .i16 (mn L f n)) ∧ w = w' := by
  have HC := Lib.hid hc
  have c0 := hc 0 (by omega)
  rw [Nat.add_zero] at c0
  have HM0 := Lib.hid (mn_one L f)
  obtain ⟨x0, hx0⟩ : ∃ x, L.getD f 0 = x := ⟨_, rfl⟩
  rw [hx0] at c0 HM0
  have t0 : decide ((n : Int) < 1) = false := by simp; omega
  have hn0 : (0 : Int) < (n : Int) := by omega
  have hn0' : 0 < n := by omega
  clear hc hx0
  go_enter Tryd.func60, Tryd.ntmps60
  go_wp2_with fail
  clear c0
  go_loop [3, 4] (fun s i => ∃ k : Nat, 1 ≤ k ∧ k ≤ n ∧ i = .int .i64 k ∧ s = .int .i16 (mn L f k)) (fun _ i => n - (intOf i).toNat)
  case atStart => exact ⟨1, by omega, by omega, rfl, by rw [HM0.out]⟩
  case round =>
    obtain ⟨k, hk1, hk, rfl, rfl⟩ := hrel
    by_cases hlt : k < n
    · have cx := HC.out k hlt
      have HSN := Lib.hid (mn_succ L f k)
      obtain ⟨x, hx⟩ : ∃ x, L.getD (f + k) 0 = x := ⟨_, rfl⟩
      obtain ⟨mm, hmm⟩ : ∃ mm, mn L f k = mm := ⟨_, rfl⟩
      rw [hx] at cx HSN
      rw [hmm] at HSN ⊢
      clear hx hmm
      by_cases hc1 : x < mm
      · have hc2 : ¬ mm < x := by omega
        have HT : Hid (mn L f (k + 1) = x) := Lib.hid (by have := HSN.out; omega)
        go_wp2_with fail
        go_round
        case rel => exact ⟨k + 1, by omega, by omega, by go_num, by rw [HT.out]⟩
        case measure => simp [intOf]; omega
      · have HT : Hid (mn L f (k + 1) = mm) := Lib.hid (by have := HSN.out; omega)
        by_cases hc2 : mm < x
        · go_wp2_with fail
          go_round
          case rel => exact ⟨k + 1, by omega, by omega, by go_num, by rw [HT.out]⟩
          case measure => simp [intOf]; omega
        · obtain rfl : x = mm := by omega
          go_wp2_with fail
          go_round
          case rel => exact ⟨k + 1, by omega, by omega, by go_num, by rw [HT.out]⟩
          case measure => simp [intOf]; omega
    · have hk' : k = n := by omega
      rw [hk']
      have HK := Lib.hid hk'
      clear hk'
      go_wp2_with fail
      go_ret
      exact ⟨rfl, rfl⟩

theorem div_wrap {sm L fw : Int} (h1 : 0 ≤ sm) (h2 : sm ≤ 16000) (h3 : 1 ≤ L) (h4 : L ≤ 2000) (e : fw = (sm + L - 1) / L) (f1 : 0 ≤ fw) (f2 : fw ≤ 18000) : IntKind.i64.wrap ((IntKind.i64.wrap (IntKind.i64.wrap (sm + L) - 1)).tdiv L) = fw := by
  rw [IntWalk.i64_in (sm + L) ⟨by omega, by omega⟩, IntWalk.i64_in (sm + L - 1) ⟨by omega, by omega⟩, Int.tdiv_eq_ediv_of_nonneg (by omega), ← e, IntWalk.i64_in _ ⟨by omega, by omega⟩]
set_option maxHeartbeats 4000000 in
set_option maxRecDepth 100000 in
theorem iBound_ok (v u : Value) (S : List Int) (R : List (List Int)) (z : Int) (ws : List Int) (w : World) (hv : ReadsT w v S R) (hu : ReadsI w u ws) (k : TabOk S R) (hws : ws.length ≤ 1048576) (a0 a1 a2 a3 : Addr) (E : Errs4 w a0 a1 a2 a3) (hcp : CapsT w v R) :
    Calls Tryd.prog 31 #[v, .int .i64 z, u] w fun e w' => e = .returned (.tuple #[.int .i64 (pbX S R z ws), .int .i64 (alone S R z ws)]) ∧ Below w.heap.size w w' := by
  obtain ⟨v1, v2, rfl, ⟨a, cap, rfl, ha⟩, ⟨b, c2, rfl, hb⟩⟩ := hv
  have H0 : Hid (ReadsT w (.agg #[.slice a S.length cap, .slice b R.length c2]) S R) := Lib.hid ⟨_, _, rfl, ⟨a, cap, rfl, ha⟩, ⟨b, c2, rfl, hb⟩⟩
  have HCP : Hid (CapsM w (.slice b R.length c2) R) := Lib.hid (hcp _ _ rfl)
  have HAT : Hid (AtT (w.alloc (.cells #[.slice a S.length cap, .slice b R.length c2] 29)) w.heap.size S R) := Lib.hid (AtT.box ⟨a, cap, rfl, ha⟩ ⟨b, c2, rfl, hb⟩)
  obtain ⟨ua, uc, rfl, hua⟩ := hu
  have HU : Hid (ReadsI w (.slice ua ws.length uc) ws) := Lib.hid ⟨ua, uc, rfl, hua⟩
  have HA := Lib.hid hua
  have K := Lib.hid k
  have HE := Lib.hid E
  have HW := Lib.hid hws
  obtain ⟨n, hn'⟩ : ∃ n, ws.length = n := ⟨_, rfl⟩
  have hnb : n ≤ 1048576 := by omega
  rw [hn'] at HU ⊢
  have HN := Lib.hid hn'
  clear ha hb hua k E hws hcp hn'
  go_enter Tryd.func31, Tryd.ntmps31
  go_wp2_with fail
  refine (check_any _ _ S R z ws a0 a1 a2 _ (H0.out.below (allocB _ _)) (HU.out.below (allocB _ _)) K.out HW.out (HE.out.e3.below (allocB _ _))).mono ?_
  rintro e w2 ⟨rfl, b2⟩
  have q := (Blk2.new (w := w) rfl _ _ _).below b2
  have g0 := q.at0
  have g1 := q.at1
  have HAT2 := Lib.hid (HAT.out.below b2)
  have C := Lib.hid (blink (allocB w _) b2)
  clear q b2 HAT
  by_cases hc : chk S R z ws = 0
  · rw [hc, errOf_0]
    obtain ⟨hc1, hc2, hc3, hc4⟩ := chk_spec hc
    have hzb := inB_spec hc2
    obtain ⟨zn, rfl⟩ : ∃ zn : Nat, z = zn := ⟨z.toNat, by omega⟩
    have HC := Lib.hid hc
    have HV := Lib.hid hc1
    have HZ := Lib.hid hc2
    have HB3 := Lib.hid hc3
    have HN8 := Lib.hid hc4
    obtain ⟨f1, f2⟩ := few_bound (vldT_spec hc1).1 hc4 hc3
    obtain ⟨s1, s2⟩ := sum_bd hc4 hc3
    obtain ⟨l1, l2⟩ := lo_bound (z := zn) hc1 hc2
    obtain ⟨m1, m2⟩ := lastS_bound (vldT_spec hc1).1
    have hn8 : n ≤ 8 := by have := HN.out; omega
    have hzr : zn < R.length := by omega
    have hzr2 : (zn : Int) < (R.length : Int) := by omega
    have hrl : R.length ≤ 6 := (vldT_spec hc1).2.2.1
    obtain ⟨g, cap', gb, c2', gr, cr, c0, c1, hcs, d0, hq0⟩ := HAT2.out.row hc1 hzr
    rw [g1] at c1
    injection c1 with c1
    injection c1 with e1 e2 e3
    subst e1
    subst e3
    obtain ⟨xa, xn, xc, d1, hcap⟩ := (HCP.out.below C.out) gb _ _ rfl zn hzr
    have hcr : S.length ≤ cr := by
      rw [d0] at d1
      injection d1 with d1
      injection d1 with e4 e5 e6
      omega
    have HQ : Hid (∀ q, q < S.length → w2.cell? ⟨gr, q, none⟩ = some (.int .i16 ((rowZ R zn).getD q 0))) := Lib.hid hq0
    obtain ⟨sg1, sg2, sg3⟩ := vldS_spec (vldT_spec hc1).1
    have HS1 := Lib.hid sg1
    have HLO : Hid (mn (rowZ R zn) 0 S.length = lo S R zn) := Lib.hid rfl
    have HFW : Hid (few S ws = (sumL ws + lastS S - 1) / lastS S) := Lib.hid rfl
    have HPV : Hid (pbV S R zn ws = max (bst S R zn ws ws.length) (few S ws * lo S R zn)) := Lib.hid rfl
    obtain ⟨p1, p2⟩ := prod_bound f1 f2 l1 l2
    obtain ⟨sm, hsm⟩ : ∃ sm, sumL ws = sm := ⟨_, rfl⟩
    have HSM := Lib.hid hsm
    obtain ⟨L, hL⟩ : ∃ L, lastS S = L := ⟨_, rfl⟩
    have HL := Lib.hid hL
    obtain ⟨lw, hlw⟩ : ∃ lw, lo S R zn = lw := ⟨_, rfl⟩
    obtain ⟨fw, hfw⟩ : ∃ fw, few S ws = fw := ⟨_, rfl⟩
    rw [hsm] at s1 s2 HFW
    rw [hL] at m1 m2 HFW
    rw [hlw] at l1 l2 p1 p2 HLO HPV
    rw [hfw] at f1 f2 p1 p2 HFW HPV
    have hdiv := HFW.out.symm
    have hL0 : L ≠ 0 := by omega
    clear hc hc1 hc2 hc3 hc4 hcs hq0 sg3 hzb hsm hL hlw hfw d1 c0 e2 HAT2
    go_wp2_with fail
    have SD : w2.drew.cell? ⟨w.heap.size, 0, none⟩ = some (.slice a S.length cap) ∧ w2.drew.cell? ⟨w.heap.size, 1, none⟩ = some (.slice (some ⟨gb, 0, none⟩) R.length c2) ∧ Hid (Below w2.heap.size w2 w2.drew) := ⟨g0, g1, Lib.hid (Below.refl _ _).drew⟩
    go_region_held3 (fun v => v.cell? ⟨w.heap.size, 0, none⟩ = some (.slice a S.length cap) ∧ v.cell? ⟨w.heap.size, 1, none⟩ = some (.slice (some ⟨gb, 0, none⟩) R.length c2) ∧ Hid (Below w2.heap.size w2 v)) (first | exact SD | exact keepT1 (by assumption) (by assumption) | go_keep) (first | (go_at_call 52; refine (isum_any _ ws _ (HU.out.below (blink C.out (kb1 (by assumption)))) HN8.out HB3.out).mono ?_; rintro e zq ⟨rfl, rfl⟩; rw [HSM.out]) | (go_at_call 57; refine (last_any _ S R _ (H0.out.below (blink C.out (kb1 (by assumption)))) K.out HS1.out).mono ?_; rintro e zz ⟨rfl, b1⟩; rw [HL.out]))
    have hS : zz.cell? ⟨w.heap.size, 0, none⟩ = some (.slice a S.length cap) ∧ zz.cell? ⟨w.heap.size, 1, none⟩ = some (.slice (some ⟨gb, 0, none⟩) R.length c2) ∧ Hid (Below w2.heap.size w2 zz) := by assumption
    have HWR := Lib.hid (div_wrap s1 s2 m1 m2 HFW.out f1 f2)
    rw [HWR.out]
    obtain ⟨w3, hw3⟩ : ∃ v : World, v = zz := ⟨_, rfl⟩
    rw [← hw3] at hS ⊢
    clear hw3
    have g0 := hS.1
    have g1 := hS.2.1
    have C3 := Lib.hid (blink C.out (kb1 hS))
    have HQ3 : Hid (∀ q, q < S.length → w3.cell? ⟨gr, q, none⟩ = some (.int .i16 ((rowZ R zn).getD q 0))) := Lib.hid (fun q hq => cbelow (kb1 hS) (HQ.out q hq))
    have HRB := Lib.hid (rowZ_betw HV.out HZ.out).2
    obtain ⟨pr, hpr⟩ : ∃ p, fw * lw = p := ⟨_, rfl⟩
    have HPR := Lib.hid hpr
    rw [hpr] at p1 p2 HPV
    have hfl : fw * lw ≤ 180000000 := by omega
    have hfl0 : 0 ≤ fw * lw := by omega
    clear hS SD d0 hpr HWR hdiv
    go_wp2_with fail
    refine (min16_any gr 0 S.length cr (rowZ R zn) _ sg1 sg2 (by intro i hi; rw [Nat.zero_add]; exact HQ3.out i hi)).mono ?_
    rintro e w4 ⟨rfl, rfl⟩
    rw [HLO.out]
    go_wp2_with fail
    rw [HPR.out]
    clear hfl hfl0
    obtain ⟨m, hm⟩ : ∃ m, S.length = m := ⟨_, rfl⟩
    obtain ⟨r, hr⟩ : ∃ r, R.length = r := ⟨_, rfl⟩
    have HM := Lib.hid hm
    have HR := Lib.hid hr
    rw [hm, hr] at H0
    rw [hm] at g0 sg1 sg2 hcr
    rw [hr] at g1 hzr hzr2 hrl
    simp only [hm, hr]
    clear hm hr
    go_loopw [11, 45] (fun b i wr => ∃ q : Nat, q ≤ n ∧ i = .int .i64 q ∧ b = .int .i64 (max pr (bst S R zn ws q)) ∧ allS S ws q ∧ Below w3.heap.size w3 wr) (fun _ i _ => n - (intOf i).toNat)
    case atStart => exact ⟨0, Nat.zero_le _, rfl, ret_val (by rw [bst_zero]; omega), allS.zero S ws, Below.refl _ _⟩
    case round =>
      obtain ⟨q, hq, rfl, rfl, hal, hnx⟩ := hrel
      have HB := Lib.hid hnx
      have HAL := Lib.hid hal
      by_cases hlt : q < n
      · obtain ⟨gi, rfl, hci⟩ := HA.out (by intro e; have := HN.out; rw [e] at this; simp at this; omega)
        have cx := hci.below (blink C3.out hnx) q (by have := HN.out; omega)
        have k0 := cbelow hnx g0
        have k1 := cbelow hnx g1
        have HST : Hid (stp S (ws.getD q 0) < S.length → allS S ws (q + 1)) := Lib.hid HAL.out.succ
        have HBAD : Hid (¬ stp S (ws.getD q 0) < S.length → allB S ws = false) := Lib.hid (allB_bad (by have := HN.out; omega))
        have HSN : Hid (bst S R zn ws (q + 1) = max (bst S R zn ws q) (mq S R zn (ws.getD q 0))) := Lib.hid (bst_succ _ _ _ _ _)
        have hbb := bst_bound HV.out HZ.out HAL.out
        obtain ⟨x, hx⟩ : ∃ x, ws.getD q 0 = x := ⟨_, rfl⟩
        rw [hx] at cx HST HBAD HSN
        obtain ⟨b, hb⟩ : ∃ b, bst S R zn ws q = b := ⟨_, rfl⟩
        rw [hb] at HSN hbb ⊢
        obtain ⟨hbb1, hbb2⟩ := hbb
        obtain ⟨cc, hcc⟩ : ∃ c, max pr b = c := ⟨_, rfl⟩
        have HCC := Lib.hid hcc
        have hc1 : 0 ≤ cc := by omega
        have hc2 : cc ≤ 180010000 := by omega
        rw [hcc]
        clear hci hx hal hnx hb hcc
        by_cases hs : stp S x < S.length
        · have HS := Lib.hid hs
          have hmqb := mq_bound HV.out HZ.out HS.out
          have HMQ : Hid (mq S R zn x = mn (rowZ R zn) (stp S x) (m - stp S x)) := Lib.hid (by rw [← HM.out]; rfl)
          have HSTV := Lib.hid (stepV_yes a3 hs)
          obtain ⟨s, hs'⟩ : ∃ s, stp S x = s := ⟨_, rfl⟩
          rw [hs'] at hs HMQ HSTV
          rw [HM.out] at hs
          obtain ⟨mv, hmv⟩ : ∃ v, mq S R zn x = v := ⟨_, rfl⟩
          rw [hmv] at hmqb HMQ HSN
          obtain ⟨hmb1, hmb2⟩ := hmqb
          have hscr : s < cr := by omega
          have hsm : (s : Int) ≤ (m : Int) := by omega
          have hs0 : 0 ≤ (s : Int) := by omega
          have hsm2 : s ≤ m := by omega
          clear hs' hmv
          go_wp2_with fail
          refine (istep_any _ S R x _ (by have h := H0.out.below (blink C3.out HB.out); exact h) K.out a3 (HE.out.below (blink C3.out HB.out)).g3).mono ?_
          rintro e w5 ⟨rfl, b5⟩
          rw [HSTV.out]
          have HB5 := Lib.hid (blink HB.out b5)
          clear b5
          go_wp2_with fail
          refine (min16_any gr s (m - s) (cr - s) (rowZ R zn) _ (by omega) (by omega) (by intro i hi; exact cbelow HB5.out (HQ3.out (s + i) (by have := HM.out; omega)))).mono ?_
          rintro e w6 ⟨rfl, rfl⟩
          rw [← HMQ.out]
          go_wp2_with fail
          go_roundw
          case rel => exact ⟨q + 1, by omega, by go_num, ret_val (by have := HSN.out; have := HCC.out; omega), HST.out HS.out, HB5.out⟩
          case measure => simp [intOf]; omega
        · have HS := Lib.hid hs
          have HA6 : Hid (alone S R zn ws = 6) := Lib.hid (alone_6 HC.out (HBAD.out hs))
          have HSTV := Lib.hid (stepV_no a3 hs)
          clear hs
          go_wp2_with fail
          refine (istep_any _ S R x _ (by have h := H0.out.below (blink C3.out HB.out); exact h) K.out a3 (HE.out.below (blink C3.out HB.out)).g3).mono ?_
          rintro e w5 ⟨rfl, b5⟩
          rw [HSTV.out]
          have HB5 := Lib.hid (blink HB.out b5)
          clear b5
          go_wp2_with fail
          refine (code_4 a0 a1 a2 a3 _ (HE.out.below (blink C3.out HB5.out))).mono ?_
          rintro e w6 ⟨rfl, rfl⟩
          go_wp2_with fail
          go_ret2
          exact ⟨ret_eq (by rw [pbX_c (by rw [HA6.out]; decide), HA6.out]; rfl), blink C3.out HB5.out⟩
      · have hq' : q = n := by omega
        have HA0 : Hid (alone S R zn ws = 0) := Lib.hid (alone_0 HC.out (allB_true (by rw [HN.out, ← hq']; exact hal)))
        have HV2 : Hid (max pr (bst S R zn ws q) = pbX S R zn ws) := Lib.hid (by rw [pbX_0 HA0.out, HPV.out, HN.out, ← hq']; omega)
        rw [HV2.out]
        clear hq' hal hnx
        go_wp2_with fail
        go_ret2
        exact ⟨ret_eq (by rw [HA0.out]; rfl), blink C3.out HB.out⟩
  · rw [errOf_ptr hc]
    have HK : Hid (chk S R z ws = 1 ∨ chk S R z ws = 2 ∨ chk S R z ws = 3) := Lib.hid (by rcases chk_cases S R z ws with h | h | h | h; exact absurd h hc; exact .inl h; exact .inr (.inl h); exact .inr (.inr h))
    have HAC := Lib.hid (alone_c hc)
    have HC := Lib.hid hc
    clear hc
    go_wp2_with fail
    refine (code_of a0 a1 a2 _ HK.out _ (HE.out.e3.below C.out)).mono ?_
    rintro e w4 ⟨rfl, rfl⟩
    go_wp2_with fail
    go_ret2
    exact ⟨ret_eq (by rw [pbX_c (by rw [HAC.out]; exact HC.out), HAC.out]; rfl), C.out⟩
end Go.Proofs.YtkhemijanhcibaaDoor
