/-
  The model's PriceBound.
-/
import Derived.Test.YtkhemijanhcibaaDoorBoundP
namespace Go.Proofs.YtkhemijanhcibaaDoor
open Go Go.RowKit
set_option linter.unusedVariables false

theorem smin_any (a b : Int) (w : World) : Calls Tryd.prog 58 #[.int .i64 a, .int .i64 b] w fun e w' => e = .returned (.int .i64 (min a b)) ∧ w = w' := by
  by_cases h : a < b
  · have t : min a b = a := by omega
    have HT := Lib.hid t
    clear t
    go_enter Tryd.func58, Tryd.ntmps58
    go_wp2_with fail
    go_ret
    exact ⟨ret_int HT.out.symm, rfl⟩
  · have t : min a b = b := by omega
    have HT := Lib.hid t
    clear t
    go_enter Tryd.func58, Tryd.ntmps58
    go_wp2_with fail
    go_ret
    exact ⟨ret_int HT.out.symm, rfl⟩
theorem smax_any (a b : Int) (w : World) : Calls Tryd.prog 59 #[.int .i64 a, .int .i64 b] w fun e w' => e = .returned (.int .i64 (max a b)) ∧ w = w' := by
  by_cases h : b < a
  · have t : max a b = a := by omega
    have HT := Lib.hid t
    clear t
    go_enter Tryd.func59, Tryd.ntmps59
    go_wp2_with fail
    go_ret
    exact ⟨ret_int HT.out.symm, rfl⟩
  · have t : max a b = b := by omega
    have HT := Lib.hid t
    clear t
    go_enter Tryd.func59, Tryd.ntmps59
    go_wp2_with fail
    go_ret
    exact ⟨ret_int HT.out.symm, rfl⟩

set_option maxHeartbeats 2000000 in
set_option maxRecDepth 100000 in
theorem sBound_ok (v u : Value) (S : List Int) (R : List (List Int)) (z : Int) (ws : List Int) (w : World) (hv : ReadsT w v S R) (hu : ReadsI w u ws) (k : TabOk S R) (hws : ws.length ≤ 1048576) :
    Calls Tryd.prog 30 #[v, .int .i64 z, u] w fun e w' => e = .returned (.tuple #[.int .i64 (pbX S R z ws), .int .i64 (alone S R z ws)]) ∧ Below w.heap.size w w' := by
  obtain ⟨v1, v2, rfl, h1, h2⟩ := hv
  have H := Lib.hid (AtT.box (T := 29) h1 h2)
  obtain ⟨ua, uc, rfl, hua⟩ := hu
  have HU : Hid (ReadsI w (.slice ua ws.length uc) ws) := Lib.hid ⟨ua, uc, rfl, hua⟩
  have HA := Lib.hid hua
  have HW := Lib.hid hws
  have K := Lib.hid k
  obtain ⟨n, hn'⟩ : ∃ n, ws.length = n := ⟨_, rfl⟩
  rw [hn'] at HU ⊢
  have HN := Lib.hid hn'
  clear h1 h2 k hws hua hn'
  go_enter Tryd.func30, Tryd.ntmps30
  go_wp2_with fail
  refine (salone_any w.heap.size _ S R z ws _ H.out (HU.out.below (allocB _ _)) K.out HW.out).mono ?_
  rintro e w2 ⟨rfl, b2⟩
  have C := Lib.hid (blink (allocB w _) b2)
  have H2 := Lib.hid (H.out.below b2)
  clear b2
  by_cases hal : alone S R z ws = 0
  · obtain ⟨hc, hab⟩ := alone_spec hal
    obtain ⟨hc1, hc2, hc3, hc4⟩ := chk_spec hc
    have hzb := inB_spec hc2
    obtain ⟨zn, rfl⟩ : ∃ zn : Nat, z = zn := ⟨z.toNat, by omega⟩
    have HV := Lib.hid hc1
    have HZ := Lib.hid hc2
    have HALL := Lib.hid (allB_spec hab)
    have HX := Lib.hid (pbX_0 hal)
    obtain ⟨f1, f2⟩ := few_bound (vldT_spec hc1).1 hc4 hc3
    obtain ⟨s1, s2⟩ := sum_bd hc4 hc3
    obtain ⟨l1, l2⟩ := lo_bound (z := zn) hc1 hc2
    obtain ⟨m1, m2⟩ := lastS_bound (vldT_spec hc1).1
    have hn8 : n ≤ 8 := by have := HN.out; omega
    have hzr : zn < R.length := by omega
    obtain ⟨g, cap, gb, c2, gr, cr, c0, c1, hcs, d0, hq0⟩ := H2.out.row hc1 hzr
    have HQ : Hid (∀ q, q < S.length → w2.cell? ⟨gr, q, none⟩ = some (.int .i16 ((rowZ R zn).getD q 0))) := Lib.hid hq0
    have HRB := Lib.hid (rowZ_betw hc1 hc2).2
    obtain ⟨sg1, sg2, sg3⟩ := vldS_spec (vldT_spec hc1).1
    have cl := hcs (S.length - 1) (by omega)
    have hlast : S.getD (S.length - 1) 0 = lastS S := rfl
    rw [hlast] at cl
    have HA0 := Lib.hid hal
    have HB3 := Lib.hid hc3
    have HN8 := Lib.hid hc4
    rw [hal]
    by_cases h0 : n = 0
    · have hnil : ws = [] := List.eq_nil_of_length_eq_zero (by rw [HN.out]; exact h0)
      have HP : Hid (pbX S R zn ws = 0) := Lib.hid (by rw [HX.out, hnil]; exact (pbV_nil S R zn m1).2)
      subst h0
      clear hnil hal hc hab hc1 hc2 hc3 hc4 hcs hq0 sg3 hlast
      go_wp2_with fail
      go_ret2
      exact ⟨ret_eq (by rw [HP.out, HA0.out]; rfl), C.out⟩
    · have t0 : ((n : Int) == 0) = false := by simp; omega
      have t0n : (n == 0) = false := by simp; omega
      have t0d : decide (n = 0) = false := by simp; omega
      have hrl : R.length ≤ 6 := (vldT_spec hc1).2.2.1
      obtain ⟨r, hr⟩ : ∃ r, R.length = r := ⟨_, rfl⟩
      obtain ⟨m, hm⟩ : ∃ m, S.length = m := ⟨_, rfl⟩
      obtain ⟨L, hL⟩ : ∃ L, lastS S = L := ⟨_, rfl⟩
      have HL := Lib.hid hL
      have HM := Lib.hid hm
      rw [hr] at c1 hzr hrl
      rw [hm] at c0 d0 cl sg1 sg2
      rw [hL] at cl m1 m2
      have x0 := HQ.out 0 (by have := HM.out; omega)
      have x0b := HRB.out 0 (by have := HM.out; omega)
      have HMN0 : Hid (mn (rowZ R zn) 0 0 = (rowZ R zn).getD 0 0) := Lib.hid rfl
      obtain ⟨y0, hy0⟩ : ∃ y0, (rowZ R zn).getD 0 0 = y0 := ⟨_, rfl⟩
      rw [hy0] at x0 x0b HMN0
      obtain ⟨x0b1, x0b2⟩ := x0b
      have hm1 : (1 : Int) ≤ (m : Int) := by omega
      have hk1 : ((m : Int) - 1).toNat = m - 1 := by omega
      have hk2 : (m : Int) - 1 < (m : Int) := by omega
      have hk3 : 0 ≤ (m : Int) - 1 := by omega
      have hL1 : L ≤ 32767 := by omega
      have hL2 : -32768 ≤ L := by omega
      clear hal hc hab hc1 hc2 hc3 hc4 hcs hq0 sg3 hlast hr hm hL hy0 hzb
      go_wp2_with fail
      go_loop [10, 11] (fun b i => ∃ q : Nat, q ≤ m ∧ i = .int .i64 q ∧ b = .int .i64 (mn (rowZ R zn) 0 q)) (fun _ i => m - (intOf i).toNat)
      case atStart => exact ⟨0, Nat.zero_le _, rfl, by rw [HMN0.out]⟩
      case round =>
        obtain ⟨q, hq, rfl, rfl⟩ := hrel
        by_cases hlt : q < m
        · have x := HQ.out q (by have := HM.out; omega)
          obtain ⟨xb1, xb2⟩ := HRB.out q (by have := HM.out; omega)
          have HSN : Hid (mn (rowZ R zn) 0 (q + 1) = min (mn (rowZ R zn) 0 q) ((rowZ R zn).getD q 0)) := Lib.hid (by rw [mn_succ, Nat.zero_add])
          obtain ⟨y, hy⟩ : ∃ y, (rowZ R zn).getD q 0 = y := ⟨_, rfl⟩
          obtain ⟨b, hb⟩ : ∃ b, mn (rowZ R zn) 0 q = b := ⟨_, rfl⟩
          rw [hy] at x xb1 xb2 HSN
          rw [hb] at HSN ⊢
          clear hy hb
          go_wp2_with fail
          refine (smin_any _ _ _).mono ?_
          rintro e w4 ⟨rfl, rfl⟩
          rw [← HSN.out]
          go_wp2_with fail
          go_round
          case rel => exact ⟨q + 1, by omega, by go_num, rfl⟩
          case measure => simp [intOf]; omega
        · have hq' : q = m := by omega
          have HLO : Hid (mn (rowZ R zn) 0 q = lo S R zn) := Lib.hid (by rw [hq', ← HM.out]; rfl)
          rw [HLO.out]
          obtain ⟨lw, hlw⟩ : ∃ lw, lo S R zn = lw := ⟨_, rfl⟩
          have HLW := Lib.hid hlw
          rw [hlw] at l1 l2 ⊢
          clear hq' hlw HLO x0
          go_wp2_with fail
          go_loop [9, 12] (fun b i => ∃ q : Nat, q ≤ n ∧ i = .int .i64 q ∧ b = .int .i64 (bst S R zn ws q)) (fun _ i => n - (intOf i).toNat)
          case atStart => exact ⟨0, Nat.zero_le _, rfl, rfl⟩
          case round =>
            obtain ⟨q2, hq2, rfl, rfl⟩ := hrel
            by_cases hlt2 : q2 < n
            · obtain ⟨gi, rfl, hci⟩ := HA.out (by intro e; have := HN.out; rw [e] at this; simp at this; omega)
              have cx := (hci.below C.out) q2 (by have := HN.out; omega)
              have hst : stp S (ws.getD q2 0) < S.length := HALL.out q2 (by have := HN.out; omega)
              have HSN : Hid (bst S R zn ws (q2 + 1) = max (bst S R zn ws q2) (mq S R zn (ws.getD q2 0))) := Lib.hid (bst_succ _ _ _ _ _)
              obtain ⟨x, hx⟩ : ∃ x, ws.getD q2 0 = x := ⟨_, rfl⟩
              rw [hx] at cx hst HSN
              have HP := Lib.hid (prcI_yes (z := zn) (R := R) hst)
              have HSI := Lib.hid (stpI_yes hst)
              have HMQ : Hid (mq S R zn x = mn (rowZ R zn) (stp S x) (m - stp S x)) := Lib.hid (by rw [← HM.out]; rfl)
              have HPR : Hid (prc S R zn x = mn (rowZ R zn) (stp S x) 0) := Lib.hid rfl
              obtain ⟨s, hs⟩ : ∃ s, stp S x = s := ⟨_, rfl⟩
              rw [hs] at hst HSI HMQ HPR
              rw [HM.out] at hst
              rw [HPR.out] at HP
              obtain ⟨b, hb⟩ : ∃ b, bst S R zn ws q2 = b := ⟨_, rfl⟩
              rw [hb] at HSN ⊢
              clear hci hx hs hb HPR
              go_wp2_with fail
              refine (sprice_any w.heap.size S R zn x _ H2.out K.out HV.out HZ.out).mono ?_
              rintro e w4 ⟨rfl, rfl⟩
              rw [HP.out]
              go_wp2_with fail
              refine (sstep_any w.heap.size S R x _ H2.out K.out).mono ?_
              rintro e w4 ⟨rfl, rfl⟩
              rw [HSI.out]
              go_wp2_with fail
              clear cx
              go_loop [13, 14] (fun b i => ∃ c : Nat, s + c ≤ m ∧ i = .int .i64 ((s + c : Nat) : Int) ∧ b = .int .i64 (mn (rowZ R zn) s c)) (fun _ i => m - (intOf i).toNat)
              case atStart => exact ⟨0, by omega, rfl, rfl⟩
              case round =>
                obtain ⟨c, hc, rfl, rfl⟩ := hrel
                by_cases hlt3 : s + c < m
                · have xx := HQ.out (s + c) (by have := HM.out; omega)
                  obtain ⟨xb1, xb2⟩ := HRB.out (s + c) (by have := HM.out; omega)
                  have HSC := Lib.hid (mn_succ (rowZ R zn) s c)
                  obtain ⟨y, hy⟩ : ∃ y, (rowZ R zn).getD (s + c) 0 = y := ⟨_, rfl⟩
                  obtain ⟨bb, hbb⟩ : ∃ b, mn (rowZ R zn) s c = b := ⟨_, rfl⟩
                  obtain ⟨sc, hsc⟩ : ∃ sc, s + c = sc := ⟨_, rfl⟩
                  rw [hy] at xx xb1 xb2 HSC
                  rw [hbb] at HSC ⊢
                  rw [hsc] at xx hlt3 hc ⊢
                  have HC := Lib.hid hsc
                  clear hy hbb hsc
                  go_wp2_with fail
                  refine (smin_any _ _ _).mono ?_
                  rintro e w4 ⟨rfl, rfl⟩
                  rw [← HSC.out]
                  go_wp2_with fail
                  go_round
                  case rel => exact ⟨c + 1, by have := HC.out; omega, by have := HC.out; go_num, rfl⟩
                  case measure => simp [intOf]; omega
                · have HE : Hid (mn (rowZ R zn) s c = mq S R zn x) := Lib.hid (by rw [HMQ.out, show c = m - s by omega])
                  have hsc : s + c = m := by omega
                  rw [HE.out, hsc]
                  clear hsc HE
                  go_wp2_with fail
                  refine (smax_any _ _ _).mono ?_
                  rintro e w4 ⟨rfl, rfl⟩
                  rw [← HSN.out]
                  go_wp2_with fail
                  go_round
                  case rel => exact ⟨q2 + 1, by omega, by go_num, rfl⟩
                  case measure => simp [intOf]; omega
            · have hq' : q2 = n := by omega
              have HBS : Hid (bst S R zn ws q2 = bst S R zn ws ws.length) := Lib.hid (by rw [hq', HN.out])
              rw [HBS.out]
              have HU2 := Lib.hid (HU.out.below C.out)
              have HFW : Hid (few S ws = (sumL ws + L - 1) / L) := Lib.hid (by unfold few; rw [HL.out])
              obtain ⟨p1, p2⟩ := prod_bound f1 f2 l1 l2
              have HPV : Hid (pbV S R zn ws = max (bst S R zn ws ws.length) (few S ws * lw)) := Lib.hid (by unfold pbV; rw [HLW.out])
              clear hq' HBS
              go_wp2_with fail
              refine (ssum_any _ ws _ HU2.out HN8.out HB3.out).mono ?_
              rintro e w4 ⟨rfl, rfl⟩
              obtain ⟨sm, hsm⟩ : ∃ sm, sumL ws = sm := ⟨_, rfl⟩
              rw [hsm] at s1 s2 HFW ⊢
              clear hsm
              obtain ⟨fw, hfw⟩ : ∃ fw, few S ws = fw := ⟨_, rfl⟩
              rw [hfw] at f1 f2 p1 p2 HFW HPV
              have hdiv := HFW.out.symm
              have hL0 : L ≠ 0 := by omega
              clear hfw
              go_wp2_with fail
              refine (smax_any _ _ _).mono ?_
              rintro e w4 ⟨rfl, rfl⟩
              rw [← HPV.out]
              go_wp2_with fail
              go_ret2
              exact ⟨ret_eq (by rw [HX.out, HA0.out]; rfl), C.out⟩
  · have HXC := Lib.hid (pbX_c hal)
    obtain ⟨c, hcc⟩ : ∃ c, alone S R z ws = c := ⟨_, rfl⟩
    have t1 : (c != 0) = true := by rw [← hcc]; simpa using hal
    have HC := Lib.hid hcc
    rw [hcc]
    clear hal hcc
    go_wp2_with fail
    go_ret2
    exact ⟨ret_eq (by rw [HXC.out, HC.out]; rfl), C.out⟩
end Go.Proofs.YtkhemijanhcibaaDoor
