/-
  Sums of weights and of prices; both PricesOf, PriceOf and JoinedPrice.
-/
import Derived.Test.YtkhemijanhcibaaDoorItems
namespace Go.Proofs.YtkhemijanhcibaaDoor
open Go Go.RowKit
set_option linter.unusedVariables false

theorem betw_mono {r : List Int} {lo lo' hi hi' : Int} {k : Nat} (h : betw r lo hi k) (h1 : lo' ≤ lo) (h2 : hi ≤ hi') : betw r lo' hi' k := fun i hi0 => by
  have := h i hi0; omega

set_option maxHeartbeats 2000000 in
set_option maxRecDepth 100000 in
theorem ssum_any (v : Value) (ws : List Int) (w : World) (hv : ReadsI w v ws) (hn : ws.length ≤ 8) (hb : betwB ws 1 2000 = true) :
    Calls Tryd.prog 51 #[v] w fun e w' => e = .returned (.int .i64 (sumL ws)) ∧ w = w' := by
  obtain ⟨a, cap, rfl, ha⟩ := hv
  have HA := Lib.hid ha
  have HBT := Lib.hid (betw_mono (betwB_spec hb) (lo' := 0) (hi' := 2000) (by omega) (by omega))
  obtain ⟨n, hn'⟩ : ∃ n, ws.length = n := ⟨_, rfl⟩
  rw [hn'] at hn ⊢
  have HN := Lib.hid hn'
  clear ha hn' hb
  go_enter Tryd.func51, Tryd.ntmps51
  go_wp2_with fail
  go_loop [3, 4] (fun s i => ∃ k : Nat, k ≤ n ∧ i = .int .i64 k ∧ s = .int .i64 (sumL (ws.take k))) (fun _ i => n - (intOf i).toNat)
  case atStart => exact ⟨0, Nat.zero_le _, rfl, rfl⟩
  case round =>
    obtain ⟨k, hk, rfl, rfl⟩ := hrel
    obtain ⟨hs1, hs2⟩ := sumL_bound (xs := ws) (hi := 2000) (k := k) (by have := HN.out; omega) (fun i hi => HBT.out i (by have := HN.out; omega))
    by_cases hlt : k < n
    · obtain ⟨g, rfl, hc⟩ := HA.out (by intro e; have := HN.out; rw [e] at this; simp at this; omega)
      have cx := hc k (by have := HN.out; omega)
      have hxb := HBT.out k (by have := HN.out; omega)
      have HS : Hid (sumL (ws.take (k + 1)) = sumL (ws.take k) + ws.getD k 0) := Lib.hid (sumL_take_succ ws k (by have := HN.out; omega))
      obtain ⟨x, hx⟩ : ∃ x, ws.getD k 0 = x := ⟨_, rfl⟩
      obtain ⟨s, hs⟩ : ∃ s, sumL (ws.take k) = s := ⟨_, rfl⟩
      rw [hx] at cx hxb HS
      rw [hs] at hs1 hs2 HS ⊢
      obtain ⟨hx1, hx2⟩ := hxb
      clear hc hx hs
      go_wp2_with fail
      go_round
      case rel => exact ⟨k + 1, by omega, by go_num, by rw [HS.out]⟩
      case measure => simp [intOf]; omega
    · have hk' : k = n := by omega
      have HE : Hid (sumL (ws.take k) = sumL ws) := Lib.hid (by rw [List.take_of_length_le (by rw [HN.out]; omega)])
      clear hk'
      go_wp2_with fail
      go_ret
      exact ⟨ret_int HE.out, rfl⟩

set_option maxHeartbeats 2000000 in
set_option maxRecDepth 100000 in
theorem isum_any (v : Value) (ws : List Int) (w : World) (hv : ReadsI w v ws) (hn : ws.length ≤ 8) (hb : betwB ws 1 2000 = true) :
    Calls Tryd.prog 52 #[v] w fun e w' => e = .returned (.int .i64 (sumL ws)) ∧ w = w' := by
  obtain ⟨a, cap, rfl, ha⟩ := hv
  have HA := Lib.hid ha
  have HBT := Lib.hid (betw_mono (betwB_spec hb) (lo' := 0) (hi' := 2000) (by omega) (by omega))
  obtain ⟨n, hn'⟩ : ∃ n, ws.length = n := ⟨_, rfl⟩
  rw [hn'] at hn ⊢
  have HN := Lib.hid hn'
  clear ha hn' hb
  go_enter Tryd.func52, Tryd.ntmps52
  go_wp2_with fail
  go_loop [3, 8] (fun s i => ∃ k : Nat, k ≤ n ∧ i = .int .i64 k ∧ s = .int .i64 (sumL (ws.take k))) (fun _ i => n - (intOf i).toNat)
  case atStart => exact ⟨0, Nat.zero_le _, rfl, rfl⟩
  case round =>
    obtain ⟨k, hk, rfl, rfl⟩ := hrel
    obtain ⟨hs1, hs2⟩ := sumL_bound (xs := ws) (hi := 2000) (k := k) (by have := HN.out; omega) (fun i hi => HBT.out i (by have := HN.out; omega))
    by_cases hlt : k < n
    · obtain ⟨g, rfl, hc⟩ := HA.out (by intro e; have := HN.out; rw [e] at this; simp at this; omega)
      have cx := hc k (by have := HN.out; omega)
      have hxb := HBT.out k (by have := HN.out; omega)
      have HS : Hid (sumL (ws.take (k + 1)) = sumL (ws.take k) + ws.getD k 0) := Lib.hid (sumL_take_succ ws k (by have := HN.out; omega))
      obtain ⟨x, hx⟩ : ∃ x, ws.getD k 0 = x := ⟨_, rfl⟩
      obtain ⟨s, hs⟩ : ∃ s, sumL (ws.take k) = s := ⟨_, rfl⟩
      rw [hx] at cx hxb HS
      rw [hs] at hs1 hs2 HS ⊢
      obtain ⟨hx1, hx2⟩ := hxb
      clear hc hx hs
      go_wp2_with fail
      go_round
      case rel => exact ⟨k + 1, by omega, by go_num, by rw [HS.out]⟩
      case measure => simp [intOf]; omega
    · have hk' : k = n := by omega
      have HE : Hid (sumL (ws.take k) = sumL ws) := Lib.hid (by rw [List.take_of_length_le (by rw [HN.out]; omega)])
      clear hk'
      go_wp2_with fail
      go_ret
      exact ⟨ret_int HE.out, rfl⟩

/-- The prices of the items. -/
def prcs (S : List Int) (R : List (List Int)) (z : Int) (ws : List Int) : List Int := ws.map (prc S R z)
theorem prcs_len (S : List Int) (R : List (List Int)) (z : Int) (ws : List Int) : (prcs S R z ws).length = ws.length := by simp [prcs]
theorem prcs_get (S : List Int) (R : List (List Int)) (z : Int) (ws : List Int) (k : Nat) (h : k < ws.length) : (prcs S R z ws).getD k 0 = prc S R z (ws.getD k 0) := by
  simp [prcs, List.getD, h]
theorem prcs_betw {S : List Int} {R : List (List Int)} {z : Int} {ws : List Int} {k : Nat} (hk : k ≤ ws.length) (hv : vldT S R = true) (hz : inB z 0 (R.length - 1) = true) (h : allS S ws k) : betw (prcs S R z ws) 0 10000 k := fun i hi => by
  rw [prcs_get S R z ws i (by omega)]
  exact prc_bound hv hz (h i hi)
def sumP (S : List Int) (R : List (List Int)) (z : Int) (ws : List Int) : Int := sumL (prcs S R z ws)
def sumV (S : List Int) (R : List (List Int)) (z : Int) (ws : List Int) (a3 : Addr) : Value := if allB S ws = true then .tuple #[.int .i64 (sumP S R z ws), .nilIface] else .tuple #[.int .i64 0, .iface 104 (.pointer (some a3))]
theorem sumV_yes {S : List Int} {R : List (List Int)} {z : Int} {ws : List Int} (a3 : Addr) (h : allB S ws = true) : sumV S R z ws a3 = .tuple #[.int .i64 (sumP S R z ws), .nilIface] := if_pos h
theorem sumV_no {S : List Int} {R : List (List Int)} {z : Int} {ws : List Int} (a3 : Addr) (h : allB S ws = false) : sumV S R z ws a3 = .tuple #[.int .i64 0, .iface 104 (.pointer (some a3))] := if_neg (by rw [h]; simp)

set_option maxHeartbeats 4000000 in
set_option maxRecDepth 100000 in
theorem sumOfPrices_any (t v : Value) (S : List Int) (R : List (List Int)) (z : Int) (ws : List Int) (w : World) (ht : ReadsT w t S R) (hu : ReadsI w v ws) (k : TabOk S R) (hn : ws.length ≤ 8) (hvl : vldT S R = true) (hz : inB z 0 (R.length - 1) = true) (a3 : Addr)
    (g3 : w.cell? ⟨3, 0, none⟩ = some (.iface 104 (.pointer (some a3)))) :
    Calls Tryd.prog 46 #[.func (.func 47) #[t] #[], .int .i64 z, v] w fun e w' => e = .returned (sumV S R z ws a3) ∧ Below w.heap.size w w' := by
  obtain ⟨t1, t2, rfl, ht1, ht2⟩ := ht
  have HT : Hid (ReadsT w (.agg #[t1, t2]) S R) := Lib.hid ⟨t1, t2, rfl, ht1, ht2⟩
  obtain ⟨a, cap, rfl, ha⟩ := hu
  have HA := Lib.hid ha
  have K := Lib.hid k
  have HV := Lib.hid hvl
  have HZ := Lib.hid hz
  have HG := Lib.hid g3
  obtain ⟨n, hn'⟩ : ∃ n, ws.length = n := ⟨_, rfl⟩
  rw [hn'] at hn ⊢
  have HN := Lib.hid hn'
  clear ha hn' ht1 ht2 k hvl hz g3
  go_enter Tryd.func46, Tryd.ntmps46
  go_wp2_with fail
  go_loopw [8, 15] (fun s i wr => ∃ k : Nat, k ≤ n ∧ i = .int .i64 k ∧ s = .int .i64 (sumL ((prcs S R z ws).take k)) ∧ allS S ws k ∧ Below w.heap.size w wr) (fun _ i _ => n - (intOf i).toNat)
  case atStart => exact ⟨0, Nat.zero_le _, rfl, rfl, allS.zero S ws, Below.refl _ _⟩
  case round =>
    obtain ⟨k, hk, rfl, rfl, hal, hnx⟩ := hrel
    obtain ⟨hs1, hs2⟩ := sumL_bound (xs := prcs S R z ws) (hi := 10000) (k := k) (by rw [prcs_len]; have := HN.out; omega) (prcs_betw (by have := HN.out; omega) HV.out HZ.out hal)
    have HAL := Lib.hid hal
    have HB := Lib.hid hnx
    by_cases hlt : k < n
    · obtain ⟨g, rfl, hc⟩ := HA.out (by intro e; have := HN.out; rw [e] at this; simp at this; omega)
      have cx := (hc.below hnx) k (by have := HN.out; omega)
      have HS : Hid (sumL ((prcs S R z ws).take (k + 1)) = sumL ((prcs S R z ws).take k) + prc S R z (ws.getD k 0)) := Lib.hid (by
        rw [sumL_take_succ (prcs S R z ws) k (by rw [prcs_len]; have := HN.out; omega), prcs_get S R z ws k (by have := HN.out; omega)])
      have HST : Hid (stp S (ws.getD k 0) < S.length → allS S ws (k + 1)) := Lib.hid HAL.out.succ
      have HBAD : Hid (¬ stp S (ws.getD k 0) < S.length → allB S ws = false) := Lib.hid (allB_bad (by have := HN.out; omega))
      obtain ⟨x, hx⟩ : ∃ x, ws.getD k 0 = x := ⟨_, rfl⟩
      obtain ⟨s, hs⟩ : ∃ s, sumL ((prcs S R z ws).take k) = s := ⟨_, rfl⟩
      rw [hx] at cx HS HST HBAD
      rw [hs] at hs1 hs2 HS ⊢
      have HT2 := Lib.hid (HT.out.below hnx)
      have HG2 := Lib.hid (cbelow hnx HG.out)
      clear hc hx hs hal hnx
      by_cases hst : stp S x < S.length
      · have HSX := Lib.hid hst
        obtain ⟨p1, p2⟩ := prc_bound (z := z) HV.out HZ.out hst
        obtain ⟨p, hp⟩ : ∃ p, prc S R z x = p := ⟨_, rfl⟩
        have HP : Hid (prcV S R z x a3 = .tuple #[.int .i64 p, .nilIface]) := Lib.hid (by rw [prcV_yes a3 hst, hp])
        rw [hp] at p1 p2 HS
        clear hp hst
        go_wp2_with fail
        refine (iprice_any _ S R z x _ HT2.out K.out HV.out HZ.out a3 HG2.out).mono ?_
        rintro e w2 ⟨rfl, b2⟩
        rw [HP.out]
        have HB2 : Hid (Below w.heap.size w w2) := Lib.hid (blink HB.out b2)
        clear b2
        go_wp2_with fail
        go_roundw
        case rel => exact ⟨k + 1, by omega, by go_num, by rw [HS.out], HST.out HSX.out, HB2.out⟩
        case measure => simp [intOf]; omega
      · have HSX := Lib.hid hst
        have HP : Hid (prcV S R z x a3 = .tuple #[.int .i64 0, .iface 104 (.pointer (some a3))]) := Lib.hid (prcV_no a3 hst)
        clear hst
        go_wp2_with fail
        refine (iprice_any _ S R z x _ HT2.out K.out HV.out HZ.out a3 HG2.out).mono ?_
        rintro e w2 ⟨rfl, b2⟩
        rw [HP.out]
        have HB2 : Hid (Below w.heap.size w w2) := Lib.hid (blink HB.out b2)
        clear b2
        go_wp2_with fail
        go_ret2
        exact ⟨ret_eq (by rw [sumV_no a3 (HBAD.out HSX.out)]; rfl), HB2.out⟩
    · have hk' : k = n := by omega
      have HE : Hid (sumL ((prcs S R z ws).take k) = sumP S R z ws) := Lib.hid (by unfold sumP; rw [List.take_of_length_le (by rw [prcs_len, HN.out]; omega)])
      have HY : Hid (sumV S R z ws a3 = .tuple #[.int .i64 (sumP S R z ws), .nilIface]) := Lib.hid (sumV_yes a3 (allB_true (by rw [HN.out, ← hk']; exact hal)))
      clear hk' hal hnx
      go_wp2_with fail
      go_ret2
      exact ⟨ret_eq (by rw [HY.out, ← HE.out]; rfl), HB.out⟩

/-- The answer of PricesOf. -/
def psX (S : List Int) (R : List (List Int)) (z : Int) (ws : List Int) : Int := if alone S R z ws = 0 then sumP S R z ws else 0
theorem psX_0 {S : List Int} {R : List (List Int)} {z : Int} {ws : List Int} (h : alone S R z ws = 0) : psX S R z ws = sumP S R z ws := if_pos h
theorem psX_c {S : List Int} {R : List (List Int)} {z : Int} {ws : List Int} (h : alone S R z ws ≠ 0) : psX S R z ws = 0 := if_neg h
theorem alone_spec {S : List Int} {R : List (List Int)} {z : Int} {ws : List Int} (h : alone S R z ws = 0) : chk S R z ws = 0 ∧ allB S ws = true := by
  unfold alone at h
  split at h
  · rename_i h1
    split at h
    · rename_i h2; exact ⟨h1, h2⟩
    · simp at h
  · rename_i h1; exact absurd h h1

set_option maxHeartbeats 4000000 in
set_option maxRecDepth 100000 in
theorem iPricesOf_ok (v u : Value) (S : List Int) (R : List (List Int)) (z : Int) (ws : List Int) (w : World) (hv : ReadsT w v S R) (hu : ReadsI w u ws) (k : TabOk S R) (hws : ws.length ≤ 1048576) (a0 a1 a2 a3 : Addr) (E : Errs4 w a0 a1 a2 a3) :
    Calls Tryd.prog 20 #[v, .int .i64 z, u] w fun e w' => e = .returned (.tuple #[.int .i64 (psX S R z ws), .int .i64 (alone S R z ws)]) ∧ Below w.heap.size w w' := by
  obtain ⟨v1, v2, rfl, ⟨a, cap, rfl, ha⟩, ⟨b, c2, rfl, hb⟩⟩ := hv
  have H0 : Hid (ReadsT w (.agg #[.slice a S.length cap, .slice b R.length c2]) S R) := Lib.hid ⟨_, _, rfl, ⟨a, cap, rfl, ha⟩, ⟨b, c2, rfl, hb⟩⟩
  obtain ⟨ua, uc, rfl, hua⟩ := hu
  have HU : Hid (ReadsI w (.slice ua ws.length uc) ws) := Lib.hid ⟨ua, uc, rfl, hua⟩
  have K := Lib.hid k
  have HE := Lib.hid E
  have HW := Lib.hid hws
  clear ha hb hua k E hws
  go_enter Tryd.func20, Tryd.ntmps20
  go_wp2_with fail
  refine (check_any _ _ S R z ws a0 a1 a2 _ (H0.out.below (allocB _ _)) (HU.out.below (allocB _ _)) K.out HW.out (HE.out.e3.below (allocB _ _))).mono ?_
  rintro e w2 ⟨rfl, b2⟩
  have q := (Blk2.new (w := w) rfl _ _ _).below b2
  have c := blink (allocB w _) b2
  have g0 := q.at0
  have g1 := q.at1
  have C := Lib.hid c
  clear q c b2
  by_cases hc : chk S R z ws = 0
  · rw [hc, errOf_0]
    obtain ⟨hc1, hc2, hc3, hc4⟩ := chk_spec hc
    have HC := Lib.hid hc
    have HV := Lib.hid hc1
    have HZ := Lib.hid hc2
    have HL := Lib.hid hc4
    clear hc hc1 hc2 hc3 hc4
    go_wp2_with fail
    refine (sumOfPrices_any _ _ S R z ws _ (H0.out.below C.out) (HU.out.below C.out) K.out HL.out HV.out HZ.out a3 (HE.out.below C.out).g3).mono ?_
    rintro e w3 ⟨rfl, b3⟩
    have C3 := Lib.hid (blink C.out b3)
    clear b3
    by_cases hal : allB S ws = true
    · rw [sumV_yes a3 hal]
      have HA0 := Lib.hid (alone_0 HC.out hal)
      clear hal
      go_wp2_with fail
      refine (code_nil _).mono ?_
      rintro e w4 ⟨rfl, rfl⟩
      go_wp2_with fail
      go_ret2
      exact ⟨ret_eq (by rw [psX_0 HA0.out, HA0.out]; rfl), C3.out⟩
    · have hal2 : allB S ws = false := by simpa using hal
      rw [sumV_no a3 hal2]
      have HA6 := Lib.hid (alone_6 HC.out hal2)
      clear hal hal2
      go_wp2_with fail
      refine (code_4 a0 a1 a2 a3 _ (HE.out.below C3.out)).mono ?_
      rintro e w4 ⟨rfl, rfl⟩
      go_wp2_with fail
      go_ret2
      exact ⟨ret_eq (by rw [psX_c (by rw [HA6.out]; simp), HA6.out]; rfl), C3.out⟩
  · rw [errOf_ptr hc]
    have HK : Hid (chk S R z ws = 1 ∨ chk S R z ws = 2 ∨ chk S R z ws = 3) := Lib.hid (by rcases chk_cases S R z ws with h | h | h | h; exact absurd h hc; exact .inl h; exact .inr (.inl h); exact .inr (.inr h))
    have HA := Lib.hid (alone_c hc)
    have HC := Lib.hid hc
    clear hc
    go_wp2_with fail
    refine (code_of a0 a1 a2 _ HK.out _ (HE.out.e3.below C.out)).mono ?_
    rintro e w4 ⟨rfl, rfl⟩
    go_wp2_with fail
    go_ret2
    exact ⟨ret_eq (by rw [psX_c (by rw [HA.out]; exact HC.out), HA.out]; rfl), C.out⟩

set_option maxHeartbeats 4000000 in
set_option maxRecDepth 100000 in
theorem sPricesOf_ok (v u : Value) (S : List Int) (R : List (List Int)) (z : Int) (ws : List Int) (w : World) (hv : ReadsT w v S R) (hu : ReadsI w u ws) (k : TabOk S R) (hws : ws.length ≤ 1048576) :
    Calls Tryd.prog 18 #[v, .int .i64 z, u] w fun e w' => e = .returned (.tuple #[.int .i64 (psX S R z ws), .int .i64 (alone S R z ws)]) ∧ Below w.heap.size w w' := by
  obtain ⟨v1, v2, rfl, h1, h2⟩ := hv
  have H := Lib.hid (AtT.box (T := 29) h1 h2)
  obtain ⟨ua, uc, rfl, hua⟩ := hu
  have HU : Hid (ReadsI w (.slice ua ws.length uc) ws) := Lib.hid ⟨ua, uc, rfl, hua⟩
  have HA := Lib.hid hua
  have HW := Lib.hid hws
  have K := Lib.hid k
  obtain ⟨n, hn'⟩ : ∃ n, ws.length = n := ⟨_, rfl⟩
  rw [hn'] at HU ⊢
  have HN := Lib.hid hn'
  clear h1 h2 k hws hua hn'
  go_enter Tryd.func18, Tryd.ntmps18
  go_wp2_with fail
  refine (salone_any w.heap.size _ S R z ws _ H.out (HU.out.below (allocB _ _)) K.out HW.out).mono ?_
  rintro e w2 ⟨rfl, b2⟩
  have C := Lib.hid (blink (allocB w _) b2)
  have H2 := Lib.hid (H.out.below b2)
  clear b2
  by_cases hal : alone S R z ws = 0
  · obtain ⟨hc, hab⟩ := alone_spec hal
    obtain ⟨hc1, hc2, hc3, hc4⟩ := chk_spec hc
    have HV := Lib.hid hc1
    have HZ := Lib.hid hc2
    have HALL := Lib.hid (allB_spec hab)
    have hn8 : n ≤ 8 := by have := HN.out; omega
    have HA0 := Lib.hid hal
    rw [hal]
    clear hal hc hab hc1 hc2 hc3 hc4
    go_wp2_with fail
    go_loopw [9, 10] (fun s i wr => ∃ k : Nat, k ≤ n ∧ i = .int .i64 k ∧ s = .int .i64 (sumL ((prcs S R z ws).take k)) ∧ Below w2.heap.size w2 wr) (fun _ i _ => n - (intOf i).toNat)
    case atStart => exact ⟨0, Nat.zero_le _, rfl, rfl, Below.refl _ _⟩
    case round =>
      obtain ⟨k, hk, rfl, rfl, hnx⟩ := hrel
      obtain ⟨hs1, hs2⟩ := sumL_bound (xs := prcs S R z ws) (hi := 10000) (k := k) (by rw [prcs_len]; have := HN.out; omega) (prcs_betw (by have := HN.out; omega) HV.out HZ.out (fun i hi => HALL.out i (by have := HN.out; omega)))
      have HB := Lib.hid hnx
      by_cases hlt : k < n
      · obtain ⟨g, rfl, hc⟩ := HA.out (by intro e; have := HN.out; rw [e] at this; simp at this; omega)
        have cx := (hc.below (blink C.out hnx)) k (by have := HN.out; omega)
        have HS : Hid (sumL ((prcs S R z ws).take (k + 1)) = sumL ((prcs S R z ws).take k) + prc S R z (ws.getD k 0)) := Lib.hid (by
          rw [sumL_take_succ (prcs S R z ws) k (by rw [prcs_len]; have := HN.out; omega), prcs_get S R z ws k (by have := HN.out; omega)])
        have hst : stp S (ws.getD k 0) < S.length := HALL.out k (by have := HN.out; omega)
        obtain ⟨p1, p2⟩ := prc_bound (z := z) HV.out HZ.out hst
        have HP := Lib.hid (prcI_yes (z := z) (R := R) hst)
        obtain ⟨x, hx⟩ : ∃ x, ws.getD k 0 = x := ⟨_, rfl⟩
        obtain ⟨s, hs⟩ : ∃ s, sumL ((prcs S R z ws).take k) = s := ⟨_, rfl⟩
        rw [hx] at cx HS p1 p2 HP
        rw [hs] at hs1 hs2 HS ⊢
        obtain ⟨p, hp⟩ : ∃ p, prc S R z x = p := ⟨_, rfl⟩
        rw [hp] at p1 p2 HS HP
        have H3 := Lib.hid (H2.out.below hnx)
        clear hc hx hs hst hp hnx
        go_wp2_with fail
        refine (sprice_any w.heap.size S R z x _ H3.out K.out HV.out HZ.out).mono ?_
        rintro e w4 ⟨rfl, rfl⟩
        rw [HP.out]
        go_wp2_with fail
        go_roundw
        case rel => exact ⟨k + 1, by omega, by go_num, by rw [HS.out], HB.out⟩
        case measure => simp [intOf]; omega
      · have hk' : k = n := by omega
        have HEE : Hid (sumL ((prcs S R z ws).take k) = sumP S R z ws) := Lib.hid (by unfold sumP; rw [List.take_of_length_le (by rw [prcs_len, HN.out]; omega)])
        clear hk' hnx
        go_wp2_with fail
        go_ret2
        exact ⟨ret_eq (by rw [psX_0 HA0.out, HA0.out, ← HEE.out]; rfl), blink C.out HB.out⟩
  · have HX := Lib.hid (psX_c hal)
    obtain ⟨c, hcc⟩ : ∃ c, alone S R z ws = c := ⟨_, rfl⟩
    have t1 : (c != 0) = true := by rw [← hcc]; simpa using hal
    rw [hcc]
    have HC := Lib.hid hcc
    clear hal hcc
    go_wp2_with fail
    go_ret2
    exact ⟨ret_eq (by rw [HX.out, HC.out]; rfl), C.out⟩
end Go.Proofs.YtkhemijanhcibaaDoor
