/-
  Contracts of impl.waysUpTo and of both WaysToPay.
-/
import Derived.Test.YtgbckddojfajjaaAsk
import Derived.Test.YtgbckddojfajjaaToI
import Derived.Test.YtgbckddojfajjaaWayPlain
import Derived.StillTailTactics
import Derived.RegionTactic
import Derived.BigRegion
namespace Go.Proofs.Ytgbckddojfajjaa
open Go Go.RowKit
set_option linter.unusedVariables false

set_option maxHeartbeats 4000000 in
set_option maxRecDepth 100000 in
theorem iways_row (b len cap : Nat) (xs : List Int) (most : Nat) (hl : xs.length = len) (h8 : len ≤ 8) (hv : Rise xs xs.length) (hmost : most ≤ 1500) (w : World) (hc : Cells w b xs) :
    Calls Try.prog 59 #[.slice (some ⟨b, 0, none⟩) len cap, .int .i64 most] w fun e w' =>
      e = .returned (.slice (some ⟨w.heap.size, 0, none⟩) (most + 1) (most + 1)) ∧ OwnI w.heap.size w' (.slice (some ⟨w.heap.size, 0, none⟩) (most + 1) (most + 1)) (wayAll most xs) ∧ Below w.heap.size w w' := by
  obtain ⟨i0, hi, hz0, hz1, hz2⟩ := info_parts info_i64
  have HL := Lib.hid hl
  have HV := Lib.hid hv
  clear hl hv
  go_enter Try.func59, Try.ntmps59
  go_wp2_with (refine wpList_make_full _ rfl _ _ 24 rfl w.heap.size 2 i0 (.int .i64 0) 1 Try.underlying24 hi hz0 hz1 .i64 .i64 _ _ (most + 1) rfl rfl (by omega) (by omega) (by rw [hz2]; omega) (by unfold maxLen; omega) (Nat.le_refl _) ?_; intro w1 hown1 hg1; have hon := made_own hown1; have hc0 := own_cell hon 0 (by omega); have hf0 := hon.frozenAt 0; have HO := Lib.hid (own_store hon 0 1); have HG := Lib.hid hg1; clear hown1 hg1 hon)
  go_loopw [16] (fun i wr => ∃ k : Nat, k ≤ len ∧ i = .int .i64 k ∧ wr.ownsRow w.heap.size 2 1 (.slice (some ⟨w.heap.size, 0, none⟩) (most + 1) (most + 1)) (most + 1) ((wayAll most (xs.take k)).map (Value.int .i64)) ∧ Below w.heap.size w wr) (fun i _ => len - (intOf i).toNat)
  case atStart => exact ⟨0, Nat.zero_le _, rfl, HO.out, ((Below.refl _ _).grown HG.out (Nat.le_refl _) (fun k hk => by simp at hk)).setCell (Nat.le_refl _) _⟩
  case round =>
    obtain ⟨k, hk, rfl, hown, hnx⟩ := hrel
    have HB := Lib.hid hnx
    by_cases hlt : k < len
    · have cx := hc.below hnx k (by have := HL.out; omega)
      have hb := rise_bounds HV.out (by have := HL.out; omega : k < xs.length)
      have HW := Lib.hid (wayAll_take most xs k (by have := HL.out; omega))
      obtain ⟨v, hxv⟩ : ∃ v : Nat, xs.getD k 0 = (v : Int) := ⟨(xs.getD k 0).toNat, by omega⟩
      rw [hxv] at cx hb
      have HXV := Lib.hid hxv
      obtain ⟨ws, hws⟩ : ∃ ws, wayAll most (xs.take k) = ws := ⟨_, rfl⟩
      rw [hws] at hown
      have HWS := Lib.hid hws
      have HO2 := Lib.hid hown
      have HC := Lib.hid hc
      have hv1 : 1 ≤ v := by omega
      have hv5 : v ≤ 500 := by omega
      obtain ⟨wo, rfl⟩ : ∃ wo : World, wo = wr := ⟨_, rfl⟩
      clear hxv hws hown hnx hc hb hc0 hf0
      go_wp2
      go_loopw [8] (fun i wr => ∃ a : Nat, v ≤ a ∧ (a = v ∨ a ≤ most + 1) ∧ i = .int .i64 a ∧ wr.ownsRow w.heap.size 2 1 (.slice (some ⟨w.heap.size, 0, none⟩) (most + 1) (most + 1)) (most + 1) ((wayK v ws (a - v)).map (Value.int .i64)) ∧ Below w.heap.size w wr) (fun a _ => most + 1 - (intOf a).toNat)
      case atStart => exact ⟨v, Nat.le_refl _, .inl rfl, rfl, by rw [Nat.sub_self]; exact HO2.out, HB.out⟩
      case round =>
        obtain ⟨a, hva, hj, rfl, hown, hnx⟩ := hrel
        have HJ := Lib.hid hj
        have HB2 := Lib.hid hnx
        by_cases hlt2 : a ≤ most
        · have c1 := own_cell hown a (by omega)
          have c2 := own_cell hown (a - v) (by omega)
          have f1 := hown.frozenAt a
          obtain ⟨p, hp⟩ : ∃ p, (wayK v ws (a - v)).getD a 0 = p := ⟨_, rfl⟩
          obtain ⟨q, hq⟩ : ∃ q, (wayK v ws (a - v)).getD (a - v) 0 = q := ⟨_, rfl⟩
          have HO3 : Hid ((wr.setCell ⟨w.heap.size, a, none⟩ (.int .i64 (wrap64 (p + q)))).ownsRow w.heap.size 2 1 (.slice (some ⟨w.heap.size, 0, none⟩) (most + 1) (most + 1)) (most + 1) ((wayK v ws (a + 1 - v)).map (Value.int .i64))) := Lib.hid (by
            rw [← wayK_succ v ws a hva, ← hp, ← hq]
            exact own_store hown a _)
          rw [hp] at c1
          rw [hq] at c2
          clear hp hq hown hnx hj
          go_wp2
          go_region
          go_wp2
          go_roundw
          case rel => exact ⟨a + 1, by omega, .inr (by omega), by go_num, HO3.out, (HB2.out.setCell (Nat.le_refl _) _).drew⟩
          case measure => simp [intOf]; omega
        · have HO4 : Hid (wr.ownsRow w.heap.size 2 1 (.slice (some ⟨w.heap.size, 0, none⟩) (most + 1) (most + 1)) (most + 1) ((wayAll most (xs.take (k + 1))).map (Value.int .i64))) := Lib.hid (by
            rw [HW.out, HXV.out, HWS.out, ← wayV_of most ws v a hva hj hlt2]
            exact hown)
          clear hown hnx hj
          go_wp2
          go_roundw
          case rel => exact ⟨k + 1, by omega, by go_num, HO4.out, HB2.out⟩
          case measure => simp [intOf]; omega
    · have hk' : k = len := by omega
      have HO4 : Hid (wr.ownsRow w.heap.size 2 1 (.slice (some ⟨w.heap.size, 0, none⟩) (most + 1) (most + 1)) (most + 1) ((wayAll most xs).map (Value.int .i64))) := Lib.hid (by
        have h := hown
        rw [hk', List.take_of_length_le (by rw [HL.out]; omega)] at h
        exact h)
      clear hk' hc hown hnx hc0 hf0
      go_wp2
      go_ret
      refine ⟨rfl, ?_, HB.out⟩
      have h := HO4.out
      unfold OwnI
      rw [wayAll_length]
      exact h

set_option maxHeartbeats 2000000 in
theorem iwtp_any (v : Value) (xs : List Int) (n : Int) (w : World) (hv : ReadsI w v xs) (hx : xs.length ≤ 1048576) :
    Calls Try.prog 35 #[v, .int .i64 n] w fun e w' => e = .returned (.tuple #[.int .i64 (waysRes xs n), .int .i64 (codeOf xs (inB n 0 1000))]) ∧ Below w.heap.size w w' := by
  by_cases h0 : codeOf xs (inB n 0 1000) = 0
  · obtain ⟨f1, f8, fr, g0, g1⟩ := code_facts h0
    obtain ⟨m, rfl⟩ : ∃ m : Nat, n = (m : Int) := ⟨n.toNat, by omega⟩
    obtain ⟨b, cap, rfl, hc⟩ := reads_row hv f1
    obtain ⟨r, hr⟩ : ∃ r, (wayAll m xs).getD m 0 = r := ⟨_, rfl⟩
    have HR : Hid (waysRes xs m = r) := Lib.hid (by rw [waysRes_ok h0]; simpa using hr)
    have hm1 : m ≤ 1000 := by omega
    go_enter Try.func35, Try.ntmps35
    go_wp2_with fail
    refine (check_any _ xs _ _ hv hx).mono ?_
    rintro e w2 ⟨rfl, rfl⟩
    go_wp2_with fail
    refine (iways_row b xs.length cap xs m rfl f8 fr (by omega) _ hc).mono ?_
    rintro e w2 ⟨rfl, o2, b2⟩
    have c := o2.cell m (by rw [wayAll_length]; omega)
    rw [hr] at c
    clear hr o2
    go_wp2
    go_ret2
    exact ⟨ret_two HR.out.symm h0.symm, b2⟩
  · have HR : Hid (waysRes xs n = 0) := Lib.hid (waysRes_not h0)
    obtain ⟨c, hc⟩ : ∃ c, codeOf xs (inB n 0 1000) = c := ⟨_, rfl⟩
    have hne : (c != 0) = true := by rw [← hc]; simpa using h0
    have HC := Lib.hid hc
    clear h0
    go_enter Try.func35, Try.ntmps35
    go_wp2_with fail
    refine (check_any _ xs _ _ hv hx).mono ?_
    rintro e w2 ⟨rfl, rfl⟩
    go_wp2
    go_ret2
    exact ⟨ret_two HR.out.symm HC.out.symm, Below.refl _ _⟩

set_option maxHeartbeats 4000000 in
set_option maxRecDepth 100000 in
theorem swtp_ok (b len cap : Nat) (xs : List Int) (m : Nat) (hl : xs.length = len) (h8 : len ≤ 8) (hv : Rise xs xs.length) (hmost : m ≤ 1000) (w0 : World) (hc0 : Cells w0 b xs) (h0 : codeOf xs (inB (m : Int) 0 1000) = 0) (hrd : ReadsI w0 (.slice (some ⟨b, 0, none⟩) len cap) xs) :
    Calls Try.prog 34 #[.slice (some ⟨b, 0, none⟩) len cap, .int .i64 m] w0 fun e w' =>
      e = .returned (.tuple #[.int .i64 ((wayAll m xs).getD m 0), .int .i64 0]) ∧ Below w0.heap.size w0 w' := by
  obtain ⟨i0, hi, hz0, hz1, hz2⟩ := info_parts info_i64
  obtain ⟨r, hr⟩ : ∃ r, (wayAll m xs).getD m 0 = r := ⟨_, rfl⟩
  rw [hr]
  have HR := Lib.hid hr
  have HL := Lib.hid hl
  have HV := Lib.hid hv
  have hx : xs.length ≤ 1048576 := by omega
  clear hl hv hr
  go_enter Try.func34, Try.ntmps34
  go_wp2_with fail
  refine (postage_any _ _).mono ?_
  rintro e w ⟨rfl, rfl⟩
  go_wp2_with fail
  refine (asked_any _ xs _ _ hrd hx).mono ?_
  rintro e w ⟨rfl, b2⟩
  have hc := hc0.below b2
  have HB0 := Lib.hid b2
  clear hc0 hrd b2
  go_wp2_with (refine wpList_make_full _ rfl _ _ 24 rfl w.heap.size 2 i0 (.int .i64 0) 1 Try.underlying24 hi hz0 hz1 .i64 .i64 _ _ (m + 1) rfl rfl (by omega) (by omega) (by rw [hz2]; omega) (by unfold maxLen; omega) (Nat.le_refl _) ?_; intro w1 hown1 hg1; have hon := made_own hown1; have hcz := own_cell hon 0 (by omega); have hfz := hon.frozenAt 0; have HO := Lib.hid (own_store hon 0 1); have HG := Lib.hid hg1; clear hown1 hg1 hon)
  go_loopw [8] (fun i wr => ∃ k : Nat, k ≤ len ∧ i = .int .i64 k ∧ wr.ownsRow w.heap.size 2 1 (.slice (some ⟨w.heap.size, 0, none⟩) (m + 1) (m + 1)) (m + 1) ((wayAll m (xs.take k)).map (Value.int .i64)) ∧ Below w.heap.size w wr) (fun i _ => len - (intOf i).toNat)
  case atStart => exact ⟨0, Nat.zero_le _, rfl, HO.out, ((Below.refl _ _).grown HG.out (Nat.le_refl _) (fun k hk => by simp at hk)).setCell (Nat.le_refl _) _⟩
  case round =>
    obtain ⟨k, hk, rfl, hown, hnx⟩ := hrel
    have HB := Lib.hid hnx
    by_cases hlt : k < len
    · have cx := hc.below hnx k (by have := HL.out; omega)
      have hb := rise_bounds HV.out (by have := HL.out; omega : k < xs.length)
      have HW := Lib.hid (wayAll_take m xs k (by have := HL.out; omega))
      obtain ⟨v, hxv⟩ : ∃ v : Nat, xs.getD k 0 = (v : Int) := ⟨(xs.getD k 0).toNat, by omega⟩
      rw [hxv] at cx hb
      have HXV := Lib.hid hxv
      obtain ⟨ws, hws⟩ : ∃ ws, wayAll m (xs.take k) = ws := ⟨_, rfl⟩
      rw [hws] at hown
      have HWS := Lib.hid hws
      have HO2 := Lib.hid hown
      have HC := Lib.hid hc
      have hv1 : 1 ≤ v := by omega
      have hv5 : v ≤ 500 := by omega
      obtain ⟨wo, rfl⟩ : ∃ wo : World, wo = wr := ⟨_, rfl⟩
      have HCK := Lib.hid cx
      clear hxv hws hown hnx hc hb hcz hfz
      go_wp2
      clear cx
      go_loopw [9] (fun i wr => ∃ a : Nat, v ≤ a ∧ (a = v ∨ a ≤ m + 1) ∧ i = .int .i64 a ∧ wr.ownsRow w.heap.size 2 1 (.slice (some ⟨w.heap.size, 0, none⟩) (m + 1) (m + 1)) (m + 1) ((wayK v ws (a - v)).map (Value.int .i64)) ∧ Below w.heap.size w wr) (fun a _ => m + 1 - (intOf a).toNat)
      case atStart => exact ⟨v, Nat.le_refl _, .inl rfl, rfl, by rw [Nat.sub_self]; exact HO2.out, HB.out⟩
      case round =>
        obtain ⟨a, hva, hj, rfl, hown, hnx⟩ := hrel
        have HJ := Lib.hid hj
        have HB2 := Lib.hid hnx
        by_cases hlt2 : a ≤ m
        · have c1 := own_cell hown a (by omega)
          have c2 := own_cell hown (a - v) (by omega)
          have f1 := hown.frozenAt a
          have cx : wr.cell? ⟨b, k, none⟩ = some (.int .i64 v) := by
            have h := HC.out.below hnx k (by have := HL.out; omega)
            rw [HXV.out] at h
            exact h
          obtain ⟨p, hp⟩ : ∃ p, (wayK v ws (a - v)).getD a 0 = p := ⟨_, rfl⟩
          obtain ⟨q, hq⟩ : ∃ q, (wayK v ws (a - v)).getD (a - v) 0 = q := ⟨_, rfl⟩
          have HO3 : Hid ((wr.setCell ⟨w.heap.size, a, none⟩ (.int .i64 (wrap64 (p + q)))).ownsRow w.heap.size 2 1 (.slice (some ⟨w.heap.size, 0, none⟩) (m + 1) (m + 1)) (m + 1) ((wayK v ws (a + 1 - v)).map (Value.int .i64))) := Lib.hid (by
            rw [← wayK_succ v ws a hva, ← hp, ← hq]
            exact own_store hown a _)
          rw [hp] at c1
          rw [hq] at c2
          clear hp hq hown hnx hj
          go_wp2
          go_region
          go_wp2
          go_roundw
          case rel => exact ⟨a + 1, by omega, .inr (by omega), by go_num, HO3.out, (HB2.out.setCell (Nat.le_refl _) _).drew⟩
          case measure => simp [intOf]; omega
        · have HO4 : Hid (wr.ownsRow w.heap.size 2 1 (.slice (some ⟨w.heap.size, 0, none⟩) (m + 1) (m + 1)) (m + 1) ((wayAll m (xs.take (k + 1))).map (Value.int .i64))) := Lib.hid (by
            rw [HW.out, HXV.out, HWS.out, ← wayV_of m ws v a hva hj hlt2]
            exact hown)
          clear hown hnx hj
          go_wp2
          go_roundw
          case rel => exact ⟨k + 1, by omega, by go_num, HO4.out, HB2.out⟩
          case measure => simp [intOf]; omega
    · have hk' : k = len := by omega
      have cm : wr.cell? ⟨w.heap.size, m, none⟩ = some (.int .i64 r) := by
        have h := own_cell hown m (by omega)
        rw [hk', List.take_of_length_le (by rw [HL.out]; omega), HR.out] at h
        exact h
      clear hk' hc hown hnx hcz hfz
      go_wp2
      go_ret2
      exact ⟨rfl, blink HB0.out HB.out⟩

set_option maxHeartbeats 2000000 in
theorem swtp_any (v : Value) (xs : List Int) (n : Int) (w : World) (hv : ReadsI w v xs) (hx : xs.length ≤ 1048576) :
    Calls Try.prog 34 #[v, .int .i64 n] w fun e w' => e = .returned (.tuple #[.int .i64 (waysRes xs n), .int .i64 (codeOf xs (inB n 0 1000))]) ∧ Below w.heap.size w w' := by
  by_cases h0 : codeOf xs (inB n 0 1000) = 0
  · obtain ⟨f1, f8, fr, g0, g1⟩ := code_facts h0
    obtain ⟨m, rfl⟩ : ∃ m : Nat, n = (m : Int) := ⟨n.toNat, by omega⟩
    obtain ⟨b, cap, rfl, hc⟩ := reads_row hv f1
    rw [waysRes_ok h0, h0]
    exact swtp_ok b xs.length cap xs m rfl f8 fr (by omega) w hc h0 hv
  · have HR : Hid (waysRes xs n = 0) := Lib.hid (waysRes_not h0)
    obtain ⟨c, hc⟩ : ∃ c, codeOf xs (inB n 0 1000) = c := ⟨_, rfl⟩
    have hne : (c != 0) = true := by rw [← hc]; simpa using h0
    have HC := Lib.hid hc
    clear h0
    go_enter Try.func34, Try.ntmps34
    go_wp2_with fail
    refine (postage_any _ _).mono ?_
    rintro e w2 ⟨rfl, rfl⟩
    go_wp2_with fail
    refine (asked_any _ xs _ _ hv hx).mono ?_
    rintro e w2 ⟨rfl, b2⟩
    go_wp2
    go_ret2
    exact ⟨ret_two HR.out.symm HC.out.symm, b2⟩
end Go.Proofs.Ytgbckddojfajjaa
