/-
  Both checks whether a table is valid: each answers 'vldT'.
-/
import Derived.Test.YtnjhkmoinlikiaaDoorVldT
import Derived.Test.YtnjhkmoinlikiaaDoorBetw
namespace Go.Proofs.YtnjhkmoinlikiaaDoor
open Go Go.RowKit
set_option linter.unusedVariables false


set_option maxHeartbeats 2000000 in
set_option maxRecDepth 100000 in
theorem withinH_any (v : Value) (r : List Int) (lo hi : Int) (w : World) (hv : ReadsH w v r) (hn : r.length ≤ 1048576) :
    Calls Tryd.prog 26 #[v, .int .i16 lo, .int .i16 hi] w fun e w' => e = .returned (.bool (betwB r lo hi)) ∧ w = w' := by
  obtain ⟨a, cap, rfl, ha⟩ := hv
  have HA := Lib.hid ha
  obtain ⟨n, hn'⟩ : ∃ n, r.length = n := ⟨_, rfl⟩
  rw [hn'] at hn ⊢
  have HN := Lib.hid hn'
  clear ha hn'
  go_enter Tryd.func26, Tryd.ntmps26
  go_wp2_with fail
  go_loop [11] (fun i => ∃ k : Nat, k ≤ n ∧ i = .int .i64 k ∧ betw r lo hi k) (fun i => n - (intOf i).toNat)
  case atStart => exact ⟨0, Nat.zero_le _, rfl, betw.zero _ _ _⟩
  case round =>
    obtain ⟨k, hk, rfl, hb⟩ := hrel
    have HB := Lib.hid hb
    by_cases hlt : k < n
    · obtain ⟨g, rfl, hc⟩ := HA.out (by intro e; have := HN.out; rw [e] at this; simp at this; omega)
      have cx := hc k (by have := HN.out; omega)
      have HS : Hid (lo ≤ r.getD k 0 ∧ r.getD k 0 ≤ hi → betw r lo hi (k + 1)) := Lib.hid HB.out.succ
      have HBAD : Hid (¬ (lo ≤ r.getD k 0 ∧ r.getD k 0 ≤ hi) → betwB r lo hi = false) := Lib.hid (betwB_bad (by have := HN.out; omega))
      obtain ⟨x, hx⟩ : ∃ x, r.getD k 0 = x := ⟨_, rfl⟩
      rw [hx] at cx HS HBAD
      clear hc hx hb
      by_cases h1 : lo ≤ x
      · by_cases h2 : x ≤ hi
        · have t1 : decide (x < lo) = false := by simp; omega
          have t2 : decide (hi < x) = false := by simp; omega
          go_wp2_with fail
          go_round
          case rel => exact ⟨k + 1, by omega, by go_num, HS.out ⟨h1, h2⟩⟩
          case measure => simp [intOf]; omega
        · have t1 : decide (x < lo) = false := by simp; omega
          have t2 : decide (hi < x) = true := by simp; omega
          go_wp2_with fail
          go_ret
          exact ⟨(ret_bool (HBAD.out (by omega))).symm, rfl⟩
      · have t1 : decide (x < lo) = true := by simp; omega
        go_wp2_with fail
        go_ret
        exact ⟨(ret_bool (HBAD.out (by omega))).symm, rfl⟩
    · have hk' : k = n := by omega
      have HE : Hid (betwB r lo hi = true) := Lib.hid (betwB_true (by rw [HN.out, ← hk']; exact hb))
      clear hk' hb
      go_wp2_with fail
      go_ret
      exact ⟨(ret_bool HE.out).symm, rfl⟩

set_option maxHeartbeats 2000000 in
set_option maxRecDepth 100000 in
theorem isteps_row (g n cap : Nat) (S : List Int) (hn' : S.length = n) (h1 : 1 ≤ n) (h10 : n ≤ 10) (w : World) (hc : CellsH w g S) :
    Calls Tryd.prog 25 #[.slice (some ⟨g, 0, none⟩) n cap] w fun e w' => e = .returned (.bool (vldS S)) ∧ w = w' := by
  have HN := Lib.hid hn'
  have HC := Lib.hid hc
  have t1 : decide ((n : Int) < 1) = false := by simp; omega
  have t2 : decide ((10 : Int) < (n : Int)) = false := by simp; omega
  clear hn' hc
  go_enter Tryd.func25, Tryd.ntmps25
  go_wp2_with fail
  go_loop [3, 16] (fun p i => ∃ k : Nat, k ≤ n ∧ i = .int .i64 k ∧ p = .int .i16 (prevH S k) ∧ RiseT S k) (fun _ i => n - (intOf i).toNat)
  case atStart => exact ⟨0, Nat.zero_le _, rfl, rfl, RiseT.zero S⟩
  case round =>
    obtain ⟨k, hk, rfl, rfl, hr⟩ := hrel
    have HR := Lib.hid hr
    by_cases hlt : k < n
    · have cx := HC.out k (by have := HN.out; omega)
      have hpn := hr.prev
      have HS : Hid (okS S k → RiseT S (k + 1)) := Lib.hid HR.out.succ
      have HBAD : Hid (¬ okS S k → vldS S = false) := Lib.hid (vldS_bad (by have := HN.out; omega))
      obtain ⟨x, hx⟩ : ∃ x, S.getD k 0 = x := ⟨_, rfl⟩
      obtain ⟨p, hp⟩ : ∃ p, prevH S k = p := ⟨_, rfl⟩
      have HOK : Hid (okS S k ↔ (p < x ∧ 1 ≤ x ∧ x ≤ 2000)) := Lib.hid (by unfold okS; rw [hx, hp])
      have HPS : Hid (prevH S (k + 1) = x) := Lib.hid (by rw [prevH, if_neg (by omega), Nat.add_sub_cancel, hx])
      rw [hx] at cx
      rw [hp] at hpn ⊢
      obtain ⟨hp0, hp1⟩ := hpn
      clear hx hp hr
      by_cases a1 : p < x
      · by_cases a2 : x ≤ 2000
        · have t3 : decide (x ≤ p) = false := by simp; omega
          have t4 : decide ((2000 : Int) < x) = false := by simp; omega
          go_wp2_with fail
          go_round
          case rel => exact ⟨k + 1, by omega, by go_num, by rw [HPS.out], HS.out (HOK.out.2 ⟨a1, by omega, a2⟩)⟩
          case measure => simp [intOf]; omega
        · have t3 : decide (x ≤ p) = false := by simp; omega
          have t4 : decide ((2000 : Int) < x) = true := by simp; omega
          go_wp2_with fail
          go_ret
          exact ⟨(ret_bool (HBAD.out (fun h => by have := HOK.out.1 h; omega))).symm, rfl⟩
      · have t3 : decide (x ≤ p) = true := by simp; omega
        go_wp2_with fail
        go_ret
        exact ⟨(ret_bool (HBAD.out (fun h => by have := HOK.out.1 h; omega))).symm, rfl⟩
    · have hk' : k = n := by omega
      have HE : Hid (vldS S = true) := Lib.hid (vldS_true (by rw [HN.out]; omega) (by rw [HN.out]; omega) (by rw [HN.out, ← hk']; exact hr))
      clear hk' hr
      go_wp2_with fail
      go_ret
      exact ⟨(ret_bool HE.out).symm, rfl⟩
set_option maxHeartbeats 1000000 in
theorem isteps_len (a : Option Addr) (n cap : Nat) (h : n = 0 ∨ (10 < n ∧ n ≤ 1048576)) (w : World) :
    Calls Tryd.prog 25 #[.slice a n cap] w fun e w' => e = .returned (.bool false) ∧ w = w' := by
  rcases h with rfl | ⟨h, h'⟩
  all_goals
    go_enter Tryd.func25, Tryd.ntmps25
    go_wp2
    go_ret
    exact ⟨rfl, rfl⟩
theorem isteps_any (v : Value) (S : List Int) (w : World) (hv : ReadsH w v S) (hn : S.length ≤ 1048576) :
    Calls Tryd.prog 25 #[v] w fun e w' => e = .returned (.bool (vldS S)) ∧ w = w' := by
  obtain ⟨a, cap, rfl, ha⟩ := hv
  by_cases h : 1 ≤ S.length ∧ S.length ≤ 10
  · obtain ⟨b, rfl, hc⟩ := ha (fun e => by rw [e] at h; simp at h)
    exact isteps_row b S.length cap S rfl h.1 h.2 w hc
  · rw [vldS_len h]
    exact isteps_len a S.length cap (by omega) w

set_option maxHeartbeats 4000000 in
set_option maxRecDepth 100000 in
theorem ivalT_any (v : Value) (S : List Int) (R : List (List Int)) (w : World) (hv : ReadsT w v S R)
    (hn : S.length ≤ 1048576) (hm : R.length ≤ 1048576) (hr : ∀ j, j < R.length → (R.getD j []).length ≤ 1048576) :
    Calls Tryd.prog 15 #[v] w fun e w' => e = .returned (.bool (vldT S R)) ∧ Below w.heap.size w w' := by
  obtain ⟨v1, v2, rfl, h1, h2⟩ := hv
  obtain ⟨a, cap, rfl, ha⟩ := h1
  obtain ⟨b, c2, rfl, hbm⟩ := h2
  have H1 : Hid (ReadsH w (.slice a S.length cap) S) := Lib.hid ⟨a, cap, rfl, ha⟩
  have HM := Lib.hid hbm
  have HRL := Lib.hid hr
  obtain ⟨n, hn'⟩ : ∃ n, S.length = n := ⟨_, rfl⟩
  obtain ⟨m, hm'⟩ : ∃ m, R.length = m := ⟨_, rfl⟩
  have HNL := Lib.hid hn
  rw [hn'] at H1 hn ⊢
  rw [hm'] at hm ⊢
  have HN := Lib.hid hn'
  have HMM := Lib.hid hm'
  clear ha hbm hr hn' hm'
  by_cases hs : vldS S = true
  · have HS := Lib.hid hs
    clear hs
    by_cases h16 : 1 ≤ m ∧ m ≤ 6
    · have t1 : decide ((m : Int) < 1) = false := by simp; omega
      have t2 : decide ((6 : Int) < (m : Int)) = false := by simp; omega
      go_enter Tryd.func15, Tryd.ntmps15
      go_wp2_with fail
      refine (isteps_any _ S _ (H1.out.below ((Below.refl _ _).alloc (Nat.le_refl _) _)) HNL.out).mono ?_
      rintro e w2 ⟨rfl, rfl⟩
      rw [HS.out]
      go_wp2_with fail
      have HB0 : Hid (Blk2 (w.alloc (Obj.cells #[.slice a n cap, .slice b m c2] 37)) w.heap.size 37 (.slice a n cap) (.slice b m c2)) := Lib.hid (Blk2.new rfl _ _ _)
      go_loopw [24] (fun i wr => ∃ z : Nat, z ≤ m ∧ i = .int .i64 z ∧ okRs S.length R z ∧ Blk2 wr w.heap.size 37 (.slice a n cap) (.slice b m c2) ∧ Below w.heap.size w wr) (fun i _ => m - (intOf i).toNat)
      case atStart => exact ⟨0, Nat.zero_le _, rfl, okRs.zero _ R, HB0.out, (Below.refl _ _).alloc (Nat.le_refl _) _⟩
      case round =>
        obtain ⟨z, hz, rfl, hor, hbk, hnx⟩ := hrel
        have HO := Lib.hid hor
        have HBK := Lib.hid hbk
        have HB2 := Lib.hid hnx
        have c0 := hbk.at0
        have c1 := hbk.at1
        by_cases hlt2 : z < m
        · obtain ⟨gb, rfl, hcr⟩ := HM.out (by intro e; have := HMM.out; rw [e] at this; simp at this; omega)
          obtain ⟨u, d0, r0⟩ := hcr z (by have := HMM.out; omega)
          have d1 : wr.cell? ⟨gb, z, none⟩ = some u := by rw [hnx.cell (p := ⟨gb, z, none⟩) (World.block_lt_of_cell? w _ d0)]; exact d0
          have r1 := r0.below hnx
          have hrl := HRL.out z (by have := HMM.out; omega)
          have HBAD : Hid (¬ okR S.length (R.getD z []) → vldT S R = false) := Lib.hid (vldT_bad (by have := HMM.out; omega))
          have HOS : Hid (okR S.length (R.getD z []) → okRs S.length R (z + 1)) := Lib.hid HO.out.succ
          obtain ⟨r, hrz⟩ : ∃ r, R.getD z [] = r := ⟨_, rfl⟩
          rw [hrz] at r1 hrl HBAD HOS
          have R1 := Lib.hid r1
          have HRLr := Lib.hid hrl
          obtain ⟨ar, cr, rfl, hra⟩ := r1
          obtain ⟨l, hl⟩ : ∃ l, r.length = l := ⟨_, rfl⟩
          rw [hl] at d1 hrl R1
          have HLR := Lib.hid hl
          clear hcr d0 r0 hra hrz hnx hor hl hbk
          by_cases hln : l = n
          · have t3 : ((l : Int) != (n : Int)) = false := by simp; omega
            have HLN := Lib.hid hln
            clear hln
            by_cases hbt : betwB r 0 10000 = true
            · have HBT := Lib.hid hbt
              clear hbt
              go_wp2_with fail
              refine (withinH_any _ r 0 10000 _ R1.out HRLr.out).mono ?_
              rintro e w3 ⟨rfl, rfl⟩
              rw [HBT.out]
              go_wp2_with fail
              go_roundw
              case rel => exact ⟨z + 1, by omega, by go_num, HOS.out ⟨by rw [HLR.out, HLN.out, HN.out], betwB_spec HBT.out⟩, HBK.out, HB2.out⟩
              case measure => simp [intOf]; omega
            · have HBT : Hid (betwB r 0 10000 = false) := Lib.hid (by simpa using hbt)
              clear hbt
              go_wp2_with fail
              refine (withinH_any _ r 0 10000 _ R1.out HRLr.out).mono ?_
              rintro e w3 ⟨rfl, rfl⟩
              rw [HBT.out]
              go_wp2_with fail
              go_ret
              exact ⟨(ret_bool (HBAD.out (fun h => by have h1 := betwB_true (lo := 0) (hi := 10000) h.2; rw [HBT.out] at h1; cases h1))).symm, HB2.out⟩
          · have t3 : ((l : Int) != (n : Int)) = true := by simp; omega
            have HLN := Lib.hid hln
            clear hln
            go_wp2_with fail
            go_ret
            exact ⟨(ret_bool (HBAD.out (fun h => HLN.out (by rw [← HLR.out, h.1, HN.out])))).symm, HB2.out⟩
        · have hz' : z = m := by omega
          have HT : Hid (vldT S R = true) := Lib.hid (vldT_true HS.out (by rw [HMM.out]; omega) (by rw [HMM.out]; omega) (by rw [HMM.out, ← hz']; exact hor))
          clear hz' hor hnx hbk
          go_wp2_with fail
          go_ret
          exact ⟨(ret_bool HT.out).symm, HB2.out⟩
    · have HT : Hid (vldT S R = false) := Lib.hid (vldT_len (by rw [HMM.out]; exact h16))
      by_cases h1 : 1 ≤ m
      · have t1 : decide ((m : Int) < 1) = false := by simp; omega
        have t2 : decide ((6 : Int) < (m : Int)) = true := by simp; omega
        go_enter Tryd.func15, Tryd.ntmps15
        go_wp2_with fail
        refine (isteps_any _ S _ (H1.out.below ((Below.refl _ _).alloc (Nat.le_refl _) _)) HNL.out).mono ?_
        rintro e w2 ⟨rfl, rfl⟩
        rw [HS.out]
        go_wp2_with fail
        go_ret
        exact ⟨(ret_bool HT.out).symm, (Below.refl _ _).alloc (Nat.le_refl _) _⟩
      · have t1 : decide ((m : Int) < 1) = true := by simp; omega
        go_enter Tryd.func15, Tryd.ntmps15
        go_wp2_with fail
        refine (isteps_any _ S _ (H1.out.below ((Below.refl _ _).alloc (Nat.le_refl _) _)) HNL.out).mono ?_
        rintro e w2 ⟨rfl, rfl⟩
        rw [HS.out]
        go_wp2_with fail
        go_ret
        exact ⟨(ret_bool HT.out).symm, (Below.refl _ _).alloc (Nat.le_refl _) _⟩
  · have HS : Hid (vldS S = false) := Lib.hid (by simpa using hs)
    clear hs
    have HT : Hid (vldT S R = false) := Lib.hid (vldT_steps HS.out)
    go_enter Tryd.func15, Tryd.ntmps15
    go_wp2_with fail
    refine (isteps_any _ S _ (H1.out.below ((Below.refl _ _).alloc (Nat.le_refl _) _)) HNL.out).mono ?_
    rintro e w2 ⟨rfl, rfl⟩
    rw [HS.out]
    go_wp2_with fail
    go_ret
    exact ⟨(ret_bool HT.out).symm, (Below.refl _ _).alloc (Nat.le_refl _) _⟩
end Go.Proofs.YtnjhkmoinlikiaaDoor
