/-
  What makes a table valid; the model's check whether one is.
-/
import Derived.Test.YtnjhkmoinlikiaaDoorTabB
import Derived.Test.YtnjhkmoinlikiaaDoorIn
namespace Go.Proofs.YtnjhkmoinlikiaaDoor
open Go Go.RowKit
set_option linter.unusedVariables false

/-- Each number fits 16 bits. -/
def All16 (xs : List Int) : Prop := ∀ x ∈ xs, -32768 ≤ x ∧ x ≤ 32767
theorem All16.get {xs : List Int} (h : All16 xs) (i : Nat) (hi : i < xs.length) : -32768 ≤ xs.getD i 0 ∧ xs.getD i 0 ≤ 32767 := by
  have := h (xs[i]) (List.getElem_mem _)
  simpa [List.getD, hi] using this
def AllR (R : List (List Int)) : Prop := ∀ j, j < R.length → All16 (R.getD j [])

def prevH (S : List Int) (i : Nat) : Int := if i = 0 then 0 else S.getD (i - 1) 0
def okS (S : List Int) (i : Nat) : Prop := prevH S i < S.getD i 0 ∧ 1 ≤ S.getD i 0 ∧ S.getD i 0 ≤ 2000
/-- The first k steps rise, from 1 to 2000. -/
def RiseT (S : List Int) (k : Nat) : Prop := ∀ i, i < k → okS S i
theorem RiseT.zero (S : List Int) : RiseT S 0 := fun i hi => absurd hi (by omega)
theorem RiseT.succ {S : List Int} {k : Nat} (h : RiseT S k) (h1 : okS S k) : RiseT S (k + 1) := fun i hi => by
  by_cases e : i = k
  · subst e; exact h1
  · exact h i (by omega)
theorem RiseT.prev {S : List Int} {k : Nat} (h : RiseT S k) : 0 ≤ prevH S k ∧ prevH S k ≤ 2000 := by
  cases k with
  | zero => simp [prevH]
  | succ k =>
    have h0 := h k (by omega)
    simp only [okS] at h0
    simp only [prevH, Nat.succ_ne_zero, if_false, Nat.add_sub_cancel]
    omega
/-- The first k prices of a row are 0 to 10000. -/
def okP (r : List Int) (k : Nat) : Prop := ∀ i, i < k → 0 ≤ r.getD i 0 ∧ r.getD i 0 ≤ 10000
theorem okP.zero (r : List Int) : okP r 0 := fun i hi => absurd hi (by omega)
theorem okP.succ {r : List Int} {k : Nat} (h : okP r k) (h1 : 0 ≤ r.getD k 0 ∧ r.getD k 0 ≤ 10000) : okP r (k + 1) := fun i hi => by
  by_cases e : i = k
  · subst e; exact h1
  · exact h i (by omega)
def okR (n : Nat) (r : List Int) : Prop := r.length = n ∧ okP r r.length
def okRs (n : Nat) (R : List (List Int)) (k : Nat) : Prop := ∀ j, j < k → okR n (R.getD j [])
theorem okRs.zero (n : Nat) (R : List (List Int)) : okRs n R 0 := fun i hi => absurd hi (by omega)
theorem okRs.succ {n : Nat} {R : List (List Int)} {k : Nat} (h : okRs n R k) (h1 : okR n (R.getD k [])) : okRs n R (k + 1) := fun i hi => by
  by_cases e : i = k
  · subst e; exact h1
  · exact h i (by omega)
instance (S : List Int) (i : Nat) : Decidable (okS S i) := inferInstanceAs (Decidable (_ ∧ _))
instance (S : List Int) (k : Nat) : Decidable (RiseT S k) := inferInstanceAs (Decidable (∀ i, i < k → _))
instance (r : List Int) (k : Nat) : Decidable (okP r k) := inferInstanceAs (Decidable (∀ i, i < k → _))
instance (n : Nat) (r : List Int) : Decidable (okR n r) := inferInstanceAs (Decidable (_ ∧ _))
instance (n : Nat) (R : List (List Int)) (k : Nat) : Decidable (okRs n R k) := inferInstanceAs (Decidable (∀ i, i < k → _))
/-- The steps are those of a table. -/
def vldS (S : List Int) : Bool := decide (1 ≤ S.length ∧ S.length ≤ 10 ∧ RiseT S S.length)
theorem vldS_true {S : List Int} (h1 : 1 ≤ S.length) (h2 : S.length ≤ 10) (h : RiseT S S.length) : vldS S = true := decide_eq_true ⟨h1, h2, h⟩
theorem vldS_len {S : List Int} (h : ¬ (1 ≤ S.length ∧ S.length ≤ 10)) : vldS S = false := decide_eq_false fun k => h ⟨k.1, k.2.1⟩
theorem vldS_bad {S : List Int} {k : Nat} (hk : k < S.length) (h : ¬ okS S k) : vldS S = false := decide_eq_false fun q => h (q.2.2 k hk)
theorem vldS_spec {S : List Int} (h : vldS S = true) : 1 ≤ S.length ∧ S.length ≤ 10 ∧ RiseT S S.length := of_decide_eq_true h
/-- A table is valid. -/
def vldT (S : List Int) (R : List (List Int)) : Bool := decide (vldS S = true ∧ 1 ≤ R.length ∧ R.length ≤ 6 ∧ okRs S.length R R.length)
theorem vldT_true {S : List Int} {R : List (List Int)} (h : vldS S = true) (h1 : 1 ≤ R.length) (h2 : R.length ≤ 6) (h3 : okRs S.length R R.length) : vldT S R = true := decide_eq_true ⟨h, h1, h2, h3⟩
theorem vldT_steps {S : List Int} {R : List (List Int)} (h : vldS S = false) : vldT S R = false := decide_eq_false fun k => by rw [h] at k; exact absurd k.1 (by simp)
theorem vldT_len {S : List Int} {R : List (List Int)} (h : ¬ (1 ≤ R.length ∧ R.length ≤ 6)) : vldT S R = false := decide_eq_false fun k => h ⟨k.2.1, k.2.2.1⟩
theorem vldT_bad {S : List Int} {R : List (List Int)} {j : Nat} (hj : j < R.length) (h : ¬ okR S.length (R.getD j [])) : vldT S R = false := decide_eq_false fun q => h (q.2.2.2 j hj)
theorem vldT_spec {S : List Int} {R : List (List Int)} (h : vldT S R = true) : vldS S = true ∧ 1 ≤ R.length ∧ R.length ≤ 6 ∧ okRs S.length R R.length := of_decide_eq_true h
theorem vldT_fin {S : List Int} {R : List (List Int)} (h : RiseT S S.length) (h3 : okRs S.length R R.length) : vldT S R = (inB S.length 1 10 && inB R.length 1 6) := by
  by_cases a : 1 ≤ S.length ∧ S.length ≤ 10
  · by_cases b : 1 ≤ R.length ∧ R.length ≤ 6
    · rw [inB_true (by omega), inB_true (by omega), vldT_true (vldS_true a.1 a.2 h) b.1 b.2 h3]; rfl
    · rw [inB_true (by omega), inB_false (by omega), vldT_len b]; rfl
  · rw [inB_false (by omega), vldT_steps (vldS_len a)]; rfl

theorem IsRow.all16 {w : World} {a : Option Addr} {len cap : Nat} {z : List Int} (h : IsRow .i16 w a len cap z) : All16 (z.take len) := by
  rcases h with ⟨_, _, _, rfl⟩ | ⟨x, rfl, h1, h2, h3, h4, h5⟩
  · intro x hx; simp at hx
  · intro n hn
    have := h5 n (List.mem_of_mem_take hn)
    simp [Lit.wf, IntKind.min, IntKind.max, IntKind.signed, IntKind.bits] at this
    omega
theorem IsTab.all16 {w : World} {v : Value} {S : List Int} {R : List (List Int)} (h : IsTab w v S R) : All16 S ∧ AllR R := by
  obtain ⟨a, len, cap, z, b, m, c2, rfl, h1, h2, h3⟩ := h.ex
  refine ⟨by rw [← h2]; exact h1.all16, fun j hj => ?_⟩
  rcases h3 with ⟨_, _, _, rfl⟩ | ⟨x, rfl, g1, g2, g3, g4⟩
  · simp at hj
  · obtain ⟨a', l', c', z', k0, k1, k2⟩ := g4 j (by omega)
    rw [← k2]; exact k1.all16

set_option maxHeartbeats 4000000 in
set_option maxRecDepth 100000 in
theorem sok_any (B : Nat) (T : TypeId) (x y : Value) (S : List Int) (R : List (List Int)) (w : World) (hb : Blk2 w B T x y) (hS : ReadsH w x S) (hR : ReadsM w y R) (hwS : All16 S) (hwR : AllR R)
    (hn : S.length ≤ 1048576) (hm : R.length ≤ 1048576) (hr : ∀ j, j < R.length → (R.getD j []).length ≤ 1048576) :
    Calls Tryd.prog 10 #[.pointer (some ⟨B, 0, none⟩)] w fun e w' => e = .returned (.bool (vldT S R)) ∧ Below w.heap.size w w' := by
  obtain ⟨a, cap, rfl, ha⟩ := hS
  obtain ⟨b, c2, rfl, hbm⟩ := hR
  have HBK := Lib.hid hb
  have HA := Lib.hid ha
  have HM := Lib.hid hbm
  have HWS := Lib.hid hwS
  have HWR := Lib.hid hwR
  have HRL := Lib.hid hr
  obtain ⟨n, hn'⟩ : ∃ n, S.length = n := ⟨_, rfl⟩
  obtain ⟨m, hm'⟩ : ∃ m, R.length = m := ⟨_, rfl⟩
  rw [hn'] at HBK hn
  rw [hm'] at HBK hm
  have HN := Lib.hid hn'
  have HMM := Lib.hid hm'
  clear hb ha hbm hwS hwR hr hn' hm'
  go_enter Tryd.func10, Tryd.ntmps10
  go_wp2_with fail
  go_loopw [3] (fun i wr => ∃ k : Nat, k ≤ n ∧ i = .int .i64 k ∧ RiseT S k ∧ Below w.heap.size w wr) (fun i _ => n - (intOf i).toNat)
  case atStart => exact ⟨0, Nat.zero_le _, rfl, RiseT.zero S, Below.refl _ _⟩
  case round =>
    obtain ⟨k, hk, rfl, hr, hnx⟩ := hrel
    have HR := Lib.hid hr
    have HB := Lib.hid hnx
    have c0 := (HBK.out.below hnx).at0
    have c1 := (HBK.out.below hnx).at1
    by_cases hlt : k < n
    · obtain ⟨g, rfl, hc⟩ := HA.out (by intro e; have := HN.out; rw [e] at this; simp at this; omega)
      have cx := hc.below hnx k (by have := HN.out; omega)
      have hxw := HWS.out.get k (by have := HN.out; omega)
      obtain ⟨x, hxk⟩ : ∃ x, S.getD k 0 = x := ⟨_, rfl⟩
      rw [hxk] at cx hxw
      obtain ⟨hw1, hw2⟩ := hxw
      have HXK := Lib.hid hxk
      have hkl : (k : Int) < (n : Int) := by omega
      have hpn := hr.prev
      obtain ⟨p, hpk⟩ : ∃ p, prevH S k = p := ⟨_, rfl⟩
      rw [hpk] at hpn
      have HPK := Lib.hid hpk
      have HBAD : Hid (¬ (p < x ∧ 1 ≤ x ∧ x ≤ 2000) → vldT S R = false) := Lib.hid (fun h => vldT_steps (vldS_bad (k := k) (by have := HN.out; omega) (by unfold okS; rw [HPK.out, HXK.out]; exact h)))
      by_cases hin : 1 ≤ x ∧ x ≤ 2000
      · have t1 := inB_true hin
        by_cases hk0 : k = 0
        · subst hk0
          have HC := Lib.hid hc
          have HP0 : Hid (p = 0) := Lib.hid (by rw [← hpk]; rfl)
          clear hc hxk hr hnx hpn hpk
          go_wp2_with fail
          go_quiet ((go_at_call 21; exact Calls.quiet_of_same (in_any _ _ _ _)))
          go_wp2_with fail
          go_roundw
          case rel => exact ⟨0 + 1, by omega, by go_num, HR.out.succ (by unfold okS; rw [HXK.out, HPK.out, HP0.out]; omega), below_drewN HB.out _⟩
          case measure => simp [intOf]; omega
        · have cp := hc.below hnx (k - 1) (by have := HN.out; omega)
          have hpp : S.getD (k - 1) 0 = p := by rw [← hpk, prevH, if_neg hk0]
          rw [hpp] at cp
          have HC := Lib.hid hc
          have hk1 : 0 < k := by omega
          have hk1b : decide (0 < k) = true := decide_eq_true hk1
          have hkm : ((k : Int) - 1).toNat = k - 1 := by omega
          have hkm2 : (k : Int) - 1 < (n : Int) := by omega
          have hkm3 : 0 ≤ (k : Int) - 1 := by omega
          clear hc hxk hr hnx hpn hpk hpp
          by_cases hpx : p < x
          · have t2 : decide (x ≤ p) = false := by simp; omega
            go_wp2_with fail
            go_quiet ((go_at_call 21; exact Calls.quiet_of_same (in_any _ _ _ _)))
            go_wp2_with fail
            go_roundw
            case rel => exact ⟨k + 1, by omega, by go_num, HR.out.succ (by unfold okS; rw [HXK.out, HPK.out]; omega), below_drewN HB.out _⟩
            case measure => simp [intOf]; omega
          · have t2 : decide (x ≤ p) = true := by simp; omega
            go_wp2_with fail
            go_quiet ((go_at_call 21; exact Calls.quiet_of_same (in_any _ _ _ _)))
            go_wp2_with fail
            go_ret
            exact ⟨(ret_bool (HBAD.out (by omega))).symm, below_drewN HB.out _⟩
      · have t1 := inB_false hin
        have HC := Lib.hid hc
        clear hc hxk hr hnx hpn hpk
        go_wp2_with fail
        go_quiet ((go_at_call 21; exact Calls.quiet_of_same (in_any _ _ _ _)))
        go_wp2_with fail
        go_ret
        exact ⟨(ret_bool (HBAD.out (by omega))).symm, below_drewN HB.out _⟩
    · have hk' : k = n := by omega
      have HRI : Hid (RiseT S S.length) := Lib.hid (by rw [HN.out, ← hk']; exact hr)
      clear hk' hr hnx HR
      go_wp2_with fail
      obtain ⟨wo, rfl⟩ : ∃ wo : World, wo = wr := ⟨_, rfl⟩
      go_loopw [4] (fun i wr => ∃ z : Nat, z ≤ m ∧ i = .int .i64 z ∧ okRs S.length R z ∧ Below w.heap.size w wr) (fun i _ => m - (intOf i).toNat)
      case atStart => exact ⟨0, Nat.zero_le _, rfl, okRs.zero _ R, HB.out⟩
      case round =>
        obtain ⟨z, hz, rfl, hor, hnx⟩ := hrel
        have HO := Lib.hid hor
        have HB2 := Lib.hid hnx
        clear c0 c1
        have c0 := (HBK.out.below hnx).at0
        have c1 := (HBK.out.below hnx).at1
        by_cases hlt2 : z < m
        · obtain ⟨gb, rfl, hcr⟩ := HM.out (by intro e; have := HMM.out; rw [e] at this; simp at this; omega)
          obtain ⟨u, d0, r0⟩ := hcr z (by have := HMM.out; omega)
          have d1 : wr.cell? ⟨gb, z, none⟩ = some u := by rw [hnx.cell (p := ⟨gb, z, none⟩) (World.block_lt_of_cell? w _ d0)]; exact d0
          have D0 := Lib.hid d0
          have hwr16 := HWR.out z (by have := HMM.out; omega)
          have hrl := HRL.out z (by have := HMM.out; omega)
          have HBAD : Hid (¬ okR S.length (R.getD z []) → vldT S R = false) := Lib.hid (vldT_bad (by have := HMM.out; omega))
          have HOS : Hid (okR S.length (R.getD z []) → okRs S.length R (z + 1)) := Lib.hid HO.out.succ
          obtain ⟨r, hrz⟩ : ∃ r, R.getD z [] = r := ⟨_, rfl⟩
          rw [hrz] at r0 hwr16 hrl HBAD HOS
          obtain ⟨ar, cr, rfl, hra⟩ := r0
          obtain ⟨l, hl⟩ : ∃ l, r.length = l := ⟨_, rfl⟩
          rw [hl] at d1 hrl D0
          have HLR := Lib.hid hl
          have RA0 := Lib.hid hra
          have HW16 := Lib.hid hwr16
          clear hcr d0 hra hrz hnx hor hl hwr16
          by_cases hln : l = n
          · have t1 : ((l : Int) != (n : Int)) = false := by simp; omega
            have HLN := Lib.hid hln
            clear hln
            go_wp2_with fail
            go_quiet (fail)
            go_wp2_with fail
            rename_i nq _
            obtain ⟨wp, ep, HBP⟩ : ∃ wp : World, wr.drewN nq = wp ∧ Hid (Below w.heap.size w wp) := ⟨_, rfl, Lib.hid (below_drewN HB2.out _)⟩
            have HD : Hid (∀ (v : World), Below w.heap.size w v → v.cell? ⟨gb, z, none⟩ = some (.slice ar l cr)) := Lib.hid (fun v hv => by rw [hv.cell (p := ⟨gb, z, none⟩) (World.block_lt_of_cell? w _ D0.out)]; exact D0.out)
            have HRA2 : Hid (∀ v : World, Below w.heap.size w v → r ≠ [] → ∃ b, ar = some ⟨b, 0, none⟩ ∧ CellsH v b r) := Lib.hid (fun v hv hx => by
              obtain ⟨b, hb1, hb2⟩ := RA0.out hx
              exact ⟨b, hb1, hb2.below hv⟩)
            rw [ep]
            clear ep c0 c1 d1
            go_loopw [5] (fun i wi => ∃ q : Nat, q ≤ l ∧ i = .int .i64 q ∧ okP r q ∧ Below w.heap.size w wi) (fun i _ => l - (intOf i).toNat)
            case atStart => exact ⟨0, Nat.zero_le _, rfl, okP.zero _, HBP.out⟩
            case round =>
              rename_i wi _
              obtain ⟨q, hq, rfl, hop, hni⟩ := hrel
              have HOP := Lib.hid hop
              have HB3 := Lib.hid hni
              have c1 := (HBK.out.below hni).at1
              have d1 := HD.out _ hni
              by_cases hlt3 : q < l
              · obtain ⟨gr, rfl, hcr⟩ := HRA2.out _ hni (by intro e; have := HLR.out; rw [e] at this; simp at this; omega)
                have cx := hcr q (by have := HLR.out; omega)
                have hxw := HW16.out.get q (by have := HLR.out; omega)
                have HOPS : Hid (0 ≤ r.getD q 0 ∧ r.getD q 0 ≤ 10000 → okP r (q + 1)) := Lib.hid HOP.out.succ
                have HBADP : Hid (¬ (0 ≤ r.getD q 0 ∧ r.getD q 0 ≤ 10000) → vldT S R = false) := Lib.hid (fun h => HBAD.out (fun k => h (k.2 q (by have := HLR.out; omega))))
                obtain ⟨x, hxq⟩ : ∃ x, r.getD q 0 = x := ⟨_, rfl⟩
                rw [hxq] at cx hxw HOPS HBADP
                obtain ⟨hw1, hw2⟩ := hxw
                have HCR := Lib.hid hcr
                clear hcr hxq hop hni
                by_cases hin : 0 ≤ x ∧ x ≤ 10000
                · have t2 := inB_true hin
                  go_wp2_with (go_at_call 21; refine (in_any _ _ _ _).mono ?_; rintro e w2 ⟨rfl, rfl⟩)
                  go_roundw
                  case rel => exact ⟨q + 1, by omega, by go_num, HOPS.out (by omega), HB3.out⟩
                  case measure => simp [intOf]; omega
                · have t2 := inB_false hin
                  go_wp2_with (go_at_call 21; refine (in_any _ _ _ _).mono ?_; rintro e w2 ⟨rfl, rfl⟩)
                  go_ret
                  exact ⟨(ret_bool (HBADP.out (by omega))).symm, HB3.out⟩
              · have hq' : q = l := by omega
                have HOKR : Hid (okRs S.length R (z + 1)) := Lib.hid (HOS.out ⟨by rw [HLR.out, HLN.out, HN.out], by rw [HLR.out, ← hq']; exact hop⟩)
                clear hq' hop hni
                go_wp2_with fail
                go_roundw
                case rel => exact ⟨z + 1, by omega, by go_num, HOKR.out, HB3.out⟩
                case measure => simp [intOf]; omega
          · have t1 : ((l : Int) != (n : Int)) = true := by simp; omega
            have HLN := Lib.hid hln
            clear hln
            go_wp2_with fail
            go_quiet (fail)
            go_wp2_with fail
            go_ret
            exact ⟨(ret_bool (HBAD.out (fun h => HLN.out (by rw [← HLR.out, h.1, HN.out])))).symm, below_drewN HB2.out _⟩
        · have hz' : z = m := by omega
          have HOA : Hid (okRs S.length R R.length) := Lib.hid (by rw [HMM.out, ← hz']; exact hor)
          have HFIN : Hid (vldT S R = (inB n 1 10 && inB m 1 6)) := Lib.hid (by rw [vldT_fin HRI.out HOA.out, HN.out, HMM.out])
          clear hz' hor hnx HO HOA
          by_cases t : 1 ≤ n ∧ n ≤ 10
          · have t1 : inB n 1 10 = true := inB_true (by omega)
            go_wp2_with (go_at_call 21; refine (in_any _ _ _ _).mono ?_; rintro e w2 ⟨rfl, rfl⟩)
            go_ret
            exact ⟨ret_bool (by rw [HFIN.out, t1]; rfl), HB2.out⟩
          · have t1 : inB n 1 10 = false := inB_false (by omega)
            go_wp2_with (go_at_call 21; refine (in_any _ _ _ _).mono ?_; rintro e w2 ⟨rfl, rfl⟩)
            go_ret
            exact ⟨ret_bool (by rw [HFIN.out, t1]; rfl), HB2.out⟩
end Go.Proofs.YtnjhkmoinlikiaaDoor
