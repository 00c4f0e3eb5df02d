/-
  The model's helpers over a table that lies in a row of tables.
-/
import Derived.Test.YtnjhkmoinlikiaaDoorCtP
namespace Go.Proofs.YtnjhkmoinlikiaaDoor
open Go Go.RowKit
set_option linter.unusedVariables false

/-- Two cells of a block. -/
def AtP (w : World) (B o : Nat) (x y : Value) : Prop := w.cell? ⟨B, o, none⟩ = some x ∧ w.cell? ⟨B, o + 1, none⟩ = some y
theorem AtP.below {w w' : World} {B o : Nat} {x y : Value} (h : AtP w B o x y) (hb : Below w.heap.size w w') : AtP w' B o x y := ⟨cbelow hb h.1, cbelow hb h.2⟩
/-- A table lies at cell o of block B. -/
def AtO (w : World) (B o : Nat) (S : List Int) (R : List (List Int)) : Prop := ∃ x y, AtP w B o x y ∧ ReadsH w x S ∧ ReadsM w y R
theorem AtO.below {w w' : World} {B o : Nat} {S : List Int} {R : List (List Int)} (h : AtO w B o S R) (hb : Below w.heap.size w w') : AtO w' B o S R := by
  obtain ⟨x, y, h1, h2, h3⟩ := h
  exact ⟨x, y, h1.below hb, h2.below hb, h3.below hb⟩
theorem AtO.cells {w : World} {B o : Nat} {S : List Int} {R : List (List Int)} (h : AtO w B o S R) :
    ∃ a cap b c2, w.cell? ⟨B, o, none⟩ = some (.slice a S.length cap) ∧ w.cell? ⟨B, o + 1, none⟩ = some (.slice b R.length c2) ∧ (S ≠ [] → ∃ g, a = some ⟨g, 0, none⟩ ∧ CellsH w g S) ∧
      (R ≠ [] → ∃ g, b = some ⟨g, 0, none⟩ ∧ ∀ j, j < R.length → ∃ u, w.cell? ⟨g, j, none⟩ = some u ∧ ReadsH w u (R.getD j [])) := by
  obtain ⟨x, y, h1, ⟨a, cap, rfl, h2⟩, ⟨b, c2, rfl, h3⟩⟩ := h
  exact ⟨a, cap, b, c2, h1.1, h1.2, h2, h3⟩
theorem AtO.price {w : World} {B o : Nat} {S : List Int} {R : List (List Int)} (h : AtO w B o S R) (hv : vldT S R = true) {z : Nat} (hz : z < R.length) {q : Nat} (hq : q < S.length) :
    ∃ gb c2 gr cr, w.cell? ⟨B, o + 1, none⟩ = some (.slice (some ⟨gb, 0, none⟩) R.length c2) ∧ w.cell? ⟨gb, z, none⟩ = some (.slice (some ⟨gr, 0, none⟩) S.length cr) ∧ w.cell? ⟨gr, q, none⟩ = some (.int .i16 ((R.getD z []).getD q 0)) := by
  obtain ⟨a, cap, b, c2, c0, c1, _, hR⟩ := h.cells
  obtain ⟨_, _, _, hrs⟩ := vldT_spec hv
  obtain ⟨hl, _⟩ := hrs z hz
  obtain ⟨gb, rfl, hcr⟩ := hR (by intro e; rw [e] at hz; simp at hz)
  obtain ⟨u, d0, ⟨ar, cr, rfl, hra⟩⟩ := hcr z hz
  obtain ⟨gr, rfl, hc⟩ := hra (by intro e; rw [e] at hl; simp at hl; omega)
  rw [hl] at d0
  exact ⟨gb, c2, gr, cr, c1, d0, hc q (by omega)⟩

set_option maxHeartbeats 4000000 in
set_option maxRecDepth 100000 in
theorem sokO_any (B o : Nat) (x y : Value) (S : List Int) (R : List (List Int)) (w : World) (hb : AtP w B o x y) (hS : ReadsH w x S) (hR : ReadsM w y R) (hwS : All16 S) (hwR : AllR R)
    (hn : S.length ≤ 1048576) (hm : R.length ≤ 1048576) (hr : ∀ j, j < R.length → (R.getD j []).length ≤ 1048576) :
    Calls Tryd.prog 10 #[.pointer (some ⟨B, o, none⟩)] w fun e w' => e = .returned (.bool (vldT S R)) ∧ Below w.heap.size w w' := by
  obtain ⟨a, cap, rfl, ha⟩ := hS
  obtain ⟨b, c2, rfl, hbm⟩ := hR
  have HBK := Lib.hid hb
  have HA := Lib.hid ha
  have HM := Lib.hid hbm
  have HWS := Lib.hid hwS
  have HWR := Lib.hid hwR
  have HRL := Lib.hid hr
  obtain ⟨n, hn'⟩ : ∃ n, S.length = n := ⟨_, rfl⟩
  obtain ⟨m, hm'⟩ : ∃ m, R.length = m := ⟨_, rfl⟩
  rw [hn'] at HBK hn
  rw [hm'] at HBK hm
  have HN := Lib.hid hn'
  have HMM := Lib.hid hm'
  clear hb ha hbm hwS hwR hr hn' hm'
  go_enter Tryd.func10, Tryd.ntmps10
  go_wp2_with fail
  go_loopw [3] (fun i wr => ∃ k : Nat, k ≤ n ∧ i = .int .i64 k ∧ RiseT S k ∧ Below w.heap.size w wr) (fun i _ => n - (intOf i).toNat)
  case atStart => exact ⟨0, Nat.zero_le _, rfl, RiseT.zero S, Below.refl _ _⟩
  case round =>
    obtain ⟨k, hk, rfl, hr, hnx⟩ := hrel
    have HR := Lib.hid hr
    have HB := Lib.hid hnx
    have c0 := (HBK.out.below hnx).1
    have c1 := (HBK.out.below hnx).2
    by_cases hlt : k < n
    · obtain ⟨g, rfl, hc⟩ := HA.out (by intro e; have := HN.out; rw [e] at this; simp at this; omega)
      have cx := hc.below hnx k (by have := HN.out; omega)
      have hxw := HWS.out.get k (by have := HN.out; omega)
      obtain ⟨x, hxk⟩ : ∃ x, S.getD k 0 = x := ⟨_, rfl⟩
      rw [hxk] at cx hxw
      obtain ⟨hw1, hw2⟩ := hxw
      have HXK := Lib.hid hxk
      have hkl : (k : Int) < (n : Int) := by omega
      have hpn := hr.prev
      obtain ⟨p, hpk⟩ : ∃ p, prevH S k = p := ⟨_, rfl⟩
      rw [hpk] at hpn
      have HPK := Lib.hid hpk
      have HBAD : Hid (¬ (p < x ∧ 1 ≤ x ∧ x ≤ 2000) → vldT S R = false) := Lib.hid (fun h => vldT_steps (vldS_bad (k := k) (by have := HN.out; omega) (by unfold okS; rw [HPK.out, HXK.out]; exact h)))
      by_cases hin : 1 ≤ x ∧ x ≤ 2000
      · have t1 := inB_true hin
        by_cases hk0 : k = 0
        · subst hk0
          have HC := Lib.hid hc
          have HP0 : Hid (p = 0) := Lib.hid (by rw [← hpk]; rfl)
          clear hc hxk hr hnx hpn hpk
          go_wp2_with fail
          go_quiet ((go_at_call 21; exact Calls.quiet_of_same (in_any _ _ _ _)))
          go_wp2_with fail
          go_roundw
          case rel => exact ⟨0 + 1, by omega, by go_num, HR.out.succ (by unfold okS; rw [HXK.out, HPK.out, HP0.out]; omega), below_drewN HB.out _⟩
          case measure => simp [intOf]; omega
        · have cp := hc.below hnx (k - 1) (by have := HN.out; omega)
          have hpp : S.getD (k - 1) 0 = p := by rw [← hpk, prevH, if_neg hk0]
          rw [hpp] at cp
          have HC := Lib.hid hc
          have hk1 : 0 < k := by omega
          have hk1b : decide (0 < k) = true := decide_eq_true hk1
          have hkm : ((k : Int) - 1).toNat = k - 1 := by omega
          have hkm2 : (k : Int) - 1 < (n : Int) := by omega
          have hkm3 : 0 ≤ (k : Int) - 1 := by omega
          clear hc hxk hr hnx hpn hpk hpp
          by_cases hpx : p < x
          · have t2 : decide (x ≤ p) = false := by simp; omega
            go_wp2_with fail
            go_quiet ((go_at_call 21; exact Calls.quiet_of_same (in_any _ _ _ _)))
            go_wp2_with fail
            go_roundw
            case rel => exact ⟨k + 1, by omega, by go_num, HR.out.succ (by unfold okS; rw [HXK.out, HPK.out]; omega), below_drewN HB.out _⟩
            case measure => simp [intOf]; omega
          · have t2 : decide (x ≤ p) = true := by simp; omega
            go_wp2_with fail
            go_quiet ((go_at_call 21; exact Calls.quiet_of_same (in_any _ _ _ _)))
            go_wp2_with fail
            go_ret
            exact ⟨(ret_bool (HBAD.out (by omega))).symm, below_drewN HB.out _⟩
      · have t1 := inB_false hin
        have HC := Lib.hid hc
        clear hc hxk hr hnx hpn hpk
        go_wp2_with fail
        go_quiet ((go_at_call 21; exact Calls.quiet_of_same (in_any _ _ _ _)))
        go_wp2_with fail
        go_ret
        exact ⟨(ret_bool (HBAD.out (by omega))).symm, below_drewN HB.out _⟩
    · have hk' : k = n := by omega
      have HRI : Hid (RiseT S S.length) := Lib.hid (by rw [HN.out, ← hk']; exact hr)
      clear hk' hr hnx HR
      go_wp2_with fail
      obtain ⟨wo, rfl⟩ : ∃ wo : World, wo = wr := ⟨_, rfl⟩
      go_loopw [4] (fun i wr => ∃ z : Nat, z ≤ m ∧ i = .int .i64 z ∧ okRs S.length R z ∧ Below w.heap.size w wr) (fun i _ => m - (intOf i).toNat)
      case atStart => exact ⟨0, Nat.zero_le _, rfl, okRs.zero _ R, HB.out⟩
      case round =>
        obtain ⟨z, hz, rfl, hor, hnx⟩ := hrel
        have HO := Lib.hid hor
        have HB2 := Lib.hid hnx
        clear c0 c1
        have c0 := (HBK.out.below hnx).1
        have c1 := (HBK.out.below hnx).2
        by_cases hlt2 : z < m
        · obtain ⟨gb, rfl, hcr⟩ := HM.out (by intro e; have := HMM.out; rw [e] at this; simp at this; omega)
          obtain ⟨u, d0, r0⟩ := hcr z (by have := HMM.out; omega)
          have d1 : wr.cell? ⟨gb, z, none⟩ = some u := by rw [hnx.cell (p := ⟨gb, z, none⟩) (World.block_lt_of_cell? w _ d0)]; exact d0
          have D0 := Lib.hid d0
          have hwr16 := HWR.out z (by have := HMM.out; omega)
          have hrl := HRL.out z (by have := HMM.out; omega)
          have HBAD : Hid (¬ okR S.length (R.getD z []) → vldT S R = false) := Lib.hid (vldT_bad (by have := HMM.out; omega))
          have HOS : Hid (okR S.length (R.getD z []) → okRs S.length R (z + 1)) := Lib.hid HO.out.succ
          obtain ⟨r, hrz⟩ : ∃ r, R.getD z [] = r := ⟨_, rfl⟩
          rw [hrz] at r0 hwr16 hrl HBAD HOS
          obtain ⟨ar, cr, rfl, hra⟩ := r0
          obtain ⟨l, hl⟩ : ∃ l, r.length = l := ⟨_, rfl⟩
          rw [hl] at d1 hrl D0
          have HLR := Lib.hid hl
          have RA0 := Lib.hid hra
          have HW16 := Lib.hid hwr16
          clear hcr d0 hra hrz hnx hor hl hwr16
          by_cases hln : l = n
          · have t1 : ((l : Int) != (n : Int)) = false := by simp; omega
            have HLN := Lib.hid hln
            clear hln
            go_wp2_with fail
            go_quiet (fail)
            go_wp2_with fail
            rename_i nq _
            obtain ⟨wp, ep, HBP⟩ : ∃ wp : World, wr.drewN nq = wp ∧ Hid (Below w.heap.size w wp) := ⟨_, rfl, Lib.hid (below_drewN HB2.out _)⟩
            have HD : Hid (∀ (v : World), Below w.heap.size w v → v.cell? ⟨gb, z, none⟩ = some (.slice ar l cr)) := Lib.hid (fun v hv => by rw [hv.cell (p := ⟨gb, z, none⟩) (World.block_lt_of_cell? w _ D0.out)]; exact D0.out)
            have HRA2 : Hid (∀ v : World, Below w.heap.size w v → r ≠ [] → ∃ b, ar = some ⟨b, 0, none⟩ ∧ CellsH v b r) := Lib.hid (fun v hv hx => by
              obtain ⟨b, hb1, hb2⟩ := RA0.out hx
              exact ⟨b, hb1, hb2.below hv⟩)
            rw [ep]
            clear ep c0 c1 d1
            go_loopw [5] (fun i wi => ∃ q : Nat, q ≤ l ∧ i = .int .i64 q ∧ okP r q ∧ Below w.heap.size w wi) (fun i _ => l - (intOf i).toNat)
            case atStart => exact ⟨0, Nat.zero_le _, rfl, okP.zero _, HBP.out⟩
            case round =>
              rename_i wi _
              obtain ⟨q, hq, rfl, hop, hni⟩ := hrel
              have HOP := Lib.hid hop
              have HB3 := Lib.hid hni
              have c1 := (HBK.out.below hni).2
              have d1 := HD.out _ hni
              by_cases hlt3 : q < l
              · obtain ⟨gr, rfl, hcr⟩ := HRA2.out _ hni (by intro e; have := HLR.out; rw [e] at this; simp at this; omega)
                have cx := hcr q (by have := HLR.out; omega)
                have hxw := HW16.out.get q (by have := HLR.out; omega)
                have HOPS : Hid (0 ≤ r.getD q 0 ∧ r.getD q 0 ≤ 10000 → okP r (q + 1)) := Lib.hid HOP.out.succ
                have HBADP : Hid (¬ (0 ≤ r.getD q 0 ∧ r.getD q 0 ≤ 10000) → vldT S R = false) := Lib.hid (fun h => HBAD.out (fun k => h (k.2 q (by have := HLR.out; omega))))
                obtain ⟨x, hxq⟩ : ∃ x, r.getD q 0 = x := ⟨_, rfl⟩
                rw [hxq] at cx hxw HOPS HBADP
                obtain ⟨hw1, hw2⟩ := hxw
                have HCR := Lib.hid hcr
                clear hcr hxq hop hni
                by_cases hin : 0 ≤ x ∧ x ≤ 10000
                · have t2 := inB_true hin
                  go_wp2_with (go_at_call 21; refine (in_any _ _ _ _).mono ?_; rintro e w2 ⟨rfl, rfl⟩)
                  go_roundw
                  case rel => exact ⟨q + 1, by omega, by go_num, HOPS.out (by omega), HB3.out⟩
                  case measure => simp [intOf]; omega
                · have t2 := inB_false hin
                  go_wp2_with (go_at_call 21; refine (in_any _ _ _ _).mono ?_; rintro e w2 ⟨rfl, rfl⟩)
                  go_ret
                  exact ⟨(ret_bool (HBADP.out (by omega))).symm, HB3.out⟩
              · have hq' : q = l := by omega
                have HOKR : Hid (okRs S.length R (z + 1)) := Lib.hid (HOS.out ⟨by rw [HLR.out, HLN.out, HN.out], by rw [HLR.out, ← hq']; exact hop⟩)
                clear hq' hop hni
                go_wp2_with fail
                go_roundw
                case rel => exact ⟨z + 1, by omega, by go_num, HOKR.out, HB3.out⟩
                case measure => simp [intOf]; omega
          · have t1 : ((l : Int) != (n : Int)) = true := by simp; omega
            have HLN := Lib.hid hln
            clear hln
            go_wp2_with fail
            go_quiet (fail)
            go_wp2_with fail
            go_ret
            exact ⟨(ret_bool (HBAD.out (fun h => HLN.out (by rw [← HLR.out, h.1, HN.out])))).symm, below_drewN HB2.out _⟩
        · have hz' : z = m := by omega
          have HOA : Hid (okRs S.length R R.length) := Lib.hid (by rw [HMM.out, ← hz']; exact hor)
          have HFIN : Hid (vldT S R = (inB n 1 10 && inB m 1 6)) := Lib.hid (by rw [vldT_fin HRI.out HOA.out, HN.out, HMM.out])
          clear hz' hor hnx HO HOA
          by_cases t : 1 ≤ n ∧ n ≤ 10
          · have t1 : inB n 1 10 = true := inB_true (by omega)
            go_wp2_with (go_at_call 21; refine (in_any _ _ _ _).mono ?_; rintro e w2 ⟨rfl, rfl⟩)
            go_ret
            exact ⟨ret_bool (by rw [HFIN.out, t1]; rfl), HB2.out⟩
          · have t1 : inB n 1 10 = false := inB_false (by omega)
            go_wp2_with (go_at_call 21; refine (in_any _ _ _ _).mono ?_; rintro e w2 ⟨rfl, rfl⟩)
            go_ret
            exact ⟨ret_bool (by rw [HFIN.out, t1]; rfl), HB2.out⟩

theorem sokO_at (B o : Nat) (S : List Int) (R : List (List Int)) (w : World) (h : AtO w B o S R) (k : TabOk S R) :
    Calls Tryd.prog 10 #[.pointer (some ⟨B, o, none⟩)] w fun e w' => e = .returned (.bool (vldT S R)) ∧ Below w.heap.size w w' := by
  obtain ⟨x, y, h1, h2, h3⟩ := h
  exact sokO_any B o x y S R w h1 h2 h3 k.s16 k.r16 k.sl k.rl k.rr
theorem szoneO_any (B o : Nat) (S : List Int) (R : List (List Int)) (z : Int) (w : World) (h : AtO w B o S R) (hm : R.length ≤ 1048576) :
    Calls Tryd.prog 12 #[.pointer (some ⟨B, o, none⟩), .int .i64 z] w fun e w' => e = .returned (.bool (inB z 0 (R.length - 1))) ∧ w' = w := by
  obtain ⟨a, cap, b, c2, c0, c1, _, _⟩ := h.cells
  clear h
  obtain ⟨m, hm'⟩ : ∃ m, R.length = m := ⟨_, rfl⟩
  rw [hm'] at hm c1 ⊢
  clear hm'
  go_enter Tryd.func12, Tryd.ntmps12
  go_wp2_with fail
  refine (in_any z 0 ((m : Int) - 1) _).mono ?_
  rintro e w2 ⟨rfl, hw⟩
  subst hw
  go_wp2_with fail
  go_ret
  exact ⟨rfl, rfl⟩

set_option maxHeartbeats 2000000 in
set_option maxRecDepth 100000 in
theorem sstepO_any (B o : Nat) (S : List Int) (R : List (List Int)) (n : Int) (w : World) (h : AtO w B o S R) (k : TabOk S R) :
    Calls Tryd.prog 22 #[.pointer (some ⟨B, o, none⟩), .int .i64 n] w fun e w' => e = .returned (.int .i64 (stpI S n)) ∧ w = w' := by
  obtain ⟨a, cap, b, c2, c0, _, hS, _⟩ := h.cells
  have HS := Lib.hid hS
  have K := Lib.hid k
  obtain ⟨m, hm'⟩ : ∃ m, S.length = m := ⟨_, rfl⟩
  have hm : m ≤ 1048576 := by have := k.sl; omega
  rw [hm'] at c0
  have HM := Lib.hid hm'
  clear h k hS hm'
  go_enter Tryd.func22, Tryd.ntmps22
  go_wp2_with fail
  go_loop [5] (fun i => ∃ q : Nat, q ≤ m ∧ i = .int .i64 q ∧ lightTo S n q) (fun i => m - (intOf i).toNat)
  case atStart => exact ⟨0, Nat.zero_le _, rfl, lightTo.zero S n⟩
  case round =>
    obtain ⟨q, hq, rfl, hl⟩ := hrel
    have HL := Lib.hid hl
    by_cases hlt : q < m
    · obtain ⟨g, rfl, hc⟩ := HS.out (by intro e; have := HM.out; rw [e] at this; simp at this; omega)
      have cx := hc q (by have := HM.out; omega)
      have hxw := K.out.s16.get q (by have := HM.out; omega)
      have HST : Hid (S.getD q 0 < n → lightTo S n (q + 1)) := Lib.hid HL.out.succ
      have HEQ : Hid (n ≤ S.getD q 0 → stpI S n = q) := Lib.hid (fun h1 => by
        have e := stp_eq (by have := HM.out; omega) HL.out h1
        rw [stpI_yes (by rw [e]; have := HM.out; omega), e])
      obtain ⟨x, hx⟩ : ∃ x, S.getD q 0 = x := ⟨_, rfl⟩
      rw [hx] at cx hxw HST HEQ
      obtain ⟨hw1, hw2⟩ := hxw
      clear hc hx hl
      by_cases hn : n ≤ x
      · go_wp2_with fail
        go_ret
        exact ⟨(ret_int (HEQ.out hn)).symm, rfl⟩
      · go_wp2_with fail
        go_round
        case rel => exact ⟨q + 1, by omega, by go_num, HST.out (by omega)⟩
        case measure => simp [intOf]; omega
    · have hq' : q = m := by omega
      have HNO : Hid (stpI S n = -1) := Lib.hid (stpI_no (by rw [stp_none (by rw [HM.out, ← hq']; exact hl)]; omega))
      clear hq' hl
      go_wp2_with fail
      go_ret
      exact ⟨(ret_int HNO.out).symm, rfl⟩

set_option maxHeartbeats 2000000 in
set_option maxRecDepth 100000 in
theorem spriceO_any (B o : Nat) (S : List Int) (R : List (List Int)) (z n : Int) (w : World) (h : AtO w B o S R) (k : TabOk S R) (hv : vldT S R = true) (hz : inB z 0 (R.length - 1) = true) :
    Calls Tryd.prog 13 #[.pointer (some ⟨B, o, none⟩), .int .i64 z, .int .i64 n] w fun e w' => e = .returned (.int .i64 (prcI S R z n)) ∧ w = w' := by
  have hzb := inB_spec hz
  obtain ⟨zn, rfl⟩ : ∃ zn : Nat, z = zn := ⟨z.toNat, by omega⟩
  have H := Lib.hid h
  have K := Lib.hid k
  by_cases hs : stp S n < S.length
  · obtain ⟨gb, c2, gr, cr, c1, d1, x1⟩ := h.price hv (z := zn) (by omega) hs
    have hb := prc_bound hv hz hs
    have HP : Hid (prcI S R zn n = prc S R zn n) := Lib.hid (prcI_yes hs)
    have HS := Lib.hid hs
    have hp : (R.getD zn []).getD (stp S n) 0 = prc S R zn n := by simp [prc]
    rw [hp] at x1
    obtain ⟨p, hpp⟩ : ∃ p, prc S R zn n = p := ⟨_, rfl⟩
    rw [hpp] at x1 hb HP
    obtain ⟨hb1, hb2⟩ := hb
    obtain ⟨s, hss⟩ : ∃ s, stp S n = s := ⟨_, rfl⟩
    have HST : Hid (stpI S n = s) := Lib.hid (by rw [stpI_yes hs, hss])
    rw [hss] at x1 hs
    obtain ⟨m, hm⟩ : ∃ m, S.length = m := ⟨_, rfl⟩
    obtain ⟨r, hr⟩ : ∃ r, R.length = r := ⟨_, rfl⟩
    have hmb : m ≤ 1048576 := by have := k.sl; omega
    have hrb : r ≤ 1048576 := by have := k.rl; omega
    have hzr : zn < r := by omega
    rw [hm] at d1 hs
    rw [hr] at c1
    have t1 : decide ((s : Int) < 0) = false := by first | (simp; done) | (simp; omega)
    clear h k hv hz hp hpp hss hm hr hzb
    go_enter Tryd.func13, Tryd.ntmps13
    go_wp2_with fail
    refine (sstepO_any B o S R n _ H.out K.out).mono ?_
    rintro e w2 ⟨rfl, rfl⟩
    rw [HST.out]
    go_wp2_with fail
    go_ret
    exact ⟨(ret_int HP.out).symm, rfl⟩
  · have HS : Hid (stpI S n = -1) := Lib.hid (stpI_no hs)
    have HP : Hid (prcI S R zn n = -1) := Lib.hid (prcI_no hs)
    clear h k hv hz hs hzb
    go_enter Tryd.func13, Tryd.ntmps13
    go_wp2_with fail
    refine (sstepO_any B o S R n _ H.out K.out).mono ?_
    rintro e w2 ⟨rfl, rfl⟩
    rw [HS.out]
    go_wp2_with fail
    go_ret
    exact ⟨(ret_int HP.out).symm, rfl⟩

theorem ReadsTs.at_ {w w' : World} {v : Value} {ts : List Tb} {g : Nat} {u0 u1 : Value} {S : List Int} {R : List (List Int)} {j : Nat} (hb : Below w.heap.size w w') (c0 : w.cell? ⟨g, j * 2, none⟩ = some u0) (c1 : w.cell? ⟨g, j * 2 + 1, none⟩ = some u1) (h : ReadsT w (.agg #[u0, u1]) S R) : AtO w' g (j * 2) S R := by
  obtain ⟨x0, x1, e, r1, r2⟩ := h.below hb
  simp only [Value.agg.injEq, Array.mk.injEq, List.cons.injEq, and_true] at e
  obtain ⟨rfl, rfl⟩ := e
  exact ⟨u0, u1, ⟨cbelow hb c0, cbelow hb c1⟩, r1, r2⟩
end Go.Proofs.YtnjhkmoinlikiaaDoor
