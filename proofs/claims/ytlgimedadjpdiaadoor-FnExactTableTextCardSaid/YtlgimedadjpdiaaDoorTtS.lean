/-
  The model's text of a table.
-/
import Derived.Test.YtlgimedadjpdiaaDoorTtP
import Derived.Test.YtlgimedadjpdiaaDoorDecS
import Derived.Test.YtlgimedadjpdiaaDoorTabK
namespace Go.Proofs.YtlgimedadjpdiaaDoor
open Go Go.RowKit
set_option linter.unusedVariables false

set_option maxHeartbeats 2000000 in
set_option maxRecDepth 100000 in
theorem stxt_any (B : Nat) (T : TypeId) (x y : Value) (S : List Int) (R : List (List Int)) (w : World) (hb : Blk2 w B T x y) (hS : ReadsH w x S) (hR : ReadsM w y R) (hvf : vldT S R = true) :
    Calls Tryd.prog 64 #[.pointer (some ⟨B, 0, none⟩)] w fun e w' => e = .returned (.string (str (lnT S R R.length))) ∧ Below w.heap.size w w' := by
  obtain ⟨a, cap, rfl, ha⟩ := hS
  obtain ⟨b, c2, rfl, hbm⟩ := hR
  have HBK := Lib.hid hb
  have HA := Lib.hid ha
  have HM := Lib.hid hbm
  have HV := Lib.hid hvf
  have HOS := Lib.hid (vldT_okS hvf)
  obtain ⟨n, hn'⟩ : ∃ n, S.length = n := ⟨_, rfl⟩
  obtain ⟨m, hm'⟩ : ∃ m, R.length = m := ⟨_, rfl⟩
  have hn : n ≤ 10 := by rw [← hn']; exact HOS.out.2.1
  have hm : m ≤ 6 := by rw [← hm']; exact (vldT_spec hvf).2.2.1
  rw [hn'] at HBK
  rw [hm'] at HBK ⊢
  have HN := Lib.hid hn'
  have HMM := Lib.hid hm'
  obtain ⟨ws, hws⟩ : ∃ ws, rowW S = ws := ⟨_, rfl⟩
  have HWS := Lib.hid hws
  have HT0 : Hid (wJ ws n ++ [10] = lnT S R 0) := Lib.hid (by rw [← hws, ← hn']; rfl)
  have hlenS := HOS.out.wlen n (by rw [hn']; exact Nat.le_refl _)
  rw [hws] at hlenS
  clear hb ha hbm hvf hn' hm' hws
  go_enter Tryd.func64, Tryd.ntmps64
  go_wp2_with fail
  go_loopw [3, 4] (fun t i wr => ∃ k : Nat, k ≤ n ∧ i = .int .i64 k ∧ t = .string (str (wJ ws k)) ∧ Below w.heap.size w wr) (fun _ i _ => n - (intOf i).toNat)
  case atStart => exact ⟨0, Nat.zero_le _, rfl, rfl, Below.refl _ _⟩
  case round =>
    obtain ⟨k, hk, rfl, rfl, hnx⟩ := hrel
    have HB := Lib.hid hnx
    have hwr : w.heap.size ≤ wr.heap.size := hnx.size
    have c0 := (HBK.out.below hnx).at0
    by_cases hlt : k < n
    · obtain ⟨g, rfl, hc⟩ := HA.out HOS.out.ne
      have cx := hc.below hnx k (by have := HN.out; omega)
      obtain ⟨q, hq, hqb⟩ := HOS.out.nat (k := k) (by have := HN.out; omega)
      rw [hq] at cx
      have hlen := HOS.out.wlen k (by have := HN.out; omega)
      rw [HWS.out] at hlen
      have HWK : Hid (ws.getD k [] = dec q) := Lib.hid (by rw [← HWS.out, rowW_get S k (by have := HN.out; omega), hq, Int.toNat_natCast])
      have HS : Hid (wJ ws (k + 1) = (wJ ws k ++ if 0 < k then [32] else []) ++ ws.getD k []) := Lib.hid rfl
      have hkl : (k : Int) < (n : Int) := by omega
      have hkn : (0 : Int) ≤ (k : Int) := by omega
      obtain ⟨t, htq⟩ : ∃ t, wJ ws k = t := ⟨_, rfl⟩
      rw [htq] at HS hlen ⊢
      obtain ⟨s, hs⟩ : ∃ s, (t ++ if 0 < k then [32] else []) = s := ⟨_, rfl⟩
      have HST := Lib.hid hs
      rw [hs] at HS
      have hsl : s.length ≤ t.length + 1 := by
        rw [← hs, List.length_append]
        have h3 : (if 0 < k then [32] else [] : List UInt8).length ≤ 1 := by split <;> simp
        omega
      have lq := dec_len q
      obtain ⟨z, hzq⟩ : ∃ z, s ++ dec q = z := ⟨_, rfl⟩
      have HAZ : Hid (∀ W, (Op.stringOp .add (str s) (str (dec q))).run Tryd.prog W = .ok (.string (str z)) W) := Lib.hid (fun W => by rw [add_str _ _ W (by omega), hzq])
      have HSS : Hid (wJ ws (k + 1) = z) := Lib.hid (by rw [HS.out, HWK.out, hzq])
      clear hq hnx htq hs hzq hc
      rcases Decidable.em (0 < k) with hk0 | hk0
      · have hd : decide ((0 : Int) < (k : Int)) = true := decide_eq_true (by omega)
        have hadd : (Op.stringOp .add (str t) ⟨#[32]⟩).run Tryd.prog wr = .ok (.string (str s)) wr := by
          have h := add_str (P := Tryd.prog) t [32] wr (by simp only [List.length_cons, List.length_nil]; omega)
          rw [show t ++ [32] = s from by rw [← HST.out, if_pos hk0]] at h
          exact h
        go_wp2_with fail
        refine (sdec_any q (by omega) _).mono ?_
        rintro e w2 ⟨rfl, b2⟩
        have az := HAZ.out w2
        go_wp2_with fail
        go_roundw
        case rel => exact ⟨k + 1, by omega, by go_num, by rw [HSS.out], HB.out.trans (b2.mono hwr)⟩
        case measure => simp [intOf]; omega
      · have hd : decide ((0 : Int) < (k : Int)) = false := decide_eq_false (by omega)
        have hts : t = s := by rw [← HST.out, if_neg hk0, List.append_nil]
        subst hts
        go_wp2_with fail
        refine (sdec_any q (by omega) _).mono ?_
        rintro e w2 ⟨rfl, b2⟩
        have az := HAZ.out w2
        go_wp2_with fail
        go_roundw
        case rel => exact ⟨k + 1, by omega, by go_num, by rw [HSS.out], HB.out.trans (b2.mono hwr)⟩
        case measure => simp [intOf]; omega
    · have hk' : k = n := by omega
      have hadd : (Op.stringOp .add (str (wJ ws k)) ⟨#[10]⟩).run Tryd.prog wr = .ok (.string (str (lnT S R 0))) wr := by
        have h := add_str (P := Tryd.prog) (wJ ws n) [10] wr (by simp only [List.length_cons, List.length_nil]; omega)
        rw [HT0.out] at h
        rw [hk']
        exact h
      clear hk' hnx
      go_wp2_with fail
      clear c0 hadd
      obtain ⟨wo, rfl⟩ : ∃ wo : World, wo = wr := ⟨_, rfl⟩
      go_loopw [3, 5] (fun t i wr => ∃ z : Nat, z ≤ m ∧ i = .int .i64 z ∧ t = .string (str (lnT S R z)) ∧ Below w.heap.size w wr) (fun _ i _ => m - (intOf i).toNat)
      case atStart => exact ⟨0, Nat.zero_le _, rfl, rfl, HB.out⟩
      case round =>
        obtain ⟨z, hz, rfl, rfl, hnx⟩ := hrel
        have HB2 := Lib.hid hnx
        have c1 := (HBK.out.below hnx).at1
        by_cases hlt2 : z < m
        · obtain ⟨gb, rfl, hcr⟩ := HM.out (by intro e; have := HMM.out; rw [e] at this; simp at this; omega)
          obtain ⟨u, d0, r0⟩ := hcr z (by have := HMM.out; omega)
          have HOR := Lib.hid (vldT_okR HV.out (j := z) (by have := HMM.out; omega))
          have hlz := lnT_len HV.out z (by have := HMM.out; omega)
          have HLN : Hid (lnT S R (z + 1) = lnT S R z ++ lineB (R.getD z [])) := Lib.hid rfl
          obtain ⟨r, hrz⟩ : ∃ r, R.getD z [] = r := ⟨_, rfl⟩
          rw [hrz] at r0 HOR HLN
          obtain ⟨ar, cr, rfl, hra⟩ := r0
          obtain ⟨l, hl⟩ : ∃ l, r.length = l := ⟨_, rfl⟩
          rw [hl] at d0
          have HLR := Lib.hid hl
          have hl10 : l ≤ 10 := by rw [← hl]; exact HOR.out.2.1
          have HD : Hid (∀ (v : World), Below w.heap.size w v → v.cell? ⟨gb, z, none⟩ = some (.slice ar l cr)) := Lib.hid (fun v hv => by rw [hv.cell (p := ⟨gb, z, none⟩) (World.block_lt_of_cell? w _ d0)]; exact d0)
          have HRA2 : Hid (∃ b, ar = some ⟨b, 0, none⟩ ∧ ∀ v : World, Below w.heap.size w v → CellsH v b r) := Lib.hid (by
            obtain ⟨b, hb1, hb2⟩ := hra HOR.out.ne
            exact ⟨b, hb1, fun v hv => hb2.below hv⟩)
          obtain ⟨vs, hvs⟩ : ∃ vs, rowW r = vs := ⟨_, rfl⟩
          have HVS := Lib.hid hvs
          obtain ⟨t0, ht0⟩ : ∃ t, lnT S R z = t := ⟨_, rfl⟩
          rw [ht0] at HLN hlz ⊢
          have HEND : Hid (t0 ++ wJ vs l ++ [10] = lnT S R (z + 1)) := Lib.hid (by rw [HLN.out, ← hvs, ← hl, List.append_assoc]; rfl)
          have hlenR := HOR.out.wlen l (by rw [hl]; exact Nat.le_refl _)
          rw [hvs] at hlenR
          clear hcr d0 hra hrz hnx hl hvs ht0
          go_wp2_with fail
          obtain ⟨wp, rfl⟩ : ∃ wp : World, wp = wr := ⟨_, rfl⟩
          clear c1
          go_loopw [3, 6] (fun t i wr => ∃ q : Nat, q ≤ l ∧ i = .int .i64 q ∧ t = .string (str (t0 ++ wJ vs q)) ∧ Below w.heap.size w wr) (fun _ i _ => l - (intOf i).toNat)
          case atStart => exact ⟨0, Nat.zero_le _, rfl, by simp [wJ], HB2.out⟩
          case round =>
            obtain ⟨k, hk2, rfl, rfl, hni⟩ := hrel
            have HB3 := Lib.hid hni
            have hwr3 : w.heap.size ≤ wr.heap.size := hni.size
            have c1 := (HBK.out.below hni).at1
            have d1 := HD.out _ hni
            by_cases hlt3 : k < l
            · obtain ⟨g, rfl, hc⟩ := HRA2.out
              have cx := hc _ hni k (by have := HLR.out; omega)
              obtain ⟨q, hq, hqb⟩ := HOR.out.nat (k := k) (by have := HLR.out; omega)
              rw [hq] at cx
              have hlen := HOR.out.wlen k (by have := HLR.out; omega)
              rw [HVS.out] at hlen
              have HWK : Hid (vs.getD k [] = dec q) := Lib.hid (by rw [← HVS.out, rowW_get r k (by have := HLR.out; omega), hq, Int.toNat_natCast])
              have HS : Hid (t0 ++ wJ vs (k + 1) = ((t0 ++ wJ vs k) ++ if 0 < k then [32] else []) ++ vs.getD k []) := Lib.hid (by rw [wJ]; simp only [List.append_assoc])
              have hkl : (k : Int) < (l : Int) := by omega
              have hkn : (0 : Int) ≤ (k : Int) := by omega
              have hzl : (z : Int) < (m : Int) := by omega
              have hzn : (0 : Int) ≤ (z : Int) := by omega
              obtain ⟨t, htq⟩ : ∃ t, t0 ++ wJ vs k = t := ⟨_, rfl⟩
              have htl : t.length ≤ 900000 := by rw [← htq, List.length_append]; omega
              rw [htq] at HS ⊢
              obtain ⟨s, hs⟩ : ∃ s, (t ++ if 0 < k then [32] else []) = s := ⟨_, rfl⟩
              have HST := Lib.hid hs
              rw [hs] at HS
              have hsl : s.length ≤ t.length + 1 := by
                rw [← hs, List.length_append]
                have h3 : (if 0 < k then [32] else [] : List UInt8).length ≤ 1 := by split <;> simp
                omega
              have lq := dec_len q
              obtain ⟨o, hoq⟩ : ∃ o, s ++ dec q = o := ⟨_, rfl⟩
              have HAZ : Hid (∀ W, (Op.stringOp .add (str s) (str (dec q))).run Tryd.prog W = .ok (.string (str o)) W) := Lib.hid (fun W => by rw [add_str _ _ W (by omega), hoq])
              have HSS : Hid (t0 ++ wJ vs (k + 1) = o) := Lib.hid (by rw [HS.out, HWK.out, hoq])
              clear hq hni htq hs hoq hc
              rcases Decidable.em (0 < k) with hk0 | hk0
              · have hd : decide ((0 : Int) < (k : Int)) = true := decide_eq_true (by omega)
                have hadd : (Op.stringOp .add (str t) ⟨#[32]⟩).run Tryd.prog wr = .ok (.string (str s)) wr := by
                  have h := add_str (P := Tryd.prog) t [32] wr (by simp only [List.length_cons, List.length_nil]; omega)
                  rw [show t ++ [32] = s from by rw [← HST.out, if_pos hk0]] at h
                  exact h
                go_wp2_with fail
                refine (sdec_any q (by omega) _).mono ?_
                rintro e w2 ⟨rfl, b2⟩
                have az := HAZ.out w2
                go_wp2_with fail
                go_roundw
                case rel => exact ⟨k + 1, by omega, by go_num, by rw [HSS.out], HB3.out.trans (b2.mono hwr3)⟩
                case measure => simp [intOf]; omega
              · have hd : decide ((0 : Int) < (k : Int)) = false := decide_eq_false (by omega)
                have hts : t = s := by rw [← HST.out, if_neg hk0, List.append_nil]
                subst hts
                go_wp2_with fail
                refine (sdec_any q (by omega) _).mono ?_
                rintro e w2 ⟨rfl, b2⟩
                have az := HAZ.out w2
                go_wp2_with fail
                go_roundw
                case rel => exact ⟨k + 1, by omega, by go_num, by rw [HSS.out], HB3.out.trans (b2.mono hwr3)⟩
                case measure => simp [intOf]; omega
            · have hk' : k = l := by omega
              have hzl : (z : Int) < (m : Int) := by omega
              have hzn : (0 : Int) ≤ (z : Int) := by omega
              have hadd : (Op.stringOp .add (str (t0 ++ wJ vs k)) ⟨#[10]⟩).run Tryd.prog wr = .ok (.string (str (lnT S R (z + 1)))) wr := by
                have h := add_str (P := Tryd.prog) (t0 ++ wJ vs l) [10] wr (by simp only [List.length_append, List.length_cons, List.length_nil]; omega)
                rw [HEND.out] at h
                rw [hk']
                exact h
              clear hk' hni
              go_wp2_with fail
              go_roundw
              case rel => exact ⟨z + 1, by omega, by go_num, rfl, HB3.out⟩
              case measure => simp [intOf]; omega
        · have hz' : z = m := by omega
          have HE : Hid (lnT S R z = lnT S R m) := Lib.hid (by rw [hz'])
          clear hz' hnx
          go_wp2_with fail
          go_ret
          exact ⟨by rw [← HE.out]; rfl, HB2.out⟩

set_option maxHeartbeats 1000000 in
theorem stab_any (v : Value) (S : List Int) (R : List (List Int)) (w : World) (hv : ReadsT w v S R) (k : TabOk S R) :
    Calls Tryd.prog 32 #[v] w fun e w' => e = .returned (.string (str (textT S R))) ∧ Below w.heap.size w w' := by
  obtain ⟨v1, v2, rfl, h1, h2⟩ := hv
  have H1 := Lib.hid h1
  have H2 := Lib.hid h2
  have HK := Lib.hid k
  clear h1 h2 k
  have A0 : Hid (Below w.heap.size w (w.alloc (.cells #[v1, v2] 61))) := Lib.hid ((Below.refl _ _).alloc (Nat.le_refl _) _)
  have Q0 : Hid (Blk2 (w.alloc (.cells #[v1, v2] 61)) w.heap.size 61 v1 v2) := Lib.hid (Blk2.new rfl _ _ _)
  cases hvf : vldT S R
  · rw [textT_no hvf]
    have HV := Lib.hid hvf
    clear hvf
    go_enter Tryd.func32, Tryd.ntmps32
    go_wp2_with fail
    refine (sok_any w.heap.size _ _ _ S R _ Q0.out (H1.out.below A0.out) (H2.out.below A0.out) HK.out.s16 HK.out.r16 HK.out.sl HK.out.rl HK.out.rr).mono ?_
    rintro e w2 ⟨rfl, b2⟩
    rw [HV.out]
    go_wp2_with fail
    go_ret
    exact ⟨rfl, A0.out.trans (b2.mono (by simp))⟩
  · rw [textT_ok hvf]
    have HV := Lib.hid hvf
    clear hvf
    go_enter Tryd.func32, Tryd.ntmps32
    go_wp2_with fail
    refine (sok_any w.heap.size _ _ _ S R _ Q0.out (H1.out.below A0.out) (H2.out.below A0.out) HK.out.s16 HK.out.r16 HK.out.sl HK.out.rl HK.out.rr).mono ?_
    rintro e w2 ⟨rfl, b2⟩
    rw [HV.out]
    have C2 : Hid (Below w.heap.size w w2) := Lib.hid (A0.out.trans (b2.mono (by simp)))
    have Q2 : Hid (Blk2 w2 w.heap.size 61 v1 v2) := Lib.hid (Q0.out.below b2)
    clear b2
    go_wp2_with fail
    refine (stxt_any w.heap.size _ _ _ S R _ Q2.out (H1.out.below C2.out) (H2.out.below C2.out) HV.out).mono ?_
    rintro e w3 ⟨rfl, b3⟩
    go_wp2_with fail
    go_ret
    exact ⟨rfl, blink C2.out b3⟩
end Go.Proofs.YtlgimedadjpdiaaDoor
