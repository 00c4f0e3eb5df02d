/-
  The program's CheapestTable.
-/
import Derived.Test.YtnjhkmoinlikiaaDoorCtP
namespace Go.Proofs.YtnjhkmoinlikiaaDoor
open Go Go.RowKit
set_option linter.unusedVariables false

/-- A table of a row that is read. -/
theorem tabs_at {w w' : World} {g : Nat} {u0 u1 : Value} {S : List Int} {R : List (List Int)} {j : Nat} (hb : Below w.heap.size w w') (c0 : w.cell? ⟨g, j * 2, none⟩ = some u0) (c1 : w.cell? ⟨g, j * 2 + 1, none⟩ = some u1) (h : ReadsT w (.agg #[u0, u1]) S R) :
    ∃ a1 q1 a2 q2, w'.cell? ⟨g, j * 2, none⟩ = some (.slice a1 S.length q1) ∧ w'.cell? ⟨g, j * 2 + 1, none⟩ = some (.slice a2 R.length q2) ∧ ReadsT w' (.agg #[.slice a1 S.length q1, .slice a2 R.length q2]) S R := by
  have h2 := h.below hb
  obtain ⟨x0, x1, e, ⟨a1, q1, rfl, r1⟩, ⟨a2, q2, rfl, r2⟩⟩ := h2
  simp only [Value.agg.injEq, Array.mk.injEq, List.cons.injEq, and_true] at e
  obtain ⟨rfl, rfl⟩ := e
  exact ⟨a1, q1, a2, q2, cbelow hb c0, cbelow hb c1, ⟨_, _, rfl, ⟨a1, q1, rfl, r1⟩, ⟨a2, q2, rfl, r2⟩⟩⟩

set_option maxHeartbeats 1600000 in
set_option maxRecDepth 100000 in
theorem ict_any (v : Value) (ts : List Tb) (z n : Int) (w : World) (hv : ReadsTs w v ts) (hx : ts.length ≤ 1048576) (hok : TabsOk ts) (a3 : Addr)
    (g3 : w.cell? ⟨0, 0, none⟩ = some (.iface 61 (.pointer (some a3)))) :
    Calls Tryd.prog 7 #[v, .int .i64 z, .int .i64 n] w fun e w' => e = .returned (ctV z n ts) ∧ Below w.heap.size w w' := by
  obtain ⟨a, cap, rfl, ha⟩ := hv
  obtain ⟨len, hlen⟩ : ∃ n, ts.length = n := ⟨_, rfl⟩
  have HA := Lib.hid ha
  have HL := Lib.hid hlen
  have HOK := Lib.hid hok
  have HG := Lib.hid g3
  rw [hlen] at hx ⊢
  clear ha hlen hok g3
  obtain ⟨ans, hans⟩ : ∃ x, ctV z n ts = x := ⟨_, rfl⟩
  have HANS := Lib.hid hans
  rw [hans]
  clear hans
  go_enter Tryd.func7, Tryd.ntmps7
  go_wp2_with fail
  go_loopw [19] (fun i wr => ∃ k : Nat, k ≤ len ∧ i = .int .i64 k ∧ (∀ j, j < k → vldT (ts.getD j tb0).1 (ts.getD j tb0).2 = true) ∧ Below w.heap.size w wr) (fun i _ => len - (intOf i).toNat)
  case atStart => exact ⟨0, Nat.zero_le _, rfl, fun j hj => absurd hj (by omega), Below.refl _ _⟩
  case round =>
    obtain ⟨k, hk, rfl, hvk, hnx⟩ := hrel
    have HB := Lib.hid hnx
    have HVK := Lib.hid hvk
    have hwr : w.heap.size ≤ wr.heap.size := hnx.size
    by_cases hlt : k < len
    · have hkl : k < ts.length := by have := HL.out; omega
      obtain ⟨g, rfl, hc⟩ := HA.out (by intro e; rw [e] at hkl; simp at hkl)
      obtain ⟨u0, u1, c0, c1, r⟩ := hc k hkl
      obtain ⟨a1, q1, a2, q2, c0', c1', r'⟩ := tabs_at hnx c0 c1 r
      have HKO := Lib.hid (HOK.out k hkl)
      have HBAD : Hid (vldT (ts.getD k tb0).1 (ts.getD k tb0).2 = false → ans = .tuple #[.int .i64 0, .int .i64 0, .int .i64 1]) := Lib.hid (fun h => HANS.out.symm.trans (ctV_1 (allVT_bad hkl h)))
      have HSUC : Hid (vldT (ts.getD k tb0).1 (ts.getD k tb0).2 = true → ∀ j, j < k + 1 → vldT (ts.getD j tb0).1 (ts.getD j tb0).2 = true) := Lib.hid (fun h j hj => by
        by_cases e : j = k
        · subst e; exact h
        · exact HVK.out j (by omega))
      obtain ⟨t, ht⟩ : ∃ t, ts.getD k tb0 = t := ⟨_, rfl⟩
      rw [ht] at c0' c1' r' HKO HBAD HSUC
      obtain ⟨S, R⟩ := t
      simp only at c0' c1' r' HKO HBAD HSUC
      have HCALL := Lib.hid (fun W (hb : Below wr.heap.size wr W) => ivalT_ok _ S R W (r'.below hb) HKO.out)
      obtain ⟨s, hs⟩ : ∃ s, S.length = s := ⟨_, rfl⟩
      obtain ⟨m, hm⟩ : ∃ m, R.length = m := ⟨_, rfl⟩
      rw [hs] at c0'
      rw [hm] at c1'
      rw [hs, hm] at HCALL
      have hkl2 : (k : Int) < (len : Int) := by omega
      clear c0 c1 r r' hc ht hs hm hnx hvk hkl
      cases hvt : vldT S R with
      | true =>
        have HV := Lib.hid (HSUC.out hvt)
        rw [hvt] at HCALL
        clear hvt
        go_wp2_with fail
        refine (HCALL.out _ (by repeat (first | exact Below.refl _ _ | refine Below.setCell ?_ (by first | (simp; done) | (simp; omega)) _ | refine Below.alloc ?_ (by first | (simp; done) | (simp; omega) | omega) _))).mono ?_
        rintro e w2 ⟨rfl, b2⟩
        have HB2 : Hid (Below w.heap.size w w2) := Lib.hid ((HB.out.alloc hwr _).trans (b2.mono (by simp; omega)))
        clear b2
        go_wp2_with fail
        go_roundw
        case rel => exact ⟨k + 1, by omega, by go_num, HV.out, HB2.out⟩
        case measure => simp [intOf]; omega
      | false =>
        have HV := Lib.hid (HBAD.out hvt)
        rw [hvt] at HCALL
        clear hvt
        go_wp2_with fail
        refine (HCALL.out _ (by repeat (first | exact Below.refl _ _ | refine Below.setCell ?_ (by first | (simp; done) | (simp; omega)) _ | refine Below.alloc ?_ (by first | (simp; done) | (simp; omega) | omega) _))).mono ?_
        rintro e w2 ⟨rfl, b2⟩
        have HB2 : Hid (Below w.heap.size w w2) := Lib.hid ((HB.out.alloc hwr _).trans (b2.mono (by simp; omega)))
        clear b2
        go_wp2_with fail
        go_ret3
        exact ⟨by rw [HV.out]; rfl, HB2.out⟩
    · have hke : k = len := by omega
      subst hke
      have HAV : Hid (allVT ts = true) := Lib.hid (allVT_true (fun j hj => HVK.out j (by have := HL.out; omega)))
      clear hnx hvk
      by_cases hz : z < 0
      · have t1 : decide (z < 0) = true := decide_eq_true hz
        have HR := Lib.hid (HANS.out.symm.trans (ctV_2 (z := z) (n := n) HAV.out (.inl hz)))
        clear hz
        go_wp2_with fail
        go_ret3
        exact ⟨by rw [HR.out]; rfl, HB.out⟩
      · have t1 : decide (z < 0) = false := decide_eq_false hz
        by_cases hn1 : n < 1
        · have t2 : decide (n < 1) = true := decide_eq_true hn1
          have HR := Lib.hid (HANS.out.symm.trans (ctV_2 (z := z) (n := n) HAV.out (.inr (by unfold inB; exact decide_eq_false (by omega)))))
          clear hz hn1
          go_wp2_with fail
          go_ret3
          exact ⟨by rw [HR.out]; rfl, HB.out⟩
        · have t2 : decide (n < 1) = false := decide_eq_false hn1
          by_cases hn2 : 2000 < n
          · have t3 : decide (2000 < n) = true := decide_eq_true hn2
            have HR := Lib.hid (HANS.out.symm.trans (ctV_2 (z := z) (n := n) HAV.out (.inr (by unfold inB; exact decide_eq_false (by omega)))))
            clear hz hn1 hn2
            go_wp2_with fail
            go_ret3
            exact ⟨by rw [HR.out]; rfl, HB.out⟩
          · have t3 : decide (2000 < n) = false := decide_eq_false hn2
            have HNR : Hid (¬ (z < 0 ∨ inB n 1 2000 = false)) := Lib.hid (by
              rintro (h | h)
              · omega
              · unfold inB at h
                have := of_decide_eq_false h
                omega)
            by_cases hl6 : 6 < k
            · have t4 : decide ((6 : Int) < (k : Int)) = true := decide_eq_true (by omega)
              have HR := Lib.hid (HANS.out.symm.trans (ctV_3 (z := z) (n := n) HAV.out HNR.out (by have := HL.out; omega)))
              clear hz hn1 hn2
              go_wp2_with fail
              go_ret3
              exact ⟨by rw [HR.out]; rfl, HB.out⟩
            · have t4 : decide ((6 : Int) < (k : Int)) = false := decide_eq_false (by omega)
              have HN := Lib.hid hn1
              have HN2 := Lib.hid hn2
              clear hn1 hn2
              go_wp2_with fail
              go_loopw [11, 12, 42] (fun b l i wq => ∃ j : Nat, j ≤ k ∧ i = .int .i64 j ∧ b = .int .i64 (ctS z n ts j).1 ∧ l = .int .i64 (ctS z n ts j).2 ∧ Below w.heap.size w wq) (fun _ _ i _ => k - (intOf i).toNat)
              case atStart => exact ⟨0, Nat.zero_le _, rfl, rfl, rfl, HB.out⟩
              case round =>
                obtain ⟨j, hj, rfl, rfl, rfl, hnx⟩ := hrel
                have HBQ := Lib.hid hnx
                have hwq : w.heap.size ≤ wr.heap.size := hnx.size
                obtain ⟨⟨b0, b1⟩, ⟨l0, l1⟩⟩ := ctS_in (z := z) (n := n) HAV.out j (by have := HL.out; omega)
                by_cases hlt2 : j < k
                · have hjl : j < ts.length := by have := HL.out; omega
                  obtain ⟨g, rfl, hc⟩ := HA.out (by intro e; rw [e] at hjl; simp at hjl)
                  obtain ⟨u0, u1, c0, c1, r⟩ := hc j hjl
                  obtain ⟨a1, q1, a2, q2, c0', c1', r'⟩ := tabs_at hnx c0 c1 r
                  have HKO := Lib.hid (HOK.out j hjl)
                  have HVT := Lib.hid (allVT_get HAV.out hjl)
                  obtain ⟨t, ht⟩ : ∃ t, ts.getD j tb0 = t := ⟨_, rfl⟩
                  rw [ht] at c0' c1' r' HKO HVT
                  obtain ⟨S, R⟩ := t
                  simp only at c0' c1' r' HKO HVT
                  have HYES := Lib.hid (fun h1 h2 h3 => ctS_yes (z := z) (n := n) ht h1 h2 h3)
                  have HNO := Lib.hid (fun h => ctS_no (z := z) (n := n) ht h)
                  have HPB := Lib.hid (fun hz hs => prc_bound (z := z) (n := n) HVT.out hz hs)
                  have HRE := Lib.hid (fun W (hb : Below wr.heap.size wr W) => reaches_any _ S R z W (r'.below hb) HKO.out.rl)
                  have HG2 : Hid (∀ W, Below w.heap.size w W → W.cell? ⟨0, 0, none⟩ = some (.iface 61 (.pointer (some a3)))) := Lib.hid (fun W hb => cbelow hb HG.out)
                  have HPR := Lib.hid (fun hz W (hb : Below wr.heap.size wr W) => iprice_any _ S R z n W (r'.below hb) HKO.out HVT.out hz a3 (HG2.out W (HBQ.out.trans (hb.mono hwq))))
                  obtain ⟨st, hst⟩ : ∃ x, ctS z n ts j = x := ⟨_, rfl⟩
                  rw [hst] at b0 b1 l0 l1 HYES HNO ⊢
                  obtain ⟨bb, ll⟩ := st
                  simp only at b0 b1 l0 l1 HYES HNO ⊢
                  have hjk2 : (j : Int) < (k : Int) := by omega
                  have HRB : Hid (inB z 0 ((R.length : Int) - 1) = true ↔ z < (R.length : Int)) := Lib.hid (by unfold inB; rw [decide_eq_true_eq]; omega)
                  obtain ⟨s, hs⟩ : ∃ s, S.length = s := ⟨_, rfl⟩
                  obtain ⟨m, hm⟩ : ∃ m, R.length = m := ⟨_, rfl⟩
                  rw [hs] at c0'
                  rw [hm] at c1' HRB
                  rw [hs, hm] at HRE HPR HPB
                  rw [hm] at HYES HNO
                  have HSL := Lib.hid hs
                  clear c0 c1 r r' hc ht hs hm hnx hst hjl
                  by_cases hzm : z < (m : Int)
                  · have t5 : decide (z < (m : Int)) = true := decide_eq_true hzm
                    have hz2 := HRB.out.2 hzm
                    have HP1 := Lib.hid (HPR.out hz2)
                    have qb : Blk2 (wr.alloc (.cells #[.slice a1 s q1, .slice a2 m q2] 37)) wr.heap.size 37 (.slice a1 s q1) (.slice a2 m q2) := Blk2.new rfl _ _ _
                    have QB := Lib.hid qb
                    have HBA : Hid (Below wr.heap.size wr (wr.alloc (.cells #[.slice a1 s q1, .slice a2 m q2] 37))) := Lib.hid (allocB _ _)
                    have HREC := Lib.hid (HRE.out _ HBA.out)
                    rw [t5] at HREC
                    by_cases hstp : stp S n < s
                    · have hp := HPB.out hz2 hstp
                      have HV1 := Lib.hid (prcV_yes (z := z) (R := R) a3 (show stp S n < S.length by rw [HSL.out]; exact hstp))
                      have HY := Lib.hid (HYES.out hz2 (by rw [HSL.out]; exact hstp))
                      have HN3 : Hid (¬ (bb < 0 ∨ prc S R z n < ll) → ctS z n ts (j + 1) = (bb, ll)) := Lib.hid (fun h => HNO.out (fun h2 => h h2.2.2))
                      obtain ⟨pp, hpp⟩ : ∃ x, prc S R z n = x := ⟨_, rfl⟩
                      rw [hpp] at hp HV1 HY HN3
                      obtain ⟨p0, p1⟩ := hp
                      clear qb hzm hz2 hpp
                      by_cases hbb : bb < 0
                      · have t6 : decide (bb < 0) = true := decide_eq_true hbb
                        have HE : Hid (ctS z n ts (j + 1) = ((j : Int), pp)) := Lib.hid (HY.out (.inl hbb))
                        go_wp2_with fail
                        refine (HREC.out).mono ?_
                        rintro e w2 ⟨rfl, b2⟩
                        have HC2 := Lib.hid (blink HBA.out b2)
                        have q := QB.out.below b2
                        have g0 := q.at0
                        have g1 := q.at1
                        have hsz2 : wr.heap.size ≤ w2.heap.size := HC2.out.size
                        have HP2 := Lib.hid (HP1.out w2 HC2.out)
                        rw [HV1.out] at HP2
                        have HB2 : Hid (Below w.heap.size w w2) := Lib.hid (HBQ.out.trans (HC2.out.mono hwq))
                        clear q b2
                        go_wp2_with fail
                        refine (HP2.out).mono ?_
                        rintro e w3 ⟨rfl, b3⟩
                        have HB3 : Hid (Below w.heap.size w w3) := Lib.hid (blink HB2.out b3)
                        clear b3 g0 g1
                        go_wp2_with fail
                        go_roundw
                        case rel => exact ⟨j + 1, by omega, by go_num, by rw [HE.out], by rw [HE.out], HB3.out⟩
                        case measure => simp [intOf]; omega
                      · have t6 : decide (bb < 0) = false := decide_eq_false hbb
                        by_cases hpl : pp < ll
                        · have t7 : decide (pp < ll) = true := decide_eq_true hpl
                          have HE : Hid (ctS z n ts (j + 1) = ((j : Int), pp)) := Lib.hid (HY.out (.inr hpl))
                          go_wp2_with fail
                          refine (HREC.out).mono ?_
                          rintro e w2 ⟨rfl, b2⟩
                          have HC2 := Lib.hid (blink HBA.out b2)
                          have q := QB.out.below b2
                          have g0 := q.at0
                          have g1 := q.at1
                          have hsz2 : wr.heap.size ≤ w2.heap.size := HC2.out.size
                          have HP2 := Lib.hid (HP1.out w2 HC2.out)
                          rw [HV1.out] at HP2
                          have HB2 : Hid (Below w.heap.size w w2) := Lib.hid (HBQ.out.trans (HC2.out.mono hwq))
                          clear q b2
                          go_wp2_with fail
                          refine (HP2.out).mono ?_
                          rintro e w3 ⟨rfl, b3⟩
                          have HB3 : Hid (Below w.heap.size w w3) := Lib.hid (blink HB2.out b3)
                          clear b3 g0 g1
                          go_wp2_with fail
                          go_roundw
                          case rel => exact ⟨j + 1, by omega, by go_num, by rw [HE.out], by rw [HE.out], HB3.out⟩
                          case measure => simp [intOf]; omega
                        · have t7 : decide (pp < ll) = false := decide_eq_false hpl
                          have HE : Hid (ctS z n ts (j + 1) = (bb, ll)) := Lib.hid (HN3.out (by omega))
                          go_wp2_with fail
                          refine (HREC.out).mono ?_
                          rintro e w2 ⟨rfl, b2⟩
                          have HC2 := Lib.hid (blink HBA.out b2)
                          have q := QB.out.below b2
                          have g0 := q.at0
                          have g1 := q.at1
                          have hsz2 : wr.heap.size ≤ w2.heap.size := HC2.out.size
                          have HP2 := Lib.hid (HP1.out w2 HC2.out)
                          rw [HV1.out] at HP2
                          have HB2 : Hid (Below w.heap.size w w2) := Lib.hid (HBQ.out.trans (HC2.out.mono hwq))
                          clear q b2
                          go_wp2_with fail
                          refine (HP2.out).mono ?_
                          rintro e w3 ⟨rfl, b3⟩
                          have HB3 : Hid (Below w.heap.size w w3) := Lib.hid (blink HB2.out b3)
                          clear b3 g0 g1
                          go_wp2_with fail
                          go_roundw
                          case rel => exact ⟨j + 1, by omega, by go_num, by rw [HE.out], by rw [HE.out], HB3.out⟩
                          case measure => simp [intOf]; omega
                    · have HV1 := Lib.hid (prcV_no (z := z) (R := R) a3 (show ¬ stp S n < S.length by rw [HSL.out]; exact hstp))
                      have HE : Hid (ctS z n ts (j + 1) = (bb, ll)) := Lib.hid (HNO.out (fun h => hstp (by have := h.2.1; rw [HSL.out] at this; exact this)))
                      clear qb hzm hz2
                      go_wp2_with fail
                      refine (HREC.out).mono ?_
                      rintro e w2 ⟨rfl, b2⟩
                      have HC2 := Lib.hid (blink HBA.out b2)
                      have q := QB.out.below b2
                      have g0 := q.at0
                      have g1 := q.at1
                      have hsz2 : wr.heap.size ≤ w2.heap.size := HC2.out.size
                      have HP2 := Lib.hid (HP1.out w2 HC2.out)
                      rw [HV1.out] at HP2
                      have HB2 : Hid (Below w.heap.size w w2) := Lib.hid (HBQ.out.trans (HC2.out.mono hwq))
                      clear q b2
                      go_wp2_with fail
                      refine (HP2.out).mono ?_
                      rintro e w3 ⟨rfl, b3⟩
                      have HB3 : Hid (Below w.heap.size w w3) := Lib.hid (blink HB2.out b3)
                      clear b3 g0 g1
                      go_wp2_with fail
                      go_roundw
                      case rel => exact ⟨j + 1, by omega, by go_num, by rw [HE.out], by rw [HE.out], HB3.out⟩
                      case measure => simp [intOf]; omega
                  · have t5 : decide (z < (m : Int)) = false := decide_eq_false hzm
                    have HE : Hid (ctS z n ts (j + 1) = (bb, ll)) := Lib.hid (HNO.out (fun h => hzm (HRB.out.1 h.1)))
                    clear hzm
                    go_wp2_with fail
                    refine (HRE.out _ (by repeat (first | exact Below.refl _ _ | refine Below.setCell ?_ (by first | (simp; done) | (simp; omega)) _ | refine Below.alloc ?_ (by first | (simp; done) | (simp; omega) | omega) _))).mono ?_
                    rintro e w2 ⟨rfl, b2⟩
                    rw [t5]
                    have HB2 : Hid (Below w.heap.size w w2) := Lib.hid ((HBQ.out.alloc hwq _).trans (b2.mono (by simp; omega)))
                    clear b2
                    go_wp2_with fail
                    go_roundw
                    case rel => exact ⟨j + 1, by omega, by go_num, by rw [HE.out], by rw [HE.out], HB2.out⟩
                    case measure => simp [intOf]; omega
                · have hje : j = k := by omega
                  subst hje
                  have HSE : Hid (ctS z n ts ts.length = ctS z n ts j) := Lib.hid (by rw [HL.out])
                  by_cases hb0 : (ctS z n ts j).1 < 0
                  · have HR := Lib.hid (HANS.out.symm.trans (ctV_6 (z := z) (n := n) HAV.out HNR.out (by have := HL.out; omega) (by rw [HSE.out]; exact hb0)))
                    obtain ⟨st, hst⟩ : ∃ x, ctS z n ts j = x := ⟨_, rfl⟩
                    rw [hst] at hb0 ⊢
                    obtain ⟨bb, ll⟩ := st
                    simp only at hb0 ⊢
                    have t6 : decide (bb < 0) = true := decide_eq_true hb0
                    clear hst hb0 b0 b1 l0 l1 hnx
                    go_wp2_with fail
                    go_ret3
                    exact ⟨by rw [HR.out]; rfl, HBQ.out⟩
                  · have HR := Lib.hid (HANS.out.symm.trans (ctV_0 (z := z) (n := n) HAV.out HNR.out (by have := HL.out; omega) (by rw [HSE.out]; exact hb0)))
                    rw [HSE.out] at HR
                    obtain ⟨st, hst⟩ : ∃ x, ctS z n ts j = x := ⟨_, rfl⟩
                    rw [hst] at hb0 HR ⊢
                    obtain ⟨bb, ll⟩ := st
                    simp only at hb0 HR ⊢
                    have t6 : decide (bb < 0) = false := decide_eq_false hb0
                    clear hst hb0 b0 b1 l0 l1 hnx
                    go_wp2_with fail
                    go_ret3
                    exact ⟨by rw [HR.out]; rfl, HBQ.out⟩
end Go.Proofs.YtnjhkmoinlikiaaDoor
