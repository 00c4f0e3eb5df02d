/-
  The program's tracker: firstBad, and a tracker that is new.
-/
import Derived.Test.YtloelbaaolhlhaaTkI
namespace Go.Proofs.Ytloelbaaolhlhaa
open Go Go.RowKit
set_option linter.unusedVariables false

theorem not_map {w : World} {M n : Nat} {D : DataW Unit} (hm : ownsT w M n D) {b o : Nat} {v : Value} (hc : w.cell? ⟨b, o, none⟩ = some v) : b ≠ M := by
  rintro rfl
  obtain ⟨es, clock, hb, _⟩ := hm
  simp [World.cell?, hb] at hc
theorem ReadsSc.kept {w w' : World} {M n : Nat} {D : DataW Unit} {v : Value} {cs : List (Int × Int)} (h : ReadsSc w v cs) (hm : ownsT w M n D) (k : KeptBut M w w') : ReadsSc w' v cs := by
  obtain ⟨a, cap, rfl, h⟩ := h
  refine ⟨a, cap, rfl, fun hne => ?_⟩
  obtain ⟨b, e, hc⟩ := h hne
  refine ⟨b, e, fun i hi => ?_⟩
  obtain ⟨h0, h1⟩ := hc i hi
  exact ⟨k.cell (not_map hm h0) h0, k.cell (not_map hm h1) h1⟩
theorem ReadsLa.kept {w w' : World} {M n : Nat} {D : DataW Unit} {v : Value} {ps : List Lan} (h : ReadsLa w v ps) (hm : ownsT w M n D) (k : KeptBut M w w') : ReadsLa w' v ps := by
  obtain ⟨a, cap, rfl, h⟩ := h
  refine ⟨a, cap, rfl, fun hne => ?_⟩
  obtain ⟨b, e, hc⟩ := h hne
  refine ⟨b, e, fun i hi => ?_⟩
  obtain ⟨h0, h1, h2, h3⟩ := hc i hi
  exact ⟨k.cell (not_map hm h0) h0, k.cell (not_map hm h1) h1, k.cell (not_map hm h2) h2, k.cell (not_map hm h3) h3⟩
theorem KeptBut.drew {M : Nat} {w w' : World} (h : KeptBut M w w') : KeptBut M w w'.drew := ⟨h.1.drew, h.2.1, h.2.2⟩

set_option maxHeartbeats 1000000 in
set_option maxRecDepth 100000 in
theorem ibad_any (au : Option Addr) (cu M n : Nat) (D : DataW Unit) (sn yn : Nat) (ps : List Lan) (u : Value) (cs : List (Int × Int)) (w : World) (hok : okNet (sn : Int) (yn : Int) ps) (hpl : ps.length ≤ 1048576)
    (hr : ReadsLa w (.slice au (hopsL (yn : Int) ps).length cu) (hopsL (yn : Int) ps)) (hm : ownsT w M n D) (hk : KTr yn ps D) (hu : ReadsSc w u cs) (hsc : OkScTo (sn : Int) cs cs.length) (hx : cs.length ≤ 1000) (hn : n < 900000) :
    Calls Try.prog 75 #[trkV au (hopsL (yn : Int) ps).length cu M, u] w fun e w' => ∃ D', e = .returned (.int .i64 (badS (yn : Int) ps cs)) ∧ ownsT w' M (n + cs.length + 1) D' ∧ KTr yn ps D' ∧ KeptBut M w w' := by
  have HOK := Lib.hid hok
  have HSC := Lib.hid hsc
  obtain ⟨l, hl⟩ : ∃ l, (hopsL (yn : Int) ps).length = l := ⟨_, rfl⟩
  have HLN := Lib.hid hl
  have HR0 := Lib.hid hr
  rw [hl] at HR0 ⊢
  have hML : M < w.heap.size := hm.lt
  have b1 : Below w.heap.size w (w.alloc (.cells #[.slice au l cu, .map (some M)] 109)) := (Below.refl _ _).alloc (Nat.le_refl _) _
  have B1 : BlkA (w.alloc (.cells #[.slice au l cu, .map (some M)] 109)) w.heap.size 109 #[.slice au l cu, .map (some M)] := BlkA.new rfl _ _
  obtain ⟨W1, hW1⟩ : ∃ W, w.alloc (.cells #[.slice au l cu, .map (some M)] 109) = W := ⟨_, rfl⟩
  rw [hW1] at b1 B1
  have HW1 := Lib.hid hW1
  have HM1 : Hid (ownsT W1 M n D) := Lib.hid (ownT_below hm b1 hML)
  have HR1 := Lib.hid (HR0.out.below b1)
  have HU1 := Lib.hid (hu.below b1)
  have HK1 := Lib.hid (KeptBut.of_below b1 (Nat.le_of_lt hML))
  have HKD := Lib.hid hk
  have HT1 := Lib.hid B1
  have hMw : w.heap.size ≠ M := by omega
  obtain ⟨a, cap, rfl, _⟩ := hu
  have HA : Hid (cs ≠ [] → ∃ b, a = some ⟨b, 0, none⟩ ∧ CellsSc W1 b cs) := Lib.hid (by
    obtain ⟨a', cap', e, h⟩ := HU1.out
    injection e with e1 e2 e3
    subst e1
    exact h)
  obtain ⟨m, hmm⟩ : ∃ m, cs.length = m := ⟨_, rfl⟩
  have HM := Lib.hid hmm
  have HBS : Hid (badS (yn : Int) ps cs = badI (goB (yn : Int) ps cs) m) := Lib.hid (by unfold badS; rw [hmm])
  rw [hmm] at hx ⊢
  clear hok hsc hl hr hm hk hW1 b1 B1 hmm HU1
  go_enter Try.func75, Try.ntmps75
  go_wp2_with fail
  rw [HW1.out]
  go_loopw [5] (fun i wr => ∃ (k : Nat) (D' : DataW Unit), 1 ≤ k ∧ (k ≤ m ∨ k = 1) ∧ i = .int .i64 k ∧ okTo (goB (yn : Int) ps cs) k ∧ ownsT wr M (n + k) D' ∧ KTr yn ps D' ∧ KeptBut M W1 wr) (fun i _ => m - (intOf i).toNat)
  case atStart => exact ⟨1, D, Nat.le_refl _, .inr rfl, rfl, okTo.one _, HM1.out.mono (by omega), HKD.out, KeptBut.refl _ _⟩
  case round =>
    obtain ⟨k, D', hk1, hk, rfl, hok, hown, hkt, hkp⟩ := hrel
    have HO := Lib.hid hok
    have HOW := Lib.hid hown
    have HKT := Lib.hid hkt
    have HKP := Lib.hid hkp
    by_cases hlt : k < m
    · have hkl : (k : Int) < (m : Int) := by omega
      obtain ⟨g, rfl, hc⟩ := HA.out (by intro e; have := HM.out; rw [e] at this; simp at this; omega)
      obtain ⟨j, hjk⟩ : ∃ j, k = j + 1 := ⟨k - 1, by omega⟩
      obtain ⟨p0, p1⟩ := hc j (by rw [HM.out]; omega)
      obtain ⟨q0, q1⟩ := hc k (by rw [HM.out]; exact hlt)
      have hgM : g ≠ M := not_map HM1.out p0
      have hst8 := HOK.out.1.2
      obtain ⟨s0, h0, hp, hs0, hh0⟩ := ok_nats (i := j) hst8 HSC.out (by rw [HM.out]; omega)
      obtain ⟨s1, h1, hq, hs1, hh1⟩ := ok_nats (i := k) hst8 HSC.out (by rw [HM.out]; exact hlt)
      have HG : Hid (goB (yn : Int) ps cs k = arrB ps (-1) (yn : Int) (s0 : Int) (h0 : Int) (s1 : Int) (h1 : Int)) := Lib.hid (by unfold goB; rw [show k - 1 = j by omega, hp, hq])
      rw [hp] at p0 p1
      rw [hq] at q0 q1
      simp only at p0 p1 q0 q1
      have e1 : (k : Int) - 1 = (j : Int) := by omega
      have hw1 : IntKind.i64.wrap ((k : Int) - 1) = (j : Int) := by rw [e1]; exact IntWalk.i64_in _ (by omega)
      have hj0 : (0 : Int) ≤ (j : Int) := by omega
      have hjm : (j : Int) < (m : Int) := by omega
      have hj0' : (0 : Int) ≤ (k : Int) := by omega
      have hjn : j < m := by omega
      clear hjk e1
      have hkd := hkp.drew
      have hod : ownsT wr.drew M (n + k) D' := hown.drew
      have SD : wr.drew.cell? ⟨w.heap.size, 0, none⟩ = some (.slice au l cu) ∧ wr.drew.cell? ⟨w.heap.size, 1, none⟩ = some (.map (some M)) ∧ wr.drew.cell? ⟨g, j * 2, none⟩ = some (.int .i8 (s0 : Int)) ∧ wr.drew.cell? ⟨g, j * 2 + 1, none⟩ = some (.int .i16 (h0 : Int)) ∧ wr.drew.cell? ⟨g, k * 2, none⟩ = some (.int .i8 (s1 : Int)) ∧ wr.drew.cell? ⟨g, k * 2 + 1, none⟩ = some (.int .i16 (h1 : Int)) := ⟨hkd.cell hMw (HT1.out.at 0), hkd.cell hMw (HT1.out.at 1), hkd.cell hgM p0, hkd.cell hgM p1, hkd.cell hgM q0, hkd.cell hgM q1⟩
      obtain ⟨gv, hgv⟩ : ∃ gv, goB (yn : Int) ps cs k = gv := ⟨_, rfl⟩
      have HGV := Lib.hid hgv
      have HCALL : Hid (Calls Try.prog 91 #[trkV au l cu M, scv s0 h0, scv s1 h1] wr.drew fun e w' => ∃ D'', e = .returned (.bool gv) ∧ ownsT w' M (n + k + 1) D'' ∧ KTr yn ps D'' ∧ KeptBut M wr.drew w') := Lib.hid (by
        have h := icango_any au cu M (n + k) D' sn yn ps s0 h0 s1 h1 wr.drew HOK.out hpl hs0 hh0 hs1 hh1 (by rw [HLN.out]; exact HR1.out.kept HM1.out hkd) hod HKT.out (by omega)
        rw [HLN.out, ← HG.out, hgv] at h
        exact h)
      have HKDR := Lib.hid hkd
      clear p0 p1 q0 q1 hp hq hc hkp hok hgv hown hkt hkd hod
      go_wp2_with fail
      go_region_held3 (fun v => v.cell? ⟨w.heap.size, 0, none⟩ = some (.slice au l cu) ∧ v.cell? ⟨w.heap.size, 1, none⟩ = some (.map (some M)) ∧ v.cell? ⟨g, j * 2, none⟩ = some (.int .i8 (s0 : Int)) ∧ v.cell? ⟨g, j * 2 + 1, none⟩ = some (.int .i16 (h0 : Int)) ∧ v.cell? ⟨g, k * 2, none⟩ = some (.int .i8 (s1 : Int)) ∧ v.cell? ⟨g, k * 2 + 1, none⟩ = some (.int .i16 (h1 : Int))) (first | (with_reducible exact SD) | (with_reducible exact zS))
        (first | (go_at_call 91; (with_reducible refine HCALL.out.mono ?_); rintro e w5 ⟨D5, rfl, o5, t5, k5⟩; have zS : w5.cell? ⟨w.heap.size, 0, none⟩ = some (.slice au l cu) ∧ w5.cell? ⟨w.heap.size, 1, none⟩ = some (.map (some M)) ∧ w5.cell? ⟨g, j * 2, none⟩ = some (.int .i8 (s0 : Int)) ∧ w5.cell? ⟨g, j * 2 + 1, none⟩ = some (.int .i16 (h0 : Int)) ∧ w5.cell? ⟨g, k * 2, none⟩ = some (.int .i8 (s1 : Int)) ∧ w5.cell? ⟨g, k * 2 + 1, none⟩ = some (.int .i16 (h1 : Int)) := ⟨k5.cell hMw SD.1, k5.cell hMw SD.2.1, k5.cell hgM SD.2.2.1, k5.cell hgM SD.2.2.2.1, k5.cell hgM SD.2.2.2.2.1, k5.cell hgM SD.2.2.2.2.2⟩; have HO5 := Lib.hid o5; have HT5 := Lib.hid t5; have HK5 := Lib.hid (HKDR.out.trans k5); clear o5 t5 k5))
      clear SD zS
      cases gv
      · have HR : Hid (badS (yn : Int) ps cs = (k : Int)) := Lib.hid (by rw [HBS.out]; exact badI_at (by omega) hlt HO.out HGV.out)
        go_wp2_with fail
        go_ret
        exact ⟨D5, ret_int HR.out.symm, HO5.out.mono (by omega), HT5.out, HK1.out.trans HK5.out⟩
      · go_wp2_with fail
        go_roundw
        case rel => exact ⟨k + 1, D5, by omega, by omega, by go_num, HO.out.succ HGV.out, HO5.out, HT5.out, HK5.out⟩
        case measure => simp [intOf]; omega
    · have HR : Hid (badS (yn : Int) ps cs = -1) := Lib.hid (by rw [HBS.out]; exact badI_none (by omega) hok)
      have HE : Hid (ownsT wr M (n + m + 1) D') := Lib.hid (hown.mono (by omega))
      clear hown hok hkt hkp
      go_wp2_with fail
      go_ret
      exact ⟨D', ret_int HR.out.symm, HE.out, HKT.out, HK1.out.trans HKP.out⟩
end Go.Proofs.Ytloelbaaolhlhaa
