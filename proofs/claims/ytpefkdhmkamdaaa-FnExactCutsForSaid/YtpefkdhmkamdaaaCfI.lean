/-
  CutsFor: the program's, with its map of known cuts.
-/
import Derived.Test.YtpefkdhmkamdaaaCfS
import Derived.Carry
namespace Go.Proofs.Ytpefkdhmkamdaaa
open Go Go.RowKit
set_option linter.unusedVariables false

theorem zero_i64C (w : World) : (zeroValue 2).run Try.prog w = .ok (.int .i64 0) w := by kernel_rfl
theorem ownsMap_belowC {w w' : World} {P : Program} {k : TypeId} {R : Value → Option (DataW Unit × List MemPlace)} {b n m : Nat} {D : DataW Unit} (h : w.ownsMap P k R b n D) (hb : Below m w w') (hlt : b < m) : w'.ownsMap P k R b n D := by
  obtain ⟨es, clock, hb', rest⟩ := h
  exact ⟨es, clock, by rw [hb.block b hlt]; exact hb', rest⟩
theorem ownsMap_setC {w : World} {P : Program} {k : TypeId} {R : Value → Option (DataW Unit × List MemPlace)} {b n : Nat} {D : DataW Unit} (h : w.ownsMap P k R b n D) {a : Addr} (u : Value) (hne : b ≠ a.block) : (w.setCell a u).ownsMap P k R b n D := by
  obtain ⟨es, clock, hb', rest⟩ := h
  exact ⟨es, clock, by rw [heap_setCell_other w a b u hne]; exact hb', rest⟩
theorem row_keepC {B n k m : Nat} {T : TypeId} {w w' : World} {v : Value} {xs : List Value} (h : w.ownsRow B T n v k xs) (hb : Below m w w') (hm : ∀ g, v.ownBlock = some g → g < m) : w'.ownsRow B T n v k xs := by
  refine ⟨h.1, ?_⟩
  rcases h.2 with hn | ⟨g, cap, cur, rfl, hB, hg, rest⟩
  · exact .inl hn
  · exact .inr ⟨g, cap, cur, rfl, hB, by rw [hb.block g (hm g rfl)]; exact hg, rest⟩
/-- What a round leaves: the map and the row of cuts. -/
theorem cf_round {ps : List Tri} {wide : Int} {k m B1 B2 : Nat} {wb wr W W5 : World} {D : DataW Unit} (hpm : ps.length = m) (hkm : k < m) (h12 : B1 < B2)
    (hrow : wr.ownsRow B1 2 1 (.slice (some ⟨B1, 0, none⟩) m m) m ((rowK ps wide k).map (Value.int .i64))) (hB2 : B2 < wr.heap.size) (hW : Below wr.heap.size wr W) (hbel : Below B1 wb wr)
    (hmap : W5.ownsMap Try.prog 27 R1 B2 (k + 1) D) (hg : W.grownBy W5 (some B2)) :
    (W5.setCell ⟨B1, k, none⟩ (.int .i64 (cutAt ps wide k))).ownsRow B1 2 1 (.slice (some ⟨B1, 0, none⟩) m m) m ((rowK ps wide (k + 1)).map (Value.int .i64)) ∧
    (W5.setCell ⟨B1, k, none⟩ (.int .i64 (cutAt ps wide k))).ownsMap Try.prog 27 R1 B2 (k + 1) D ∧ Below B1 wb (W5.setCell ⟨B1, k, none⟩ (.int .i64 (cutAt ps wide k))) ∧ W5.cell? ⟨B1, k, none⟩ = some (.int .i64 ((rowK ps wide k).getD k 0)) ∧ W5.frozen? ⟨B1, k, none⟩ = false := by
  have hlt := (hrow.lt B1 rfl).2
  have r1 := row_keepC hrow hW (fun g e => (hrow.lt g e).2)
  have r2 : W5.ownsRow B1 2 1 (.slice (some ⟨B1, 0, none⟩) m m) m ((rowK ps wide k).map (Value.int .i64)) := World.ownsRow.kept r1 hg (.inr (by simp [Value.ownBlock]; omega))
  have r3 := (r2.stored k (.int .i64 (cutAt ps wide k))).1
  rw [← List.map_set, rowK_set] at r3
  refine ⟨r3, ownsMap_setC hmap _ (by simp only; omega), (((hbel.trans (hW.mono (by omega))).grown hg (by have := hW.size; omega) (fun j e => by simp at e; omega)).setCell (Nat.le_refl _) _), ?_, r2.frozenAt k⟩
  have hl : (rowK ps wide k).length = m := by rw [rowK_len, hpm]
  rw [r2.cellAt k (by omega)]
  simp [List.getD, hl, hkm]

set_option maxHeartbeats 8000000 in
set_option maxRecDepth 100000 in
theorem icuts_ok (v : Value) (ps : List Tri) (wide : Int) (w : World) (hv : ReadsB w v ps) (hfit : All8 ps) (hx : ps.length ≤ 1048576) (g : vldX ps = true) (g2 : inB wide 1 400 = true) :
    Calls Try.prog 11 #[v, .int .i64 wide] w fun e w' => ∃ v', e = .returned (.tuple #[v', .int .i64 (cfC ps wide)]) ∧ OwnI w.heap.size w' v' (cfR ps wide) ∧ Below w.heap.size w w' := by
  obtain ⟨i0, hi, hz0, hz1, hz2⟩ := info_parts info_i64
  obtain ⟨L, hL, hinj⟩ := box_names
  have HKL := Lib.hid hL
  have HIN := Lib.hid hinj
  have HV := Lib.hid hv
  obtain ⟨a, b, cap, rfl, ha, hc⟩ := cells_orB hv
  have HG := Lib.hid g
  have HG2 := Lib.hid g2
  obtain ⟨hm, hok⟩ := vldX_spec g
  have HO := Lib.hid hok
  have H6 : Hid (∀ k, k < ps.length → cutAt ps wide k < 0 → cfC ps wide = 6 ∧ cfR ps wide = []) := Lib.hid (fun k hk hf => cf_6 g g2 hk hf)
  have H0 := Lib.hid (fun h => cf_0 (ps := ps) (wide := wide) g g2 h)
  obtain ⟨m, hm'⟩ : ∃ m, ps.length = m := ⟨_, rfl⟩
  have HPM := Lib.hid hm'
  rw [hm'] at hm ha HV ⊢
  have HA := Lib.hid ha
  have HC := Lib.hid hc
  have hmm := @run_makeMap Try.prog
  clear g g2 hok hm' ha hc hv hL hinj
  go_enter Try.func11, Try.ntmps11
  go_wp2_with fail
  refine (ivldX_any _ ps _ HV.out hfit hx).mono ?_
  rintro e w1 ⟨rfl, q1⟩
  rw [HG.out]
  have HQ := Lib.hid q1
  have hs01 := q1.size
  clear q1
  go_wp2_with (first | (go_at_call 22; refine (iroll_any _ _).mono ?_; rintro e w2 ⟨rfl, hw2⟩; rw [hw2, HG2.out]; clear hw2 w2) | (refine wpList_make_full _ rfl _ _ 32 rfl w1.heap.size 2 i0 (.int .i64 0) 1 Try.underlying32 hi hz0 hz1 .i64 .i64 _ _ m rfl rfl rfl rfl (by rw [hz2]; omega) (by unfold maxLen; omega) (Nat.le_refl _) ?_; intro w2 hown1 hg1))
  have hs12 : w1.heap.size < w2.heap.size := (hown1.lt w1.heap.size rfl).2
  have HB12 : Hid (Below w1.heap.size w1 w2) := Lib.hid ((Below.refl _ _).grown hg1 (Nat.le_refl _) (fun k hk => by simp at hk))
  have HROW : Hid (w2.ownsRow w1.heap.size 2 1 (.slice (some ⟨w1.heap.size, 0, none⟩) m m) m ((rowK ps wide 0).map (Value.int .i64))) := Lib.hid (by
    rw [rowK_zero, HPM.out, List.map_replicate]
    have e : (madeCells (Value.int .i64 0).cells (m * 1)).toList = List.replicate m (.int .i64 0) := by rw [Nat.mul_one]; exact toList_madeCells_one _ _
    rw [← e]
    exact hown1)
  clear hown1 hg1 hmm
  go_loopw [25] (fun i wr => ∃ (k : Nat) (D : DataW Unit), k ≤ m ∧ i = .int .i64 k ∧ wr.ownsRow w1.heap.size 2 1 (.slice (some ⟨w1.heap.size, 0, none⟩) m m) m ((rowK ps wide k).map (Value.int .i64)) ∧ wr.ownsMap Try.prog 27 R1 w2.heap.size k D ∧ KCut L wide D ∧ hasTo ps wide k ∧ Below w1.heap.size w1 wr) (fun i _ => m - (intOf i).toNat)
  case atStart => exact ⟨0, .map [], Nat.zero_le _, rfl, row_keepC HROW.out ((Below.refl w2.heap.size _).alloc (Nat.le_refl _) _) (fun g e => (HROW.out.lt g e).2), World.ownsMap_made w2 _ _ _, KCut.zero L wide, fun i hi => absurd hi (by omega), HB12.out.alloc (by omega) _⟩
  case round =>
    obtain ⟨k, D, hk, rfl, hrow, hmap, hkc, hh, hww⟩ := hrel
    have HB := Lib.hid hww
    have HH := Lib.hid hh
    have HRW := Lib.hid hrow
    have HMP := Lib.hid hmap
    have HKC := Lib.hid hkc
    have hwr : w1.heap.size ≤ wr.heap.size := hww.size
    have hmb : w2.heap.size < wr.heap.size := hmap.lt
    by_cases hlt : k < m
    · obtain rfl := HA.out (by omega)
      have hkp : k < ps.length := by have := HPM.out; omega
      obtain ⟨c0, c1, c2⟩ := ((HC.out.below HQ.out).below hww) k hkp
      have hokk := HO.out k hkp
      unfold okX at hokk
      have hcin := cutB_in (wide := wide) hokk
      have H6' := H6.out k hkp
      have HHS : 0 ≤ cutAt ps wide k → hasTo ps wide (k + 1) := HH.out.succ
      have hcut : cutAt ps wide k = cutB (ps.getD k (0, 0, 0)).1 (ps.getD k (0, 0, 0)).2.1 (ps.getD k (0, 0, 0)).2.2 wide := rfl
      rw [← hcut] at hcin
      obtain ⟨q, hq⟩ : ∃ q, ps.getD k (0, 0, 0) = q := ⟨_, rfl⟩
      rw [hq] at c0 c1 c2 hokk hcut
      obtain ⟨x0, x1, x2⟩ := q
      simp only at c0 c1 c2 hokk hcut
      have hkok := kind_ok hokk
      have hkcut := kind_cut x0 x1 x2 wide
      rw [← hcut] at hkcut
      obtain ⟨s0, hs0⟩ : ∃ s, hi3 x0 x1 x2 = s := ⟨_, rfl⟩
      obtain ⟨s1, hs1⟩ : ∃ s, mi3 x0 x1 x2 = s := ⟨_, rfl⟩
      obtain ⟨s2, hs2⟩ : ∃ s, lo3 x0 x1 x2 = s := ⟨_, rfl⟩
      have HSRT : Hid (∀ W, Calls Try.prog 23 #[.agg #[.int .i8 x0, .int .i8 x1, .int .i8 x2]] W fun e w' => e = .returned (.agg #[.int .i8 s0, .int .i8 s1, .int .i8 s2]) ∧ Below W.heap.size W w') := Lib.hid (fun W => by rw [← hs0, ← hs1, ← hs2]; exact isorted_any x0 x1 x2 W)
      rw [hs0, hs1, hs2] at hkok hkcut
      obtain ⟨cv, hcv⟩ : ∃ q, cutAt ps wide k = q := ⟨_, rfl⟩
      rw [hcv] at hcin H6' HHS hkcut
      obtain ⟨cl, cu⟩ := hcin
      have HCV := Lib.hid hcv
      have HKO := Lib.hid hkok
      have hkey := HKL.out (s0, s1, s2) hkok
      unfold boxV at hkey
      simp only at hkey
      have HKEY := Lib.hid hkey
      obtain ⟨y, pz, hrun0, hy⟩ := hmap.look_ok keyedB Try.underlying47 (zero_i64C wr) (R1_mk 0) hkey
      obtain ⟨n0, rfl, hyy⟩ := R1_inv hy
      have hat : D.atKey (L (s0, s1, s2)) (enc1 0) = enc1 n0 := by simp only [Prod.mk.injEq] at hyy; exact hyy.1
      obtain ⟨hb, hhb⟩ : ∃ x, Maps.has D (L (s0, s1, s2)) = x := ⟨_, rfl⟩
      have HLOOK : Hid (∀ W : World, W.ownsMap Try.prog 27 R1 w2.heap.size k D → (Instr.lookup 47 (.map (some w2.heap.size)) (.agg #[.int .i8 s0, .int .i8 s1, .int .i8 s2]) true).run Try.prog W = .ok (.tuple #[.int .i64 n0, .bool hb]) W) := Lib.hid (fun W ho => by
        obtain ⟨y2, pz2, hrun, hy2⟩ := ho.look_ok keyedB Try.underlying47 (zero_i64C W) (R1_mk 0) HKEY.out
        obtain ⟨n2, rfl, hyy2⟩ := R1_inv hy2
        rw [hat] at hyy2
        simp only [Prod.mk.injEq] at hyy2
        rw [enc1_inj hyy2.1, ← hhb]
        exact hrun)
      have HUPD : Hid (∀ W : World, W.ownsMap Try.prog 27 R1 w2.heap.size k D → ∃ w', (Instr.mapUpdate 47 (.map (some w2.heap.size)) (.agg #[.int .i8 s0, .int .i8 s1, .int .i8 s2]) (.int .i64 cv)).run Try.prog W = .ok () w' ∧ w'.ownsMap Try.prog 27 R1 w2.heap.size (k + 1) (D.put (L (s0, s1, s2)) (enc1 cv)) ∧ W.grownBy w' (some w2.heap.size)) := Lib.hid (fun W ho =>
        ho.update keyedB Try.underlying47 (by unfold maxLen; omega) HKEY.out (R1_mk cv))
      have HKN : Hid (0 ≤ cv → KCut L wide (D.put (L (s0, s1, s2)) (enc1 cv))) := Lib.hid (fun h0 => by
        have h := HKC.out.put HMP.out.isMap (keyedB.key HKEY.out) HIN.out (t := (s0, s1, s2)) HKO.out (by simp only; rw [hkcut]; exact h0)
        simp only at h
        rw [hkcut] at h
        exact h)
      have HHIT : Hid (hb = true → n0 = cv ∧ 0 ≤ cv) := Lib.hid (fun h => by
        obtain ⟨e1, e2⟩ := HKC.out (s0, s1, s2) HKO.out (by rw [hhb]; exact h)
        simp only at e1 e2
        rw [hat, hkcut] at e1
        rw [hkcut] at e2
        exact ⟨enc1_inj e1, e2⟩)
      have HLC : Hid (∀ W, Calls Try.prog 24 #[.agg #[.int .i8 s0, .int .i8 s1, .int .i8 s2], .int .i64 wide] W fun e w' => e = .returned (.tuple #[.int .i64 (leastOf cv), .bool (foundOf cv)]) ∧ Below W.heap.size W w') := Lib.hid (fun W => by
        have h := callsIn_wide.1 (ileast_in s0 s1 s2 wide HKO.out W)
        have e : cutOf wide (turnsL (lo3 s0 s1 s2) (mi3 s0 s1 s2) (hi3 s0 s1 s2)) = cv := hkcut
        rw [e] at h
        exact h)
      have hkl : (k : Int) < (m : Int) := by omega
      have HFIN : Hid (∀ W W5 : World, Below wr.heap.size wr W → W5.ownsMap Try.prog 27 R1 w2.heap.size (k + 1) (D.put (L (s0, s1, s2)) (enc1 cv)) → W.grownBy W5 (some w2.heap.size) →
          (W5.setCell ⟨w1.heap.size, k, none⟩ (.int .i64 cv)).ownsRow w1.heap.size 2 1 (.slice (some ⟨w1.heap.size, 0, none⟩) m m) m ((rowK ps wide (k + 1)).map (Value.int .i64)) ∧
          (W5.setCell ⟨w1.heap.size, k, none⟩ (.int .i64 cv)).ownsMap Try.prog 27 R1 w2.heap.size (k + 1) (D.put (L (s0, s1, s2)) (enc1 cv)) ∧ Below w1.heap.size w1 (W5.setCell ⟨w1.heap.size, k, none⟩ (.int .i64 cv)) ∧ W5.cell? ⟨w1.heap.size, k, none⟩ = some (.int .i64 ((rowK ps wide k).getD k 0)) ∧ W5.frozen? ⟨w1.heap.size, k, none⟩ = false) := Lib.hid (fun W W5 hW hm5 hg5 => by
        have h := cf_round (wide := wide) HPM.out hlt hs12 HRW.out hmb hW HB.out hm5 hg5
        rw [HCV.out] at h
        exact h)
      clear hq hcut hcv hokk hkok hkcut hs0 hs1 hs2 hkey hrun0 hy hyy hat hhb hww hrow hmap hkc hh
      go_wp2_with fail
      refine (HSRT.out _).mono ?_
      rintro e w3 ⟨rfl, b3⟩
      have E3 : Below wr.heap.size wr w3 := ((Below.refl _ _).alloc (Nat.le_refl _) _).trans (b3.mono (by simp))
      have E4 : Hid (Below wr.heap.size wr (w3.alloc (.cells #[.int .i8 s0, .int .i8 s1, .int .i8 s2] 27))) := Lib.hid (E3.alloc E3.size _)
      have hM4 := ownsMap_belowC HMP.out E4.out hmb
      have HM4 := Lib.hid hM4
      have hlook := HLOOK.out _ hM4
      have hs3 := E3.size
      clear b3 E3 c0 c1 c2
      cases hb
      · by_cases t : cv < 0
        · have e1 : foundOf cv = false := decide_eq_false (by omega)
          have HE1 := Lib.hid e1
          have HR := Lib.hid (H6' t)
          clear e1 H6' HHS hM4
          go_wp2_with (go_at_call 24; refine (HLC.out _).mono ?_; rintro e w5 ⟨rfl, b5⟩; rw [HE1.out])
          go_ret2
          exact ⟨_, by rw [HR.out.1]; rfl, by rw [HR.out.2]; exact World.ownsRow_nil _ _ _ _, ((HQ.out.trans (HB.out.mono hs01)).trans (E4.out.mono (by omega))).trans (b5.mono (by have := E4.out.size; omega))⟩
        · have e1 : leastOf cv = cv ∧ foundOf cv = true := ⟨by unfold leastOf; rw [if_neg t], decide_eq_true (by omega)⟩
          have HE1 := Lib.hid e1
          have HS2 := Lib.hid (HHS (by omega))
          have HK2 := Lib.hid (HKN.out (by omega))
          clear e1 H6' HHS hM4
          go_wp2_with (go_at_call 24; refine (HLC.out _).mono ?_; rintro e w5 ⟨rfl, b5⟩; rw [HE1.out.1, HE1.out.2]; have E5 : Below wr.heap.size wr w5 := E4.out.trans (b5.mono E4.out.size); obtain ⟨W6, hrun6, ho6, hg6⟩ := HUPD.out w5 (ownsMap_belowC HMP.out E5 hmb); have HF := Lib.hid (HFIN.out w5 W6 E5 ho6 hg6); have f4 := HF.out.2.2.2.1; have f5 := HF.out.2.2.2.2; have y0 : w5.cell? ⟨w3.heap.size, 0, none⟩ = some (.int .i8 s0) := (b5.cell (p := ⟨w3.heap.size, 0, none⟩) (by simp)).trans (by simp); have y1 : w5.cell? ⟨w3.heap.size, 1, none⟩ = some (.int .i8 s1) := (b5.cell (p := ⟨w3.heap.size, 1, none⟩) (by simp)).trans (by simp); have y2 : w5.cell? ⟨w3.heap.size, 2, none⟩ = some (.int .i8 s2) := (b5.cell (p := ⟨w3.heap.size, 2, none⟩) (by simp)).trans (by simp); clear ho6 hg6 E5 b5)
          go_roundw
          case rel => exact ⟨k + 1, _, by omega, by go_num, HF.out.1, HF.out.2.1, HK2.out, HS2.out, HF.out.2.2.1⟩
          case measure => simp [intOf]; omega
      · obtain ⟨rfl, hcv0⟩ := HHIT.out rfl
        have HS2 := Lib.hid (HHS hcv0)
        have HK2 := Lib.hid (HKN.out hcv0)
        obtain ⟨W6, hrun6, ho6, hg6⟩ := HUPD.out _ hM4
        have HF := Lib.hid (HFIN.out _ W6 E4.out ho6 hg6)
        have f4 := HF.out.2.2.2.1
        have f5 := HF.out.2.2.2.2
        clear ho6 hg6 hM4 H6' HHS
        go_wp2_with fail
        go_roundw
        case rel => exact ⟨k + 1, _, by omega, by go_num, HF.out.1, HF.out.2.1, HK2.out, HS2.out, HF.out.2.2.1⟩
        case measure => simp [intOf]; omega
    · have hk' : k = m := by omega
      have HAL : Hid (hasTo ps wide ps.length) := Lib.hid (by rw [HPM.out, ← hk']; exact hh)
      have HR := Lib.hid (H0.out HAL.out)
      have HOF : Hid (OwnI w.heap.size wr (.slice (some ⟨w1.heap.size, 0, none⟩) m m) (cfR ps wide)) := Lib.hid (by
        rw [HR.out.2, HPM.out, ← hk']
        have h : OwnI w1.heap.size wr (.slice (some ⟨w1.heap.size, 0, none⟩) m m) (rowK ps wide k) := by unfold OwnI; rw [rowK_len, HPM.out]; exact hrow
        have h2 := h.mono hs01
        rw [hk'] at h2 ⊢
        exact h2)
      clear hk' hrow hmap hkc hh hww
      go_wp2_with fail
      go_ret2
      exact ⟨_, by rw [HR.out.1]; rfl, HOF.out, HQ.out.trans (HB.out.mono hs01)⟩
end Go.Proofs.Ytpefkdhmkamdaaa
