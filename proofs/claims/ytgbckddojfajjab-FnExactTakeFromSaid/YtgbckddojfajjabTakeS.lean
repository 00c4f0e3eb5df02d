/-
  Contracts of spec.l01Take and spec.TakeFrom: the same plain functions as XTake's.
-/
import Derived.Test.YtgbckddojfajjabTake
namespace Go.Proofs.Ytgbckddojfajjab
open Go Go.RowKit
set_option linter.unusedVariables false

/-- A first answer, and the first k counts not negative. -/
def posB (b : Bool) (cs : List Int) : Nat → Bool
  | 0 => b
  | k + 1 => posB b cs k && decide (0 ≤ cs.getD k 0)
theorem posB_spec (b : Bool) (cs : List Int) (k : Nat) : posB b cs k = true ↔ b = true ∧ ∀ j, j < k → 0 ≤ cs.getD j 0 := by
  induction k with
  | zero => simp [posB]
  | succ k ih =>
    rw [posB, Bool.and_eq_true, ih, decide_eq_true_iff]
    constructor
    · rintro ⟨⟨h1, h2⟩, h3⟩
      exact ⟨h1, fun j hj => by rcases Nat.lt_succ_iff_lt_or_eq.1 hj with h | rfl; exact h2 j h; exact h3⟩
    · rintro ⟨h1, h2⟩
      exact ⟨⟨h1, fun j hj => h2 j (by omega)⟩, h2 k (by omega)⟩
theorem posB_no {b : Bool} {cs : List Int} {k : Nat} (h : posB b cs k = false) : b = false ∨ ∃ j, j < k ∧ cs.getD j 0 < 0 := by
  induction k with
  | zero => exact .inl h
  | succ k ih =>
    rw [posB, Bool.and_eq_false_iff] at h
    rcases h with h | h
    · rcases ih h with h | ⟨j, h1, h2⟩
      · exact .inl h
      · exact .inr ⟨j, by omega, h2⟩
    · exact .inr ⟨k, by omega, by simpa using h⟩

set_option maxHeartbeats 4000000 in
set_option maxRecDepth 100000 in
theorem stake1_row (b b2 len cap cap2 : Nat) (ps : List (Int × Int)) (cs : List Int) (hl : ps.length = len) (hcl : cs.length = len) (h8 : len ≤ 8) (hv : RiseS ps ps.length) (hf : Fits ps cs) (w : World) (hc : CellsP w b ps) (hd : Cells w b2 cs) :
    Calls Try.prog 47 #[.slice (some ⟨b, 0, none⟩) len cap, .slice (some ⟨b2, 0, none⟩) len cap2] w (RetP 49 w.heap.size w (takeK ps cs len)) := by
  obtain ⟨i0, hi, hz0, hz1, hz2⟩ := info_parts info_stamp
  have hb0 : Below w.heap.size w (w.alloc (.cells #[] 49)) := (Below.refl _ _).alloc (Nat.le_refl _) _
  have HO : Hid ((w.alloc (.cells #[] 49)).ownsRow w.heap.size 49 2 (.slice (some ⟨w.heap.size, 0, none⟩) 0 0) 0 []) := Lib.hid (World.ownsRow_made w #[] 0 (Nat.le_refl _) (Nat.zero_le _) rfl)
  have HN := Lib.hid (flatP_cells (hc.below hb0))
  have HB := Lib.hid hb0
  have HFL : Hid ((flatP ps).length = len * 2) := Lib.hid (by rw [flatP_length, hl])
  have HL := Lib.hid hl
  have HCL := Lib.hid hcl
  have HV := Lib.hid hv
  have HF := Lib.hid hf
  have HD := Lib.hid hd
  clear hb0 hc hl hcl hv hf hd
  go_enter Try.func47, Try.ntmps47
  go_wp2_with (at_builtin; refine wpList_append_own _ rfl _ _ 25 rfl w.heap.size 49 i0 (.agg #[.int .i16 0, .int .i16 0]) 2 4 Try.underlying25 hi hz0 hz1 hz2 rfl (by decide) _ _ _ rfl HO.out ⟨b, 0, none⟩ len cap (flatP ps) rfl HFL.out HN.out (flatP_oneCell ps) (by unfold maxLen; omega) (by omega) (by simp) ?_)
  intro v' w3 hown' hgrow _
  have o3 : OwnP 49 w.heap.size w3 v' ps := by rw [← HL.out] at hown'; simpa [OwnP] using hown'
  have HB2 : Hid (Below w.heap.size w w3) := Lib.hid (HB.out.grown hgrow (by simp) (fun j hj => by simp [Value.ownBlock] at hj; omega))
  clear hown' hgrow
  have HO3 := Lib.hid o3
  rcases o3.cases with ⟨hv0, hnil⟩ | ⟨g, gc, rfl, q1, q2, q3, q4, q5, q6⟩
  · have hl0 : len = 0 := by rw [← HL.out, hnil]; rfl
    subst hl0
    subst hnil
    obtain ⟨a, c, hva, hoa⟩ : ∃ (a : Option Addr) (c : Nat), v' = .slice a 0 c ∧ OwnP 49 w.heap.size w3 (.slice a 0 c) [] := ⟨none, 0, hv0, by rw [← hv0]; exact o3⟩
    have HOA := Lib.hid hoa
    clear o3 HO3 hv0 hoa
    subst hva
    go_wp2_with fail
    refine wp_loop_rounds 1 ?_
    rw [rounds_succ]
    go_wp2_with fail
    go_ret
    exact ⟨_, rfl, HOA.out, HB2.out⟩
  · rw [HL.out] at HO3 q3 ⊢
    have hg : w.heap.size ≤ g := by omega
    clear o3 q5 q6
    go_wp2_with fail
    go_loopw [6] (fun i wr => ∃ k : Nat, k ≤ len ∧ i = .int .i64 k ∧ wr.ownsRow w.heap.size 49 2 (.slice (some ⟨g, 0, none⟩) len gc) len (flatP (takeK ps cs k)) ∧ Below w.heap.size w wr) (fun i _ => len - (intOf i).toNat)
    case atStart => exact ⟨0, Nat.zero_le _, rfl, by have h := HO3.out; unfold OwnP at h; rw [HL.out] at h; exact h, HB2.out⟩
    case round =>
      obtain ⟨k, hk, rfl, hown, hnx⟩ := hrel
      by_cases hlt : k < len
      · have hkl : k < ps.length := by have := HL.out; omega
        have htl := takeK_length ps cs k
        have d1 := hown.cellAt (k * 2 + 1) (by omega)
        rw [flatP_1 _ _ (by rw [htl]; exact hkl), takeK_get ps cs k k (Nat.le_refl _)] at d1
        have f1 := hown.frozenAt (k * 2 + 1)
        have a1 := (HD.out.below hnx) k (by have := HCL.out; omega)
        have hfit := HF.out k hkl
        have hok := HV.out k hkl
        unfold okS at hok
        have S := (hown.stored (k * 2 + 1) (.int .i16 ((ps.getD k (0, 0)).2 - cs.getD k 0))).1
        rw [flatP_set1 _ _ _ (by rw [htl]; exact hkl), takeK_get ps cs k k (Nat.le_refl _)] at S
        have HS : Hid ((wr.setCell ⟨g, k * 2 + 1, none⟩ (.int .i16 ((ps.getD k (0, 0)).2 - cs.getD k 0))).ownsRow w.heap.size 49 2 (.slice (some ⟨g, 0, none⟩) len gc) len (flatP (takeK ps cs (k + 1)))) := Lib.hid S
        obtain ⟨y, hy⟩ : ∃ y, (ps.getD k (0, 0)).2 = y := ⟨_, rfl⟩
        obtain ⟨c, hcc⟩ : ∃ c, cs.getD k 0 = c := ⟨_, rfl⟩
        rw [hy] at d1 hfit HS hok
        rw [hcc] at a1 hfit HS
        have hc1 := hfit.1
        have hc2 := hfit.2
        have hy2 := hok.2.2.2
        have HBX := Lib.hid hnx
        have hkn : (k : Int) < (len : Int) := by omega
        clear hy hcc S hown hnx hfit hok htl
        go_wp2_with fail
        go_region
        go_wp2_with fail
        go_roundw
        case rel => exact ⟨k + 1, by omega, by go_num, HS.out, (HBX.out.setCell hg _).drew⟩
        case measure => simp [intOf]; omega
      · have hk' : k = len := by omega
        have HO4 : Hid (OwnP 49 w.heap.size wr (.slice (some ⟨g, 0, none⟩) len gc) (takeK ps cs len)) := Lib.hid (by
          rw [hk'] at hown
          unfold OwnP
          rw [takeK_length, HL.out]; exact hown)
        have HBX := Lib.hid hnx
        clear hk' hown hnx
        go_wp2_with fail
        go_ret
        exact ⟨_, rfl, HO4.out, HBX.out⟩

theorem takeErr {ps : List (Int × Int)} {cs : List Int} {c : Int} {w0 w : World} (hc : codeT ps cs = c) (hr : takeRes ps cs = []) (hb : Below w0.heap.size w0 w) :
    RetRowP 49 w0.heap.size w0 (takeRes ps cs) (codeT ps cs) (.returned (.tuple #[.slice (some ⟨w.heap.size, 0, none⟩) 0 0, .int .i64 c])) (w.alloc (.cells #[] 49)) := by
  rw [hc, hr]
  exact ⟨_, rfl, OwnP.mono (World.ownsRow_made w #[] 0 (Nat.le_refl _) (Nat.zero_le _) rfl) hb.size, hb.alloc hb.size _⟩

set_option maxHeartbeats 8000000 in
set_option maxRecDepth 100000 in
theorem stake_row (b b2 cap cap2 n : Nat) (ps : List (Int × Int)) (cs : List Int) (hn : cs.length = n) (hp : ps.length ≤ 1048576) (hcl : n ≤ 1048576) (hi16 : I16 ps) (w0 : World) (hc0 : CellsP w0 b ps) (hd0 : Cells w0 b2 cs) :
    Calls Try.prog 28 #[.slice (some ⟨b, 0, none⟩) ps.length cap, .slice (some ⟨b2, 0, none⟩) n cap2] w0 (RetRowP 49 w0.heap.size w0 (takeRes ps cs) (codeT ps cs)) := by
  have hrd : ReadsP w0 (.slice (some ⟨b, 0, none⟩) ps.length cap) ps := ⟨_, cap, rfl, fun _ => ⟨b, rfl, hc0⟩⟩
  have HNN := Lib.hid hn
  have HI := Lib.hid hi16
  clear hi16
  cases hvl : vldS ps
  · have HC := Lib.hid (codeT_1 (cs := cs) hvl)
    have HR := Lib.hid (takeRes_not HC.out (by omega))
    rw [HC.out, HR.out]
    clear hn hc0 hd0
    go_enter Try.func28, Try.ntmps28
    go_wp2_with fail
    refine (sstock_any _ ps _ hrd HI.out hp).mono ?_
    rintro e w ⟨rfl, bb⟩
    rw [hvl]
    have HB := Lib.hid bb
    clear bb
    go_wp2_with fail
    go_ret2
    exact ⟨_, rfl, OwnP.mono (World.ownsRow_made w #[] 0 (Nat.le_refl _) (Nat.zero_le _) rfl) HB.out.size, HB.out.alloc HB.out.size _⟩
  · obtain ⟨h8, hri⟩ := vldS_spec hvl
    obtain ⟨m, hm⟩ : ∃ m, ps.length = m := ⟨_, rfl⟩
    rw [hm] at hrd hp h8 ⊢
    have HM := Lib.hid hm
    have HV := Lib.hid hvl
    have HRI := Lib.hid hri
    obtain ⟨q, hq⟩ : ∃ q, ((n : Int) == (m : Int)) = q := ⟨_, rfl⟩
    have HQ := Lib.hid hq
    clear hm hn hri
    go_enter Try.func28, Try.ntmps28
    go_wp2_with fail
    refine (sstock_any _ ps _ hrd HI.out (by rw [HM.out]; exact hp)).mono ?_
    rintro e w ⟨rfl, bb⟩
    rw [hvl]
    have hc := hc0.below bb
    have hd := hd0.below bb
    have HB := Lib.hid bb
    clear hvl hc0 hd0 bb hrd
    go_wp2_with fail
    try rw [HQ.out]
    have HC := Lib.hid hc
    have HD := Lib.hid hd
    clear hq hc hd
    go_loop [6, 7] (fun o i => ∃ k : Nat, k ≤ n ∧ i = .int .i64 k ∧ o = .bool (posB q cs k)) (fun o i => n - (intOf i).toNat)
    case atStart => exact ⟨0, Nat.zero_le _, rfl, rfl⟩
    case round =>
      obtain ⟨k, hk, rfl, rfl⟩ := hrel
      by_cases hlt : k < n
      · have dx := HD.out k (by have := HNN.out; omega)
        obtain ⟨x, hx⟩ : ∃ x, cs.getD k 0 = x := ⟨_, rfl⟩
        rw [hx] at dx
        obtain ⟨p, hp1⟩ : ∃ p, posB q cs k = p := ⟨_, rfl⟩
        obtain ⟨r, hr⟩ : ∃ r, posB q cs (k + 1) = r := ⟨_, rfl⟩
        have hpr : r = (p && decide (0 ≤ x)) := by rw [← hr, ← hp1, ← hx]; rfl
        have HR := Lib.hid hr
        rw [hp1]
        cases p
        · have hr0 : Hid (r = false) := Lib.hid (by rw [hpr]; rfl)
          clear hpr hp1 hr hx
          go_wp2_with fail
          go_round
          case rel => exact ⟨k + 1, by omega, by go_num, by rw [HR.out, hr0.out]⟩
          case measure => simp [intOf]; omega
        · by_cases hneg : 0 ≤ x
          · have hr0 : Hid (r = true) := Lib.hid (by rw [hpr]; simpa using hneg)
            clear hpr hp1 hr hx
            go_wp2_with fail
            go_round
            case rel => exact ⟨k + 1, by omega, by go_num, by rw [HR.out, hr0.out]⟩
            case measure => simp [intOf]; omega
          · have hr0 : Hid (r = false) := Lib.hid (by rw [hpr]; simpa using hneg)
            clear hpr hp1 hr hx
            go_wp2_with fail
            go_round
            case rel => exact ⟨k + 1, by omega, by go_num, by rw [HR.out, hr0.out]⟩
            case measure => simp [intOf]; omega
      · have hk' : k = n := by omega
        subst hk'
        obtain ⟨p, hp1⟩ : ∃ p, posB q cs k = p := ⟨_, rfl⟩
        have HP1 := Lib.hid hp1
        rw [hp1]
        clear hp1
        cases p
        · have HCD := Lib.hid (codeT_2 HV.out (by
            rcases posB_no HP1.out with h | ⟨j, h1, h2⟩
            · refine .inl fun e => ?_
              have := HQ.out
              rw [HNN.out, HM.out] at e
              rw [h, e] at this
              simp at this
            · exact .inr ⟨j, by rw [HNN.out]; exact h1, h2⟩) : codeT ps cs = 2)
          have HR := Lib.hid (takeRes_not HCD.out (by omega))
          go_wp2_with fail
          go_ret2
          exact takeErr HCD.out HR.out HB.out
        · have hpos := (posB_spec q cs k).1 HP1.out
          have hkm : k = m := by
            have h1 := HQ.out
            rw [hpos.1] at h1
            have := eq_of_beq h1
            omega
          have HPOS := Lib.hid hpos.2
          clear hpos
          subst hkm
          have HNG : Hid (¬ (cs.length ≠ ps.length ∨ NegIn cs)) := Lib.hid (by
            rintro (h | ⟨i, hi, hi2⟩)
            · exact h (by rw [HNN.out, HM.out])
            · have := HPOS.out i (by rw [← HNN.out]; exact hi); omega)
          go_wp2_with fail
          go_loopw [8] (fun i wr => ∃ j : Nat, j ≤ k ∧ i = .int .i64 j ∧ (∀ t, t < j → cs.getD t 0 ≤ (ps.getD t (0, 0)).2) ∧ Below w0.heap.size w0 wr ∧ CellsP wr b ps ∧ Cells wr b2 cs) (fun i _ => k - (intOf i).toNat)
          case atStart => exact ⟨0, Nat.zero_le _, rfl, fun j hj => by omega, HB.out, HC.out, HD.out⟩
          case round =>
            obtain ⟨j, hj, rfl, hall, hbr, hcr, hdr⟩ := hrel
            have HALL := Lib.hid hall
            have HBR := Lib.hid hbr
            have HCR := Lib.hid hcr
            have HDR := Lib.hid hdr
            clear hbr hcr hdr
            by_cases hltj : j < k
            · have dx := HDR.out j (by have := HNN.out; omega)
              have dy := (HCR.out j (by have := HM.out; omega)).2
              have hb16 := HI.out.get j (by have := HM.out; omega)
              obtain ⟨x, hx⟩ : ∃ x, cs.getD j 0 = x := ⟨_, rfl⟩
              obtain ⟨y, hy⟩ : ∃ y, (ps.getD j (0, 0)).2 = y := ⟨_, rfl⟩
              rw [hx] at dx
              rw [hy] at dy hb16
              have HX := Lib.hid hx
              have HY := Lib.hid hy
              have hy1 := hb16.2.2.1
              have hy2 := hb16.2.2.2
              have hjk : (j : Int) < (k : Int) := by omega
              clear hall hx hy hb16
              by_cases hov : y < x
              · have HCD := Lib.hid (codeT_4 HV.out HNG.out ⟨j, by have := HNN.out; omega, by rw [HX.out, HY.out]; exact hov⟩ : codeT ps cs = 4)
                have HR := Lib.hid (takeRes_not HCD.out (by omega))
                go_wp2_with fail
                go_region
                all_goals go_wp2_with fail
                all_goals go_ret2
                all_goals exact takeErr HCD.out HR.out HBR.out.drew
              · go_wp2_with fail
                go_region
                go_wp2_with fail
                go_roundw
                case rel =>
                  refine ⟨j + 1, by omega, by go_num, fun t ht => ?_, HBR.out.drew, HCR.out.below (Below.refl _ _).drew, HDR.out.below (Below.refl _ _).drew⟩
                  by_cases e : t = j
                  · subst e; rw [HX.out, HY.out]; omega
                  · exact HALL.out t (by omega)
                case measure => simp [intOf]; omega
            · have hj' : j = k := by omega
              have HFIT : Hid (Fits ps cs) := Lib.hid (fun i hi => ⟨HPOS.out i (by have := HM.out; omega), HALL.out i (by have := HM.out; omega)⟩)
              have HCD := Lib.hid (codeT_0 HV.out HNG.out (by
                rintro ⟨i, hi, hi2⟩
                have := HALL.out i (by have := HNN.out; omega); omega) : codeT ps cs = 0)
              have HR := Lib.hid (takeRes_ok HCD.out)
              have HT := Lib.hid (stake1_row b b2 k cap cap2 ps cs HM.out HNN.out (by omega) HRI.out HFIT.out wr HCR.out HDR.out)
              clear hall hj'
              go_wp2_with fail
              refine HT.out.mono ?_
              rintro e w4 ⟨v, rfl, o4, b4⟩
              have HO4 : Hid (OwnP 49 w0.heap.size w4 v (takeK ps cs ps.length)) := Lib.hid (by rw [HM.out]; exact o4.mono HBR.out.size)
              have HB4 := Lib.hid (blink HBR.out b4)
              clear o4 b4
              go_wp2_with fail
              go_ret2
              exact ⟨v, (by first | rfl | (rw [HCD.out]; rfl)), (by rw [HR.out]; exact HO4.out), HB4.out⟩
end Go.Proofs.Ytgbckddojfajjab
